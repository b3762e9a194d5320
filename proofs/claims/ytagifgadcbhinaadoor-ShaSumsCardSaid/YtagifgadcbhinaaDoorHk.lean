/- A block pressed into the state. -/
import Derived.Test.YtagifgadcbhinaaDoorHh
namespace Go.Proofs.YtagifgadcbhinaaDoor
set_option linter.unusedVariables false
set_option linter.unusedSimpArgs false
open Go Go.RowKit

theorem rnds_succ (K W : List Nat) (s : S8) (n : Nat) : rnds K W s (n + 1) = rnd (K.getD n 0) (W.getD n 0) (rnds K W s n) := rfl
theorem rnds_zero (K W : List Nat) (s : S8) : rnds K W s 0 = s := rfl
theorem press_def (bl : List Nat) (h : S8) : press bl h = addS (rnds HK (sched (wordsTo bl 16) 64) h 80) h := rfl
/-- The first k of a row added. -/
def addl (p q : List Nat) : Nat → List Nat
  | 0 => p
  | k + 1 => (addl p q k).set k ((p.getD k 0 + q.getD k 0) % 18446744073709551616)
theorem addl_len (p q : List Nat) : ∀ k, (addl p q k).length = p.length
  | 0 => rfl
  | k + 1 => by rw [addl, List.length_set, addl_len p q k]
theorem addl_get (p q : List Nat) : ∀ k i, k ≤ i → (addl p q k).getD i 0 = p.getD i 0
  | 0, _, _ => rfl
  | k + 1, i, h => by
    rw [addl, List.getD, List.getElem?_set_ne (by omega), ← List.getD]
    exact addl_get p q k i (by omega)
theorem addl_zero (p q : List Nat) : addl p q 0 = p := rfl
theorem addl_succ (p q : List Nat) (k : Nat) : addl p q (k + 1) = (addl p q k).set k ((p.getD k 0 + q.getD k 0) % 18446744073709551616) := rfl
theorem addl_eight (s t : S8) : addl s.l t.l 8 = (addS s t).l := rfl
theorem rnd_eq (k w : Nat) (s : S8) (x y z u : Nat) (hx : x = xN k w s) (hy : y = yN s) (hz : z = (x + y) % 18446744073709551616) (hu : u = (s.d + x) % 18446744073709551616) : rnd k w s = ⟨z, s.a, s.b, s.c, u, s.e, s.f, s.g⟩ := by
  rw [hz, hu, hx, hy]
  rfl
theorem ones_xor (x : Nat) (hx : x < 18446744073709551616) : 18446744073709551615 ^^^ x = 18446744073709551615 - x := by
  have h := BitVec.toNat_not (x := BitVec.ofNat 64 x)
  rw [BitVec.not_def, BitVec.toNat_xor, BitVec.toNat_allOnes, BitVec.toNat_ofNat, Nat.mod_eq_of_lt (by omega)] at h
  exact h
theorem not_nat (x : Nat) (hx : x < 18446744073709551616) : bits .xor .u64 (if IntKind.u64.signed = true then -1 else IntKind.u64.max) (x : Int) = ((18446744073709551615 - x : Nat) : Int) := by
  rw [← ones_xor x hx, ← u64_xor_nat _ _ (by omega) hx]
  rfl
attribute [local irreducible] be HK fill wordsTo sched sw rnds rnd xN yN chN majN turnN addl addS press
set_option maxRecDepth 100000 in
set_option maxHeartbeats 4000000 in
theorem pressed_any (s : S8) (A : Option Addr) (c B : Nat) (l : List UInt8) (gk ok : Nat) (w : World) (hs : s.ok) (hl : BS w B A 128 c l) (hBw : B ≤ w.heap.size) (hgk : gk < w.heap.size)
    (hK : ∀ t, t < 80 → w.cell? ⟨gk, ok + t, none⟩ = some (.int .u64 ((HK.getD t 0 : Nat) : Int))) :
    Calls Tryd.prog 19 #[.agg (us s.l), .slice A 128 c, .pointer (some ⟨gk, ok, none⟩)] w (RowPost (press (bn l) s).l w) := by
  have f0 := ((Fr.start w).row (us s.l) 39 (g := w.heap.size) rfl).any (us (fill HS 0)) 39 8 zlen_HS (g := w.heap.size + 1) (by simp)
  rw [us_zero8] at f0
  have k3 := f0.get (g := w.heap.size) (t := 39) (cs := us s.l) (by simp)
  have hcap := hl.cap
  have hlen : (bn l).length = 128 := by rw [bn_len, hl.len]
  have hl0 := (hl.alloc hBw (.cells (us s.l) 39)).alloc (by simp; omega) (.cells #[.int .u64 0, .int .u64 0, .int .u64 0, .int .u64 0, .int .u64 0, .int .u64 0, .int .u64 0, .int .u64 0] 39)
  have hsc := schedule_any A c B l _ hl0 (by simp; omega)
  have HSC := Lib.hid hsc
  have hwl : (sched (wordsTo (bn l) 16) 64).length = 80 := by rw [sched_len, wordsTo_len (by omega)]
  rw [press_def]
  obtain ⟨Wl, hW⟩ : ∃ q, q = sched (wordsTo (bn l) 16) 64 := ⟨_, rfl⟩
  rw [← hW] at hwl ⊢
  obtain ⟨R, hR⟩ : ∃ q, q = addS (rnds HK Wl s 80) s := ⟨_, rfl⟩
  rw [← hR]
  have HR := Lib.hid hR
  clear hR
  have HW := Lib.hid hW
  have F0 := Lib.hid f0
  have HKK := Lib.hid hK
  have HSO := Lib.hid hs
  clear f0 hl hl0 hlen hsc hW hK hs
  have hz80 : ∀ W : World, (zeroValue 41).run Tryd.prog W = .ok (.agg (us (fill HK 0))) W := zero_k80
  go_enter Tryd.func19, Tryd.ntmps19
  go_wp2_with (fail)
  refine HSC.out.mono ?_
  rintro e v ⟨rfl, hb⟩
  rw [← HW.out]
  have f1 := F0.out.ext hb
  have hv : w.heap.size + 1 < v.heap.size := by have := hb.size; simp at this; omega
  have f2 := f1.row (us (fill HK 0)) 41 rfl
  generalize hg7 : v.heap.size = g7 at *
  have k7 := f2.get (g := g7) (t := 41) (cs := us (fill HK 0)) (by simp)
  have f3 := f2.setRowHead (by simp <;> omega) (by simp <;> omega) (us Wl) (by omega)
  have k3b := f3.get (g := w.heap.size) (t := 39) (cs := us s.l) (by simp)
  have hs7 : ((v.alloc (.cells (us (fill HK 0)) 41)).setRow g7 (us Wl)).heap.size = g7 + 1 := by simp [World.setRow, hg7]
  have f4 := f3.row (us (fill HS 0)) 39 (g := g7 + 1) hs7.symm
  have k8 := f4.get (g := g7 + 1) (t := 39) (cs := us (fill HS 0)) (by simp)
  have f5 := f4.setRowHead (by simp <;> omega) (by simp <;> omega) (us s.l) (by omega)
  rw [us_zero8] at k8 f5
  have k9 := f5.get (g := g7 + 1) (t := 39) (cs := us s.l) (by simp)
  have c0 := k9.cell 0
  rw [us_at (i := 0) (x := s.a) rfl] at c0
  have c1 := k9.cell 1
  rw [us_at (i := 1) (x := s.b) rfl] at c1
  have c2 := k9.cell 2
  rw [us_at (i := 2) (x := s.c) rfl] at c2
  have c3 := k9.cell 3
  rw [us_at (i := 3) (x := s.d) rfl] at c3
  have c4 := k9.cell 4
  rw [us_at (i := 4) (x := s.e) rfl] at c4
  have c5 := k9.cell 5
  rw [us_at (i := 5) (x := s.f) rfl] at c5
  have c6 := k9.cell 6
  rw [us_at (i := 6) (x := s.g) rfl] at c6
  have c7 := k9.cell 7
  rw [us_at (i := 7) (x := s.h) rfl] at c7
  have F5 := Lib.hid f5
  have HI := Lib.hid (info_us (T := 41) size_k80 hwl)
  have HZ := Lib.hid (show (us (fill HK 0)).size = (us Wl).size by rw [zlen_HK, us_size, hwl])
  clear f1 f2 f3 f4 f5 hb F0 k9 HSC
  go_wp2_with (first | (refine wpList_store_row rfl 41 (.tmp 7) (.tmp 22) rfl g7 (us Wl) rfl rfl 41 _ k7 HI.out HZ.out (us_one _) ?_) | (refine wpList_load_row rfl 39 (.tmp 3) rfl (w.heap.size) rfl 39 (us s.l) (0, 0) _ k3b Tryd.underlying39 rfl (info_us size_hst rfl) ?_) | (refine wpList_store_row rfl 39 (.tmp 8) (.tmp 23) rfl (g7 + 1) (us s.l) rfl rfl 39 _ k8 (info_us size_hst rfl) rfl (us_one _) ?_))
  refine wp_region_held_drew (S := fun W => W.cell? ⟨g7 + 1, 0, none⟩ = some (.int .u64 (s.a : Int)) ∧ W.cell? ⟨g7 + 1, 1, none⟩ = some (.int .u64 (s.b : Int)) ∧ W.cell? ⟨g7 + 1, 2, none⟩ = some (.int .u64 (s.c : Int)) ∧ W.cell? ⟨g7 + 1, 3, none⟩ = some (.int .u64 (s.d : Int)) ∧ W.cell? ⟨g7 + 1, 4, none⟩ = some (.int .u64 (s.e : Int)) ∧ W.cell? ⟨g7 + 1, 5, none⟩ = some (.int .u64 (s.f : Int)) ∧ W.cell? ⟨g7 + 1, 6, none⟩ = some (.int .u64 (s.g : Int)) ∧ W.cell? ⟨g7 + 1, 7, none⟩ = some (.int .u64 (s.h : Int))) (by kernel_rfl) ?_ (fun hHeld => ?_)
  · exact ⟨c0, c1, c2, c3, c4, c5, c6, c7⟩
  refine wpAnyH_take (i := 0) (v := ?_) rfl (by kernel_rfl) (by kernel_rfl) (by kernel_rfl) (fun _ _ _ h => h) (Or.inl ⟨by rfl, ?_⟩) hHeld ?_
  rotate_left
  · (intro W hSw; (try dsimp only at hSw); (try simp only [List.getElem_toArray, List.getElem_cons_succ, List.getElem_cons_zero]); go_simp; try with_reducible rfl)
  try simp only [Act.put, List.getElem_toArray, List.getElem_cons_succ, List.getElem_cons_zero, List.setIfInBounds_toArray, List.set_cons_zero, List.set_cons_succ]
  refine wpAnyH_take (i := 1) (v := ?_) rfl (by kernel_rfl) (by kernel_rfl) (by kernel_rfl) (fun _ _ _ h => h) (Or.inl ⟨by rfl, ?_⟩) hHeld ?_
  rotate_left
  · (intro W hSw; (try dsimp only at hSw); (try simp only [List.getElem_toArray, List.getElem_cons_succ, List.getElem_cons_zero]); go_simp; try with_reducible rfl)
  try simp only [Act.put, List.getElem_toArray, List.getElem_cons_succ, List.getElem_cons_zero, List.setIfInBounds_toArray, List.set_cons_zero, List.set_cons_succ]
  refine wpAnyH_take (i := 2) (v := ?_) rfl (by kernel_rfl) (by kernel_rfl) (by kernel_rfl) (fun _ _ _ h => h) (Or.inl ⟨by rfl, ?_⟩) hHeld ?_
  rotate_left
  · (intro W hSw; (try dsimp only at hSw); (try simp only [List.getElem_toArray, List.getElem_cons_succ, List.getElem_cons_zero]); go_simp; try with_reducible rfl)
  try simp only [Act.put, List.getElem_toArray, List.getElem_cons_succ, List.getElem_cons_zero, List.setIfInBounds_toArray, List.set_cons_zero, List.set_cons_succ]
  refine wpAnyH_take (i := 3) (v := ?_) rfl (by kernel_rfl) (by kernel_rfl) (by kernel_rfl) (fun _ _ _ h => h) (Or.inl ⟨by rfl, ?_⟩) hHeld ?_
  rotate_left
  · (intro W hSw; (try dsimp only at hSw); (try simp only [List.getElem_toArray, List.getElem_cons_succ, List.getElem_cons_zero]); go_simp; try with_reducible rfl)
  try simp only [Act.put, List.getElem_toArray, List.getElem_cons_succ, List.getElem_cons_zero, List.setIfInBounds_toArray, List.set_cons_zero, List.set_cons_succ]
  refine wpAnyH_take (i := 4) (v := ?_) rfl (by kernel_rfl) (by kernel_rfl) (by kernel_rfl) (fun _ _ _ h => h) (Or.inl ⟨by rfl, ?_⟩) hHeld ?_
  rotate_left
  · (intro W hSw; (try dsimp only at hSw); (try simp only [List.getElem_toArray, List.getElem_cons_succ, List.getElem_cons_zero]); go_simp; try with_reducible rfl)
  try simp only [Act.put, List.getElem_toArray, List.getElem_cons_succ, List.getElem_cons_zero, List.setIfInBounds_toArray, List.set_cons_zero, List.set_cons_succ]
  refine wpAnyH_take (i := 5) (v := ?_) rfl (by kernel_rfl) (by kernel_rfl) (by kernel_rfl) (fun _ _ _ h => h) (Or.inl ⟨by rfl, ?_⟩) hHeld ?_
  rotate_left
  · (intro W hSw; (try dsimp only at hSw); (try simp only [List.getElem_toArray, List.getElem_cons_succ, List.getElem_cons_zero]); go_simp; try with_reducible rfl)
  try simp only [Act.put, List.getElem_toArray, List.getElem_cons_succ, List.getElem_cons_zero, List.setIfInBounds_toArray, List.set_cons_zero, List.set_cons_succ]
  refine wpAnyH_take (i := 6) (v := ?_) rfl (by kernel_rfl) (by kernel_rfl) (by kernel_rfl) (fun _ _ _ h => h) (Or.inl ⟨by rfl, ?_⟩) hHeld ?_
  rotate_left
  · (intro W hSw; (try dsimp only at hSw); (try simp only [List.getElem_toArray, List.getElem_cons_succ, List.getElem_cons_zero]); go_simp; try with_reducible rfl)
  try simp only [Act.put, List.getElem_toArray, List.getElem_cons_succ, List.getElem_cons_zero, List.setIfInBounds_toArray, List.set_cons_zero, List.set_cons_succ]
  refine wpAnyH_take (i := 7) (v := ?_) rfl (by kernel_rfl) (by kernel_rfl) (by kernel_rfl) (fun _ _ _ h => h) (Or.inl ⟨by rfl, ?_⟩) hHeld ?_
  rotate_left
  · (intro W hSw; (try dsimp only at hSw); (try simp only [List.getElem_toArray, List.getElem_cons_succ, List.getElem_cons_zero]); go_simp; try with_reducible rfl)
  try simp only [Act.put, List.getElem_toArray, List.getElem_cons_succ, List.getElem_cons_zero, List.setIfInBounds_toArray, List.set_cons_zero, List.set_cons_succ]
  refine wpAnyH_take (i := 8) (v := ?_) rfl (by kernel_rfl) (by kernel_rfl) (by kernel_rfl) (fun _ _ _ h => h) (Or.inl ⟨by rfl, ?_⟩) hHeld ?_
  rotate_left
  · (intro W hSw; (try dsimp only at hSw); (try simp only [List.getElem_toArray, List.getElem_cons_succ, List.getElem_cons_zero]); go_simp; try with_reducible rfl)
  try simp only [Act.put, List.getElem_toArray, List.getElem_cons_succ, List.getElem_cons_zero, List.setIfInBounds_toArray, List.set_cons_zero, List.set_cons_succ]
  refine wpAnyH_take (i := 9) (v := ?_) rfl (by kernel_rfl) (by kernel_rfl) (by kernel_rfl) (fun _ _ _ h => h) (Or.inl ⟨by rfl, ?_⟩) hHeld ?_
  rotate_left
  · (intro W hSw; (try dsimp only at hSw); (try simp only [List.getElem_toArray, List.getElem_cons_succ, List.getElem_cons_zero]); go_simp; try with_reducible rfl)
  try simp only [Act.put, List.getElem_toArray, List.getElem_cons_succ, List.getElem_cons_zero, List.setIfInBounds_toArray, List.set_cons_zero, List.set_cons_succ]
  refine wpAnyH_take (i := 10) (v := ?_) rfl (by kernel_rfl) (by kernel_rfl) (by kernel_rfl) (fun _ _ _ h => h) (Or.inl ⟨by rfl, ?_⟩) hHeld ?_
  rotate_left
  · (intro W hSw; (try dsimp only at hSw); (try simp only [List.getElem_toArray, List.getElem_cons_succ, List.getElem_cons_zero]); go_simp; try with_reducible rfl)
  try simp only [Act.put, List.getElem_toArray, List.getElem_cons_succ, List.getElem_cons_zero, List.setIfInBounds_toArray, List.set_cons_zero, List.set_cons_succ]
  refine wpAnyH_take (i := 11) (v := ?_) rfl (by kernel_rfl) (by kernel_rfl) (by kernel_rfl) (fun _ _ _ h => h) (Or.inl ⟨by rfl, ?_⟩) hHeld ?_
  rotate_left
  · (intro W hSw; (try dsimp only at hSw); (try simp only [List.getElem_toArray, List.getElem_cons_succ, List.getElem_cons_zero]); go_simp; try with_reducible rfl)
  try simp only [Act.put, List.getElem_toArray, List.getElem_cons_succ, List.getElem_cons_zero, List.setIfInBounds_toArray, List.set_cons_zero, List.set_cons_succ]
  refine wpAnyH_take (i := 12) (v := ?_) rfl (by kernel_rfl) (by kernel_rfl) (by kernel_rfl) (fun _ _ _ h => h) (Or.inl ⟨by rfl, ?_⟩) hHeld ?_
  rotate_left
  · (intro W hSw; (try dsimp only at hSw); (try simp only [List.getElem_toArray, List.getElem_cons_succ, List.getElem_cons_zero]); go_simp; try with_reducible rfl)
  try simp only [Act.put, List.getElem_toArray, List.getElem_cons_succ, List.getElem_cons_zero, List.setIfInBounds_toArray, List.set_cons_zero, List.set_cons_succ]
  refine wpAnyH_take (i := 13) (v := ?_) rfl (by kernel_rfl) (by kernel_rfl) (by kernel_rfl) (fun _ _ _ h => h) (Or.inl ⟨by rfl, ?_⟩) hHeld ?_
  rotate_left
  · (intro W hSw; (try dsimp only at hSw); (try simp only [List.getElem_toArray, List.getElem_cons_succ, List.getElem_cons_zero]); go_simp; try with_reducible rfl)
  try simp only [Act.put, List.getElem_toArray, List.getElem_cons_succ, List.getElem_cons_zero, List.setIfInBounds_toArray, List.set_cons_zero, List.set_cons_succ]
  refine wpAnyH_take (i := 14) (v := ?_) rfl (by kernel_rfl) (by kernel_rfl) (by kernel_rfl) (fun _ _ _ h => h) (Or.inl ⟨by rfl, ?_⟩) hHeld ?_
  rotate_left
  · (intro W hSw; (try dsimp only at hSw); (try simp only [List.getElem_toArray, List.getElem_cons_succ, List.getElem_cons_zero]); go_simp; try with_reducible rfl)
  try simp only [Act.put, List.getElem_toArray, List.getElem_cons_succ, List.getElem_cons_zero, List.setIfInBounds_toArray, List.set_cons_zero, List.set_cons_succ]
  refine wpAnyH_take (i := 15) (v := ?_) rfl (by kernel_rfl) (by kernel_rfl) (by kernel_rfl) (fun _ _ _ h => h) (Or.inl ⟨by rfl, ?_⟩) hHeld ?_
  rotate_left
  · (intro W hSw; (try dsimp only at hSw); (try simp only [List.getElem_toArray, List.getElem_cons_succ, List.getElem_cons_zero]); go_simp; try with_reducible rfl)
  try simp only [Act.put, List.getElem_toArray, List.getElem_cons_succ, List.getElem_cons_zero, List.setIfInBounds_toArray, List.set_cons_zero, List.set_cons_succ]
  refine wpAnyH_take (i := 16) (v := ?_) rfl (by kernel_rfl) (by kernel_rfl) (by kernel_rfl) (fun _ _ _ h => h) (Or.inl ⟨by rfl, ?_⟩) hHeld ?_
  rotate_left
  · (intro W hSw; (try dsimp only at hSw); (try simp only [List.getElem_toArray, List.getElem_cons_succ, List.getElem_cons_zero]); go_simp; try with_reducible rfl)
  try simp only [Act.put, List.getElem_toArray, List.getElem_cons_succ, List.getElem_cons_zero, List.setIfInBounds_toArray, List.set_cons_zero, List.set_cons_succ]
  refine wpAnyH_take (i := 17) (v := ?_) rfl (by kernel_rfl) (by kernel_rfl) (by kernel_rfl) (fun _ _ _ h => h) (Or.inl ⟨by rfl, ?_⟩) hHeld ?_
  rotate_left
  · (intro W hSw; (try dsimp only at hSw); (try simp only [List.getElem_toArray, List.getElem_cons_succ, List.getElem_cons_zero]); go_simp; try with_reducible rfl)
  try simp only [Act.put, List.getElem_toArray, List.getElem_cons_succ, List.getElem_cons_zero, List.setIfInBounds_toArray, List.set_cons_zero, List.set_cons_succ]
  refine wpAnyH_take (i := 18) (v := ?_) rfl (by kernel_rfl) (by kernel_rfl) (by kernel_rfl) (fun _ _ _ h => h) (Or.inl ⟨by rfl, ?_⟩) hHeld ?_
  rotate_left
  · (intro W hSw; (try dsimp only at hSw); (try simp only [List.getElem_toArray, List.getElem_cons_succ, List.getElem_cons_zero]); go_simp; try with_reducible rfl)
  try simp only [Act.put, List.getElem_toArray, List.getElem_cons_succ, List.getElem_cons_zero, List.setIfInBounds_toArray, List.set_cons_zero, List.set_cons_succ]
  refine wpAnyH_take (i := 19) (v := ?_) rfl (by kernel_rfl) (by kernel_rfl) (by kernel_rfl) (fun _ _ _ h => h) (Or.inl ⟨by rfl, ?_⟩) hHeld ?_
  rotate_left
  · (intro W hSw; (try dsimp only at hSw); (try simp only [List.getElem_toArray, List.getElem_cons_succ, List.getElem_cons_zero]); go_simp; try with_reducible rfl)
  try simp only [Act.put, List.getElem_toArray, List.getElem_cons_succ, List.getElem_cons_zero, List.setIfInBounds_toArray, List.set_cons_zero, List.set_cons_succ]
  refine wpAnyH_take (i := 20) (v := ?_) rfl (by kernel_rfl) (by kernel_rfl) (by kernel_rfl) (fun _ _ _ h => h) (Or.inl ⟨by rfl, ?_⟩) hHeld ?_
  rotate_left
  · (intro W hSw; (try dsimp only at hSw); (try simp only [List.getElem_toArray, List.getElem_cons_succ, List.getElem_cons_zero]); go_simp; try with_reducible rfl)
  try simp only [Act.put, List.getElem_toArray, List.getElem_cons_succ, List.getElem_cons_zero, List.setIfInBounds_toArray, List.set_cons_zero, List.set_cons_succ]
  refine wpAnyH_take (i := 21) (v := ?_) rfl (by kernel_rfl) (by kernel_rfl) (by kernel_rfl) (fun _ _ _ h => h) (Or.inl ⟨by rfl, ?_⟩) hHeld ?_
  rotate_left
  · (intro W hSw; (try dsimp only at hSw); (try simp only [List.getElem_toArray, List.getElem_cons_succ, List.getElem_cons_zero]); go_simp; try with_reducible rfl)
  try simp only [Act.put, List.getElem_toArray, List.getElem_cons_succ, List.getElem_cons_zero, List.setIfInBounds_toArray, List.set_cons_zero, List.set_cons_succ]
  refine wpAnyH_take (i := 22) (v := ?_) rfl (by kernel_rfl) (by kernel_rfl) (by kernel_rfl) (fun _ _ _ h => h) (Or.inl ⟨by rfl, ?_⟩) hHeld ?_
  rotate_left
  · (intro W hSw; (try dsimp only at hSw); (try simp only [List.getElem_toArray, List.getElem_cons_succ, List.getElem_cons_zero]); go_simp; try with_reducible rfl)
  try simp only [Act.put, List.getElem_toArray, List.getElem_cons_succ, List.getElem_cons_zero, List.setIfInBounds_toArray, List.set_cons_zero, List.set_cons_succ]
  refine wpAnyH_take (i := 23) (v := ?_) rfl (by kernel_rfl) (by kernel_rfl) (by kernel_rfl) (fun _ _ _ h => h) (Or.inl ⟨by rfl, ?_⟩) hHeld ?_
  rotate_left
  · (intro W hSw; (try dsimp only at hSw); (try simp only [List.getElem_toArray, List.getElem_cons_succ, List.getElem_cons_zero]); go_simp; try with_reducible rfl)
  try simp only [Act.put, List.getElem_toArray, List.getElem_cons_succ, List.getElem_cons_zero, List.setIfInBounds_toArray, List.set_cons_zero, List.set_cons_succ]
  refine wpAnyH_done (by kernel_rfl) ?_ _
  go_wp2_with (fail)
  clear k7 k3b k8 HZ
  clear c0
  clear c1
  clear c2
  clear c3
  clear c4
  clear c5
  clear c6
  clear c7
  go_loopw [9, 10, 11, 12, 13, 14, 15, 16, 40] (fun va vb vc vd ve vf vg vh i wr => ∃ (k : Nat) (S : S8), k ≤ 80 ∧ i = .int .i64 k ∧ Hid (S = rnds HK Wl s k) ∧ va = .int .u64 (S.a : Int) ∧ vb = .int .u64 (S.b : Int) ∧ vc = .int .u64 (S.c : Int) ∧ vd = .int .u64 (S.d : Int) ∧ ve = .int .u64 (S.e : Int) ∧ vf = .int .u64 (S.f : Int) ∧ vg = .int .u64 (S.g : Int) ∧ vh = .int .u64 (S.h : Int) ∧ Fr w wr [(g7 + 1, 39, us s.l), (g7, 41, us Wl), (w.heap.size, 39, us s.l)] [(w.heap.size + 1, 39, 8)]) (fun va vb vc vd ve vf vg vh i _ => 80 - (intOf i).toNat)
  case atStart => exact ⟨0, s, by omega, rfl, Lib.hid (rnds_zero _ _ _).symm, rfl, rfl, rfl, rfl, rfl, rfl, rfl, rfl, F5.out.drew⟩
  case round =>
    clear F5
    obtain ⟨k, S, hk, rfl, hS, rfl, rfl, rfl, rfl, rfl, rfl, rfl, rfl, hF⟩ := hrel
    have hSo : S.ok := by rw [hS.out]; exact rnds_ok HSO.out k
    by_cases hlt : k < 80
    · have hnx := rnds_succ HK Wl s k
      rw [← hS.out] at hnx
      obtain ⟨kk, ekk⟩ : ∃ q, q = HK.getD k 0 := ⟨_, rfl⟩
      obtain ⟨ww, eww⟩ : ∃ q, q = Wl.getD k 0 := ⟨_, rfl⟩
      have ck : wr.cell? ⟨gk, ok + k, none⟩ = some (.int .u64 (kk : Int)) := by rw [ekk, ← HKK.out k hlt]; exact hF.below.cell (p := ⟨gk, ok + k, none⟩) hgk
      have kw := hF.get (g := g7) (t := 41) (cs := us Wl) (by simp)
      have cw := kw.cell k
      rw [us_getD (by omega), ← eww] at cw
      rw [← ekk, ← eww] at hnx
      obtain ⟨a, b, c, d, e, f, g, h⟩ := S
      obtain ⟨la, lb, lc, ld, le, lf, lg, lh⟩ := hSo
      simp only at la lb lc ld le lf lg lh
      obtain ⟨t1, et1⟩ : ∃ q, q = turnN e 14 18 41 := ⟨_, rfl⟩
      have H1 := fun W => turned_any e 14 18 41 W le (by omega) (by omega) (by omega) (by omega) (by omega) (by omega)
      rw [← et1] at H1
      obtain ⟨t2, et2⟩ : ∃ q, q = turnN a 28 34 39 := ⟨_, rfl⟩
      have H2 := fun W => turned_any a 28 34 39 W la (by omega) (by omega) (by omega) (by omega) (by omega) (by omega)
      rw [← et2] at H2
      have H1 := Lib.hid H1
      have H2 := Lib.hid H2
      obtain ⟨p1, ep1⟩ : ∃ q, q = (h + t1) % 18446744073709551616 := ⟨_, rfl⟩
      have a1 := add_nat h t1
      rw [← ep1] at a1
      obtain ⟨ef, eef⟩ : ∃ q, q = e &&& f := ⟨_, rfl⟩
      have b1 := u64_and_nat e f le lf
      rw [← eef] at b1
      have lef : ef < 18446744073709551616 := by rw [eef]; exact and_lt le lf
      obtain ⟨ne, ene⟩ : ∃ q, q = 18446744073709551615 - e := ⟨_, rfl⟩
      have b0 := not_nat e le
      rw [← ene] at b0
      have lne : ne < 18446744073709551616 := by omega
      obtain ⟨ng, eng⟩ : ∃ q, q = ne &&& g := ⟨_, rfl⟩
      have b2 := u64_and_nat ne g lne lg
      rw [← eng] at b2
      have lng : ng < 18446744073709551616 := by rw [eng]; exact and_lt lne lg
      obtain ⟨ch, ech⟩ : ∃ q, q = ef ^^^ ng := ⟨_, rfl⟩
      have b3 := u64_xor_nat ef ng lef lng
      rw [← ech] at b3
      obtain ⟨p2, ep2⟩ : ∃ q, q = (p1 + ch) % 18446744073709551616 := ⟨_, rfl⟩
      have a2 := add_nat p1 ch
      rw [← ep2] at a2
      obtain ⟨p3, ep3⟩ : ∃ q, q = (p2 + kk) % 18446744073709551616 := ⟨_, rfl⟩
      have a3 := add_nat p2 kk
      rw [← ep3] at a3
      obtain ⟨x, ex⟩ : ∃ q, q = (p3 + ww) % 18446744073709551616 := ⟨_, rfl⟩
      have a4 := add_nat p3 ww
      rw [← ex] at a4
      obtain ⟨ab, eab⟩ : ∃ q, q = a &&& b := ⟨_, rfl⟩
      have b4 := u64_and_nat a b la lb
      rw [← eab] at b4
      have lab : ab < 18446744073709551616 := by rw [eab]; exact and_lt la lb
      obtain ⟨ac, eac⟩ : ∃ q, q = a &&& c := ⟨_, rfl⟩
      have b5 := u64_and_nat a c la lc
      rw [← eac] at b5
      have lac : ac < 18446744073709551616 := by rw [eac]; exact and_lt la lc
      obtain ⟨bc, ebc⟩ : ∃ q, q = b &&& c := ⟨_, rfl⟩
      have b6 := u64_and_nat b c lb lc
      rw [← ebc] at b6
      have lbc : bc < 18446744073709551616 := by rw [ebc]; exact and_lt lb lc
      obtain ⟨m1, em1⟩ : ∃ q, q = ab ^^^ ac := ⟨_, rfl⟩
      have b7 := u64_xor_nat ab ac lab lac
      rw [← em1] at b7
      have lm1 : m1 < 18446744073709551616 := by rw [em1]; exact xor_lt lab lac
      obtain ⟨mj, emj⟩ : ∃ q, q = m1 ^^^ bc := ⟨_, rfl⟩
      have b8 := u64_xor_nat m1 bc lm1 lbc
      rw [← emj] at b8
      obtain ⟨y, ey⟩ : ∃ q, q = (t2 + mj) % 18446744073709551616 := ⟨_, rfl⟩
      have a5 := add_nat t2 mj
      rw [← ey] at a5
      obtain ⟨z, ez⟩ : ∃ q, q = (x + y) % 18446744073709551616 := ⟨_, rfl⟩
      have a6 := add_nat x y
      rw [← ez] at a6
      obtain ⟨u, eu⟩ : ∃ q, q = (d + x) % 18446744073709551616 := ⟨_, rfl⟩
      have a7 := add_nat d x
      rw [← eu] at a7
      have hch : chN e f g = ch := by rw [ech, eef, eng, ene]; unfold chN; rfl
      have hmj : majN a b c = mj := by rw [emj, em1, eab, eac, ebc]; unfold majN; rfl
      have hxx : x = xN kk ww ⟨a, b, c, d, e, f, g, h⟩ := by unfold xN; rw [ex, ep3, ep2, ep1, et1, ← hch]
      have hyy : y = yN ⟨a, b, c, d, e, f, g, h⟩ := by unfold yN; rw [ey, et2, ← hmj]
      rw [rnd_eq kk ww _ x y z u hxx hyy ez eu] at hnx
      have HNX := Lib.hid hnx
      have HF := Lib.hid hF
      clear ene hnx hF hS ekk eww et1 et2 ep1 eef eng ech ep2 ep3 ex eab eac ebc em1 emj ey ez eu hch hmj hxx hyy kw
      go_wp2_with (fail)
      refine wp_region_held_drew (S := fun W => W.cell? ⟨gk, ok + k, none⟩ = some (.int .u64 (kk : Int)) ∧ W.cell? ⟨g7, k, none⟩ = some (.int .u64 (ww : Int))) (by kernel_rfl) ?_ (fun hHeld => ?_)
      · exact ⟨ck, cw⟩
      refine wpAnyH_take (i := 0) (v := ?_) rfl (by kernel_rfl) (by kernel_rfl) (by kernel_rfl) (fun _ _ _ h => h) (Or.inl ⟨by rfl, ?_⟩) hHeld ?_
      rotate_left
      · (intro W hSw; (try dsimp only at hSw); (try simp only [List.getElem_toArray, List.getElem_cons_succ, List.getElem_cons_zero]); go_simp; try with_reducible rfl)
      try simp only [Act.put, List.getElem_toArray, List.getElem_cons_succ, List.getElem_cons_zero, List.setIfInBounds_toArray, List.set_cons_zero, List.set_cons_succ]
      refine wpAnyH_take (i := 1) (v := ?_) rfl (by kernel_rfl) (by kernel_rfl) (by kernel_rfl) (fun _ _ _ h => h) (Or.inl ⟨by rfl, ?_⟩) hHeld ?_
      rotate_left
      · (intro W hSw; (try dsimp only at hSw); (try simp only [List.getElem_toArray, List.getElem_cons_succ, List.getElem_cons_zero]); go_simp; try with_reducible rfl)
      try simp only [Act.put, List.getElem_toArray, List.getElem_cons_succ, List.getElem_cons_zero, List.setIfInBounds_toArray, List.set_cons_zero, List.set_cons_succ]
      refine wpAnyH_take (i := 4) (v := ?_) rfl (by kernel_rfl) (by kernel_rfl) (by kernel_rfl) (fun _ _ _ h => h) (Or.inl ⟨by rfl, ?_⟩) hHeld ?_
      rotate_left
      · (intro W hSw; (try dsimp only at hSw); (try simp only [List.getElem_toArray, List.getElem_cons_succ, List.getElem_cons_zero]); go_simp; try with_reducible rfl)
      try simp only [Act.put, List.getElem_toArray, List.getElem_cons_succ, List.getElem_cons_zero, List.setIfInBounds_toArray, List.set_cons_zero, List.set_cons_succ]
      refine wpAnyH_take (i := 5) (v := ?_) rfl (by kernel_rfl) (by kernel_rfl) (by kernel_rfl) (fun _ _ _ h => h) (Or.inl ⟨by rfl, ?_⟩) hHeld ?_
      rotate_left
      · (intro W hSw; (try dsimp only at hSw); (try simp only [List.getElem_toArray, List.getElem_cons_succ, List.getElem_cons_zero]); go_simp; try with_reducible rfl)
      try simp only [Act.put, List.getElem_toArray, List.getElem_cons_succ, List.getElem_cons_zero, List.setIfInBounds_toArray, List.set_cons_zero, List.set_cons_succ]
      refine wpAnyH_take (i := 6) (v := ?_) rfl (by kernel_rfl) (by kernel_rfl) (by kernel_rfl) (fun _ _ _ h => h) (Or.inl ⟨by rfl, ?_⟩) hHeld ?_
      rotate_left
      · (intro W hSw; (try dsimp only at hSw); (try simp only [List.getElem_toArray, List.getElem_cons_succ, List.getElem_cons_zero]); go_simp; try with_reducible rfl)
      try simp only [Act.put, List.getElem_toArray, List.getElem_cons_succ, List.getElem_cons_zero, List.setIfInBounds_toArray, List.set_cons_zero, List.set_cons_succ]
      refine wpAnyH_take (i := 7) (v := ?_) rfl (by kernel_rfl) (by kernel_rfl) (by kernel_rfl) (fun _ _ _ h => h) (Or.inl ⟨by rfl, ?_⟩) hHeld ?_
      rotate_left
      · (intro W hSw; (try dsimp only at hSw); (try simp only [List.getElem_toArray, List.getElem_cons_succ, List.getElem_cons_zero]); go_simp; try with_reducible rfl)
      try simp only [Act.put, List.getElem_toArray, List.getElem_cons_succ, List.getElem_cons_zero, List.setIfInBounds_toArray, List.set_cons_zero, List.set_cons_succ]
      refine wpAnyH_take (i := 8) (v := ?_) rfl (by kernel_rfl) (by kernel_rfl) (by kernel_rfl) (fun _ _ _ h => h) (Or.inl ⟨by rfl, ?_⟩) hHeld ?_
      rotate_left
      · (intro W hSw; (try dsimp only at hSw); (try simp only [List.getElem_toArray, List.getElem_cons_succ, List.getElem_cons_zero]); go_simp; try with_reducible rfl)
      try simp only [Act.put, List.getElem_toArray, List.getElem_cons_succ, List.getElem_cons_zero, List.setIfInBounds_toArray, List.set_cons_zero, List.set_cons_succ]
      refine wpAnyH_take (i := 9) (v := ?_) rfl (by kernel_rfl) (by kernel_rfl) (by kernel_rfl) (fun _ _ _ h => h) (Or.inl ⟨by rfl, ?_⟩) hHeld ?_
      rotate_left
      · (intro W hSw; (try dsimp only at hSw); (try simp only [List.getElem_toArray, List.getElem_cons_succ, List.getElem_cons_zero]); go_simp; try with_reducible rfl)
      try simp only [Act.put, List.getElem_toArray, List.getElem_cons_succ, List.getElem_cons_zero, List.setIfInBounds_toArray, List.set_cons_zero, List.set_cons_succ]
      refine wpAnyH_take (i := 10) (v := ?_) rfl (by kernel_rfl) (by kernel_rfl) (by kernel_rfl) (fun _ _ _ h => h) (Or.inl ⟨by rfl, ?_⟩) hHeld ?_
      rotate_left
      · (intro W hSw; (try dsimp only at hSw); (try simp only [List.getElem_toArray, List.getElem_cons_succ, List.getElem_cons_zero]); go_simp; try with_reducible rfl)
      try simp only [Act.put, List.getElem_toArray, List.getElem_cons_succ, List.getElem_cons_zero, List.setIfInBounds_toArray, List.set_cons_zero, List.set_cons_succ]
      refine wpAnyH_take (i := 11) (v := ?_) rfl (by kernel_rfl) (by kernel_rfl) (by kernel_rfl) (fun _ _ _ h => h) (Or.inl ⟨by rfl, ?_⟩) hHeld ?_
      rotate_left
      · (intro W hSw; (try dsimp only at hSw); (try simp only [List.getElem_toArray, List.getElem_cons_succ, List.getElem_cons_zero]); go_simp; try with_reducible rfl)
      try simp only [Act.put, List.getElem_toArray, List.getElem_cons_succ, List.getElem_cons_zero, List.setIfInBounds_toArray, List.set_cons_zero, List.set_cons_succ]
      refine wpAnyH_take (i := 13) (v := ?_) rfl (by kernel_rfl) (by kernel_rfl) (by kernel_rfl) (fun _ _ _ h => h) (Or.inl ⟨by rfl, ?_⟩) hHeld ?_
      rotate_left
      · (intro W hSw; (try dsimp only at hSw); (try simp only [List.getElem_toArray, List.getElem_cons_succ, List.getElem_cons_zero]); go_simp; try with_reducible rfl)
      try simp only [Act.put, List.getElem_toArray, List.getElem_cons_succ, List.getElem_cons_zero, List.setIfInBounds_toArray, List.set_cons_zero, List.set_cons_succ]
      refine wpAnyH_take (i := 14) (v := ?_) rfl (by kernel_rfl) (by kernel_rfl) (by kernel_rfl) (fun _ _ _ h => h) (Or.inl ⟨by rfl, ?_⟩) hHeld ?_
      rotate_left
      · (intro W hSw; (try dsimp only at hSw); (try simp only [List.getElem_toArray, List.getElem_cons_succ, List.getElem_cons_zero]); go_simp; try with_reducible rfl)
      try simp only [Act.put, List.getElem_toArray, List.getElem_cons_succ, List.getElem_cons_zero, List.setIfInBounds_toArray, List.set_cons_zero, List.set_cons_succ]
      refine wpAnyH_take (i := 15) (v := ?_) rfl (by kernel_rfl) (by kernel_rfl) (by kernel_rfl) (fun _ _ _ h => h) (Or.inl ⟨by rfl, ?_⟩) hHeld ?_
      rotate_left
      · (intro W hSw; (try dsimp only at hSw); (try simp only [List.getElem_toArray, List.getElem_cons_succ, List.getElem_cons_zero]); go_simp; try with_reducible rfl)
      try simp only [Act.put, List.getElem_toArray, List.getElem_cons_succ, List.getElem_cons_zero, List.setIfInBounds_toArray, List.set_cons_zero, List.set_cons_succ]
      refine wpAnyH_take (i := 16) (v := ?_) rfl (by kernel_rfl) (by kernel_rfl) (by kernel_rfl) (fun _ _ _ h => h) (Or.inl ⟨by rfl, ?_⟩) hHeld ?_
      rotate_left
      · (intro W hSw; (try dsimp only at hSw); (try simp only [List.getElem_toArray, List.getElem_cons_succ, List.getElem_cons_zero]); go_simp; try with_reducible rfl)
      try simp only [Act.put, List.getElem_toArray, List.getElem_cons_succ, List.getElem_cons_zero, List.setIfInBounds_toArray, List.set_cons_zero, List.set_cons_succ]
      refine wpAnyH_take (i := 17) (v := ?_) rfl (by kernel_rfl) (by kernel_rfl) (by kernel_rfl) (fun _ _ _ h => h) (Or.inl ⟨by rfl, ?_⟩) hHeld ?_
      rotate_left
      · (intro W hSw; (try dsimp only at hSw); (try simp only [List.getElem_toArray, List.getElem_cons_succ, List.getElem_cons_zero]); go_simp; try with_reducible rfl)
      try simp only [Act.put, List.getElem_toArray, List.getElem_cons_succ, List.getElem_cons_zero, List.setIfInBounds_toArray, List.set_cons_zero, List.set_cons_succ]
      refine wpAnyH_take (i := 19) (v := ?_) rfl (by kernel_rfl) (by kernel_rfl) (by kernel_rfl) (fun _ _ _ h => h) (Or.inl ⟨by rfl, ?_⟩) hHeld ?_
      rotate_left
      · (intro W hSw; (try dsimp only at hSw); (try simp only [List.getElem_toArray, List.getElem_cons_succ, List.getElem_cons_zero]); go_simp; try with_reducible rfl)
      try simp only [Act.put, List.getElem_toArray, List.getElem_cons_succ, List.getElem_cons_zero, List.setIfInBounds_toArray, List.set_cons_zero, List.set_cons_succ]
      refine wpAnyH_take (i := 20) (v := ?_) rfl (by kernel_rfl) (by kernel_rfl) (by kernel_rfl) (fun _ _ _ h => h) (Or.inl ⟨by rfl, ?_⟩) hHeld ?_
      rotate_left
      · (intro W hSw; (try dsimp only at hSw); (try simp only [List.getElem_toArray, List.getElem_cons_succ, List.getElem_cons_zero]); go_simp; try with_reducible rfl)
      try simp only [Act.put, List.getElem_toArray, List.getElem_cons_succ, List.getElem_cons_zero, List.setIfInBounds_toArray, List.set_cons_zero, List.set_cons_succ]
      refine wpAnyH_take (i := 21) (v := ?_) rfl (by kernel_rfl) (by kernel_rfl) (by kernel_rfl) (fun _ _ _ h => h) (Or.inl ⟨by rfl, ?_⟩) hHeld ?_
      rotate_left
      · (intro W hSw; (try dsimp only at hSw); (try simp only [List.getElem_toArray, List.getElem_cons_succ, List.getElem_cons_zero]); go_simp; try with_reducible rfl)
      try simp only [Act.put, List.getElem_toArray, List.getElem_cons_succ, List.getElem_cons_zero, List.setIfInBounds_toArray, List.set_cons_zero, List.set_cons_succ]
      refine wpAnyH_ready (rs := [2]) (by kernel_rfl) (by simp) (AllReadyH.cons rfl (fun K hK => ?_) AllReadyH.nil)
      have h0 := hHeld
      clear hHeld
      try simp only [List.getElem_toArray, List.getElem_cons_succ, List.getElem_cons_zero]
      go_simp
      go_at_call 28
      refine (H1.out _).mono ?_
      rintro e vv ⟨rfl, rfl⟩
      go_wp2_with (fail)
      refine hK.out _ _ h0 (fun hHeld => ?_)
      clear hK K h0
      try simp only [Act.put, List.getElem_toArray, List.getElem_cons_succ, List.getElem_cons_zero, List.setIfInBounds_toArray, List.set_cons_zero, List.set_cons_succ]
      refine wpAnyH_take (i := 3) (v := ?_) rfl (by kernel_rfl) (by kernel_rfl) (by kernel_rfl) (fun _ _ _ h => h) (Or.inl ⟨by rfl, ?_⟩) hHeld ?_
      rotate_left
      · (intro W hSw; (try dsimp only at hSw); (try simp only [List.getElem_toArray, List.getElem_cons_succ, List.getElem_cons_zero]); go_simp; try with_reducible rfl)
      try simp only [Act.put, List.getElem_toArray, List.getElem_cons_succ, List.getElem_cons_zero, List.setIfInBounds_toArray, List.set_cons_zero, List.set_cons_succ]
      refine wpAnyH_take (i := 12) (v := ?_) rfl (by kernel_rfl) (by kernel_rfl) (by kernel_rfl) (fun _ _ _ h => h) (Or.inl ⟨by rfl, ?_⟩) hHeld ?_
      rotate_left
      · (intro W hSw; (try dsimp only at hSw); (try simp only [List.getElem_toArray, List.getElem_cons_succ, List.getElem_cons_zero]); go_simp; try with_reducible rfl)
      try simp only [Act.put, List.getElem_toArray, List.getElem_cons_succ, List.getElem_cons_zero, List.setIfInBounds_toArray, List.set_cons_zero, List.set_cons_succ]
      refine wpAnyH_take (i := 18) (v := ?_) rfl (by kernel_rfl) (by kernel_rfl) (by kernel_rfl) (fun _ _ _ h => h) (Or.inl ⟨by rfl, ?_⟩) hHeld ?_
      rotate_left
      · (intro W hSw; (try dsimp only at hSw); (try simp only [List.getElem_toArray, List.getElem_cons_succ, List.getElem_cons_zero]); go_simp; try with_reducible rfl)
      try simp only [Act.put, List.getElem_toArray, List.getElem_cons_succ, List.getElem_cons_zero, List.setIfInBounds_toArray, List.set_cons_zero, List.set_cons_succ]
      refine wpAnyH_take (i := 22) (v := ?_) rfl (by kernel_rfl) (by kernel_rfl) (by kernel_rfl) (fun _ _ _ h => h) (Or.inl ⟨by rfl, ?_⟩) hHeld ?_
      rotate_left
      · (intro W hSw; (try dsimp only at hSw); (try simp only [List.getElem_toArray, List.getElem_cons_succ, List.getElem_cons_zero]); go_simp; try with_reducible rfl)
      try simp only [Act.put, List.getElem_toArray, List.getElem_cons_succ, List.getElem_cons_zero, List.setIfInBounds_toArray, List.set_cons_zero, List.set_cons_succ]
      refine wpAnyH_take (i := 23) (v := ?_) rfl (by kernel_rfl) (by kernel_rfl) (by kernel_rfl) (fun _ _ _ h => h) (Or.inl ⟨by rfl, ?_⟩) hHeld ?_
      rotate_left
      · (intro W hSw; (try dsimp only at hSw); (try simp only [List.getElem_toArray, List.getElem_cons_succ, List.getElem_cons_zero]); go_simp; try with_reducible rfl)
      try simp only [Act.put, List.getElem_toArray, List.getElem_cons_succ, List.getElem_cons_zero, List.setIfInBounds_toArray, List.set_cons_zero, List.set_cons_succ]
      refine wpAnyH_done (by kernel_rfl) ?_ _
      go_wp2_with (fail)
      refine (H2.out _).mono ?_
      rintro e9 vv ⟨rfl, rfl⟩
      go_wp2_with (fail)
      go_round
      case rel => exact ⟨k + 1, ⟨z, a, b, c, u, e, f, g⟩, by omega, by go_num, Lib.hid HNX.out.symm, rfl, rfl, rfl, rfl, rfl, rfl, rfl, rfl, HF.out.drew⟩
      case measure => simp [intOf]; omega
    · have hkE : k = 80 := by omega
      have hS8 := hS.out
      rw [hkE] at hS8
      have kS0 := hF.get (g := g7 + 1) (t := 39) (cs := us s.l) (by simp)
      have f1 := hF.setRowHead (by simp <;> omega) (by simp <;> omega) (us S.l) (by omega)
      have F1 := Lib.hid f1
      have HKE := Lib.hid hkE
      have HS8 := Lib.hid hS8
      have ebl : us S.l = #[.int .u64 (S.a : Int), .int .u64 (S.b : Int), .int .u64 (S.c : Int), .int .u64 (S.d : Int), .int .u64 (S.e : Int), .int .u64 (S.f : Int), .int .u64 (S.g : Int), .int .u64 (S.h : Int)] := rfl
      have HE := Lib.hid ebl
      clear hS hF f1 hkE hS8 ebl
      go_wp2_with (first | (refine wpList_store_row rfl 39 (.tmp 8) (.tmp 101) rfl (g7 + 1) (us S.l) rfl (by rw [HE.out]; rfl) 39 _ kS0 (info_us size_hst rfl) rfl (us_one _) ?_))
      clear kS0
      go_loopw [102] (fun i wr => ∃ j : Nat, j ≤ 8 ∧ i = .int .i64 j ∧ Fr w wr [(g7 + 1, 39, us (addl S.l s.l j)), (w.heap.size, 39, us s.l)] [(w.heap.size + 1, 39, 8)]) (fun i _ => 8 - (intOf i).toNat)
      case atStart => exact ⟨0, by omega, rfl, by rw [addl_zero]; exact F1.out.sub (by simp) (by simp)⟩
      case round =>
        clear F1
        obtain ⟨j, hj, rfl, hF⟩ := hrel
        have hal : (addl S.l s.l j).length = 8 := addl_len _ _ j
        by_cases hlt : j < 8
        · have hnx := addl_succ S.l s.l j
          have hgt := addl_get S.l s.l j j (Nat.le_refl _)
          have kp := hF.get (g := g7 + 1) (t := 39) (cs := us (addl S.l s.l j)) (by simp)
          have kq := hF.get (g := w.heap.size) (t := 39) (cs := us s.l) (by simp)
          have cp := kp.cell j
          rw [us_getD (by omega), hgt] at cp
          have cq := kq.cell j
          rw [us_getD (show j < s.l.length from hlt)] at cq
          have z1 := kp.frozen j
          obtain ⟨x, ex⟩ : ∃ q, q = (S.l.getD j 0 + s.l.getD j 0) % 18446744073709551616 := ⟨_, rfl⟩
          have a1 := add_nat (S.l.getD j 0) (s.l.getD j 0)
          rw [← ex] at a1 hnx
          have f2 := hF.setHead (by simp <;> omega) (by simp <;> omega) j (.int .u64 (x : Int)) (by omega)
          rw [us_set, ← hnx] at f2
          have F2 := Lib.hid f2
          clear ex f2 hF hnx hgt kq
          generalize S.l.getD j 0 = v1 at *
          generalize s.l.getD j 0 = v2 at *
          go_wp2_with (fail)
          go_region
          go_wp2_with (fail)
          go_round
          case rel => exact ⟨j + 1, by omega, by go_num, F2.out.drew⟩
          case measure => simp [intOf]; omega
        · have e8 : addl S.l s.l j = R.l := by rw [show j = 8 by omega, HR.out, ← HS8.out]; exact addl_eight S s
          rw [e8] at hF
          have k1 := hF.get (g := g7 + 1) (t := 39) (cs := us R.l) (by simp)
          obtain ⟨old, ho, k0⟩ := hF.old (g := w.heap.size + 1) (t := 39) (n := 8) (by simp)
          have kS := k0.setRow_same (us R.l)
          have hB := below_setRow hF.below (show w.heap.size ≤ w.heap.size + 1 by omega) (us R.l)
          have ho' : old.size = (us R.l).size := by rw [ho]; rfl
          have KS := Lib.hid kS
          have HB := Lib.hid hB
          have HO := Lib.hid ho'
          clear hF kS hB ho ho' e8 hal
          go_wp2_with (first | (refine wpList_load_row rfl 39 (.tmp 8) rfl (g7 + 1) rfl 39 (us R.l) (0, 0) _ k1 Tryd.underlying39 rfl (info_us size_hst rfl) ?_) | (refine wpList_store_row rfl 39 (.tmp 6) (.tmp 114) rfl (w.heap.size + 1) (us R.l) rfl rfl 39 old k0 (info_us size_hst rfl) HO.out (us_one _) ?_))
          exact row_end (n0 := 8) rfl size_hst rfl rfl rfl rfl KS.out HB.out
end Go.Proofs.YtagifgadcbhinaaDoor
