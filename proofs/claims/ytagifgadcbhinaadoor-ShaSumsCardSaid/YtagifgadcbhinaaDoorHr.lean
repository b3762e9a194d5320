/- The document's roots: the greatest number whose power is small enough, bit by bit. -/
import Derived.Test.YtagifgadcbhinaaDoorHi
import Derived.Laws.OwnMore
namespace Go.Proofs.YtagifgadcbhinaaDoor
set_option linter.unusedVariables false
set_option linter.unusedSimpArgs false
open Go Go.RowKit

theorem OwnU.slice {w : World} {base : Nat} {e : TypeId} {v : Value} {l : List Nat} (h : OwnU w base e v l) (hl : 0 < l.length) : ∃ g cap, v = .slice (some ⟨g, 0, none⟩) l.length cap ∧ base ≤ g ∧ g < w.heap.size := by
  rcases h.2 with ⟨_, h0⟩ | ⟨g, cap, cur, rfl, hb, hg, _⟩
  · omega
  · exact ⟨g, cap, rfl, hb, (Array.getElem?_eq_some_iff.1 hg).1⟩
theorem OwnU.cell {w : World} {base g n cap : Nat} {e : TypeId} {l : List Nat} (h : OwnU w base e (.slice (some ⟨g, 0, none⟩) n cap) l) (hn : n = l.length) {j x : Nat} (hx : l[j]? = some x) : w.cell? ⟨g, j, none⟩ = some (.int .u64 (x : Int)) := by
  subst hn
  have hj := (List.getElem?_eq_some_iff.1 hx).1
  have h2 := World.ownsRow.cellAt (size := 1) h j (by omega)
  rw [h2, List.getElem?_map, hx]
  rfl
theorem OwnU.set {w : World} {base g n cap : Nat} {e : TypeId} {l : List Nat} (h : OwnU w base e (.slice (some ⟨g, 0, none⟩) n cap) l) (hn : n = l.length) (j x : Nat) :
    OwnU (w.setCell ⟨g, j, none⟩ (.int .u64 (x : Int))) base e (.slice (some ⟨g, 0, none⟩) n cap) (l.set j x) ∧ w.grownBy (w.setCell ⟨g, j, none⟩ (.int .u64 (x : Int))) (some g) := by
  subst hn
  obtain ⟨h1, h2⟩ := World.ownsRow.stored (size := 1) h j (.int .u64 (x : Int))
  refine ⟨?_, h2⟩
  unfold OwnU
  rw [List.length_set, List.map_set]
  exact h1
theorem OwnU.frozen {w : World} {base g n cap : Nat} {e : TypeId} {l : List Nat} (h : OwnU w base e (.slice (some ⟨g, 0, none⟩) n cap) l) (hn : n = l.length) (j : Nat) : w.frozen? ⟨g, j, none⟩ = false := by
  subst hn
  exact World.ownsRow.frozenAt (size := 1) h j
theorem OwnU.slice3 {w : World} {base : Nat} {e : TypeId} {v : Value} {l : List Nat} (h : OwnU w base e v l) (hl : l.length = 3) : ∃ g cap, v = .slice (some ⟨g, 0, none⟩) 3 cap ∧ base ≤ g ∧ g < w.heap.size := by
  obtain ⟨g, cap, h1, h2⟩ := h.slice (by omega)
  rw [hl] at h1
  exact ⟨g, cap, h1, h2⟩
theorem us_row {w : World} {base g n cap : Nat} {e : TypeId} {l : List Nat} (h : OwnU w base e (.slice (some ⟨g, 0, none⟩) n cap) l) : US w w.heap.size (some ⟨g, 0, none⟩) n cap l := by
  obtain ⟨A, m, c, e1, h1, _⟩ := h.form
  injection e1 with a b c
  subst a; subst b; subst c
  exact h1
/-- How far the search has come: bits from j on are found. -/
structure Sk (n p j X : Nat) : Prop where
  sk : seek n p j X % 18446744073709551616 = rootN n p
  low : X % 2 ^ j = 0
  lt : X < 2 ^ 70
theorem Sk.start (n p : Nat) : Sk n p 70 0 := ⟨rfl, by simp, by decide⟩
theorem Sk.more {i X : Nat} (hi : i ≤ 69) (h : X % 2 ^ (i + 1) = 0) (hl : X < 2 ^ 70) : X + 2 ^ i < 2 ^ 70 := by
  obtain ⟨k, hk⟩ := Nat.dvd_of_mod_eq_zero h
  have e : (2 : Nat) ^ 70 = 2 ^ (i + 1) * 2 ^ (69 - i) := by rw [← Nat.pow_add]; congr 1; omega
  rw [hk, e] at hl
  have h1 : k < 2 ^ (69 - i) := Nat.lt_of_mul_lt_mul_left hl
  have h2 : 2 ^ (i + 1) * (k + 1) ≤ 2 ^ (i + 1) * 2 ^ (69 - i) := Nat.mul_le_mul_left _ h1
  rw [← e, Nat.mul_add, Nat.mul_one, Nat.pow_succ] at h2
  have h3 : 0 < 2 ^ i := Nat.pow_pos (by omega)
  rw [hk, Nat.pow_succ]
  omega
theorem Sk.yes {n p i X : Nat} (hi : i ≤ 69) (h : Sk n p (i + 1) X) (hp : (X + 2 ^ i) ^ p ≤ n * 2 ^ (64 * p)) : Sk n p i (X + 2 ^ i) := by
  have h1 := h.sk
  rw [seek, if_pos hp] at h1
  refine ⟨h1, ?_, Sk.more hi h.low h.lt⟩
  obtain ⟨k, hk⟩ := Nat.dvd_of_mod_eq_zero h.low
  rw [hk, Nat.pow_succ, Nat.add_mod_right, Nat.mul_assoc, Nat.mul_mod_right]
theorem Sk.no {n p i X : Nat} (h : Sk n p (i + 1) X) (hp : ¬ (X + 2 ^ i) ^ p ≤ n * 2 ^ (64 * p)) : Sk n p i X := by
  have h1 := h.sk
  rw [seek, if_neg hp] at h1
  refine ⟨h1, ?_, h.lt⟩
  obtain ⟨k, hk⟩ := Nat.dvd_of_mod_eq_zero h.low
  rw [hk, Nat.pow_succ, Nat.mul_assoc, Nat.mul_mod_right]
theorem Sk.end_ {n p X : Nat} (h : Sk n p 0 X) : X % 18446744073709551616 = rootN n p := h.sk
/-- A long number of three digits. -/
structure L3 (l : List Nat) (X : Nat) : Prop where
  len : l.length = 3
  dig : Dig l
  val : dv l = X
theorem L3.start : L3 [0, 0, 0] 0 := ⟨rfl, fun j => by rcases j with _ | _ | _ | j <;> simp [List.getD], rfl⟩
theorem w_pow (q : Nat) : (4294967296 : Nat) ^ q = 2 ^ (32 * q) := by rw [Nat.pow_mul]
theorem digit_low {l : List Nat} {q r : Nat} (hd : Dig l) (hr : r < 32) (h : dv l % 2 ^ (32 * q + r + 1) = 0) : l.getD q 0 + 2 ^ r < 4294967296 := by
  obtain ⟨k, hk⟩ := Nat.dvd_of_mod_eq_zero h
  have hs := dv_split l q
  have ht := dv_lt l q hd
  have e1 : (2 : Nat) ^ (32 * q + r + 1) = 4294967296 ^ q * 2 ^ (r + 1) := by rw [w_pow, ← Nat.pow_add]; congr 1
  rw [e1, Nat.mul_assoc] at hk
  have h0 : dv (l.take q) = 0 := by
    have h1 : dv l % 4294967296 ^ q = dv (l.take q) := by rw [hs, Nat.add_mul_mod_self_left, Nat.mod_eq_of_lt ht]
    rw [← h1, hk, Nat.mul_mod_right]
  rw [h0, Nat.zero_add, hk] at hs
  have h2 : 2 ^ (r + 1) * k = dv (l.drop q) := Nat.eq_of_mul_eq_mul_left (Nat.pow_pos (by omega)) hs
  rw [dv_drop] at h2
  have hdd := hd q
  generalize l.getD q 0 = d at *
  generalize dv (l.drop (q + 1)) = R at *
  have e2 : (4294967296 : Nat) = 2 ^ (r + 1) * 2 ^ (31 - r) := by rw [← Nat.pow_add, show r + 1 + (31 - r) = 32 by omega]
  have h3 : d % 2 ^ (r + 1) = 0 := by
    have h4 : (d + 4294967296 * R) % 2 ^ (r + 1) = 0 := by rw [← h2, Nat.mul_mod_right]
    rw [e2, Nat.mul_assoc, Nat.add_mul_mod_self_left] at h4
    exact h4
  obtain ⟨m, hm⟩ := Nat.dvd_of_mod_eq_zero h3
  rw [hm] at hdd ⊢
  rw [e2] at hdd ⊢
  have h5 : m < 2 ^ (31 - r) := Nat.lt_of_mul_lt_mul_left hdd
  have h6 : 2 ^ (r + 1) * (m + 1) ≤ 2 ^ (r + 1) * 2 ^ (31 - r) := Nat.mul_le_mul_left _ h5
  rw [Nat.mul_add, Nat.mul_one, Nat.pow_succ] at h6
  have h7 : 0 < 2 ^ r := Nat.pow_pos (by omega)
  rw [Nat.pow_succ] at *
  omega
theorem L3.add {l : List Nat} {X i : Nat} (h : L3 l X) (hi : i ≤ 69) (hX : X % 2 ^ (i + 1) = 0) : l.getD (i / 32) 0 + 2 ^ (i % 32) < 4294967296 ∧ L3 (l.set (i / 32) (l.getD (i / 32) 0 + 2 ^ (i % 32))) (X + 2 ^ i) := by
  have hr : i % 32 < 32 := Nat.mod_lt _ (by omega)
  have e : 32 * (i / 32) + i % 32 = i := Nat.div_add_mod i 32
  have hl : i / 32 < l.length := by rw [h.len]; omega
  have h1 := digit_low (l := l) (q := i / 32) h.dig hr (by rw [e, h.val]; exact hX)
  refine ⟨h1, by rw [List.length_set, h.len], fun j => ?_, ?_⟩
  · rw [getD_set _ _ _ _ hl]
    split
    · exact h1
    · exact h.dig j
  · have h2 := dv_set l (i / 32) (l.getD (i / 32) 0 + 2 ^ (i % 32)) hl
    rw [h.val, Nat.mul_add, w_pow, ← Nat.pow_add, e] at h2
    omega
theorem L3.low {l : List Nat} {X : Nat} (h : L3 l X) : l.getD 0 0 + l.getD 1 0 * 4294967296 = X % 18446744073709551616 := by
  obtain ⟨h1, h2, h3⟩ := h
  match l, h1 with
  | [a, b, c], _ =>
    have ha := h2 0
    have hb := h2 1
    simp only [List.getD, List.getElem?_cons_zero, List.getElem?_cons_succ, Option.getD_some, dv] at *
    omega
/-- The bound: n times 2^(64 p). -/
def bndL (n p : Nat) : List Nat := (List.replicate (2 * p + 1) 0).set (2 * p) n
theorem bndL_len (n p : Nat) : (bndL n p).length = 2 * p + 1 := by simp [bndL]
theorem bndL_dig {n : Nat} (p : Nat) (hn : n < 4294967296) : Dig (bndL n p) := fun j => by
  rw [bndL, getD_set _ _ _ _ (by simp)]
  split
  · exact hn
  · by_cases h : j < 2 * p + 1 <;> simp [List.getD, List.getElem?_replicate, h]
theorem bndL_val (n p : Nat) : dv (bndL n p) = n * 2 ^ (64 * p) := by
  have h := dv_set (List.replicate (2 * p + 1) 0) (2 * p) n (by simp)
  rw [dv_zeros, show (List.replicate (2 * p + 1) 0).getD (2 * p) 0 = 0 by simp [List.getD], w_pow, show 32 * (2 * p) = 64 * p by omega] at h
  rw [bndL]
  rw [Nat.mul_comm n]
  omega
/-- A call that answers a number, whatever it makes. -/
def NatPost (v : Nat) (w : World) (e : Ending) (w' : World) : Prop := e = .returned (.int .u64 (v : Int)) ∧ Below w.heap.size w w'
theorem decide_pow {a b c d : Nat} (h : a = c) (h2 : b = d) : decide (a ≤ b) = decide (c ≤ d) := by rw [h, h2]
attribute [local irreducible] bndL seek rootN
set_option maxRecDepth 100000 in
set_option maxHeartbeats 4000000 in
theorem rroot2_any (n : Nat) (w : World) (hn : n < 4294967296) : Calls Tryd.prog 17 #[.int .u64 n, .int .i64 2] w (NatPost (rootN n 2) w) := by
  have hmk := fun W => run_mku (P := Tryd.prog) 58 35 Tryd.underlying58 info_u64 5 (by omega) W
  rw [show ((5 : Nat) : Int) = 5 from rfl] at hmk
  obtain ⟨Z, hZ⟩ : ∃ Z, Z = List.replicate 5 0 := ⟨_, rfl⟩
  rw [← hZ] at hmk
  have k0 := ((Fr.start w).row (us Z) 35 (g := w.heap.size) rfl).get (g := w.heap.size) (t := 35) (cs := us Z) (by simp)
  have z0 := k0.frozen 4
  have c0 : (w.alloc (.cells (us Z) 35)).cell? ⟨w.heap.size, 4, none⟩ = some (.int .u64 ((0 : Nat) : Int)) := by rw [k0.cell, us_at (x := 0) (by rw [hZ]; decide)]
  have f1 : Fr w (w.alloc (.cells ((us Z).setIfInBounds 4 (.int .u64 (n : Int))) 35)) [(w.heap.size, 35, us (bndL n 2))] [] := by
    rw [us_set, show Z.set 4 n = bndL n 2 by rw [hZ]; unfold bndL; rfl]
    exact (Fr.start w).row _ 35 rfl
  have f2 := f1.row (us [0, 0, 0]) 35 (g := w.heap.size + 1) (by simp)
  have hus := US.ofBlk (l := [0, 0, 0]) (f2.get (g := w.heap.size + 1) (t := 35) (cs := us [0, 0, 0]) (by simp)) 3 rfl _ (f2.get (g := w.heap.size + 1) (t := 35) (cs := us [0, 0, 0]) (by simp)).lt
  have F2 := Lib.hid (f2.sub (L' := [(w.heap.size, 35, us (bndL n 2))]) (R' := []) (by simp) (by simp))
  have HUS := Lib.hid hus
  have BV := Lib.hid (bndL_val n 2)
  have BL := Lib.hid (show (bndL n 2).length = 5 from bndL_len n 2)
  have BD := Lib.hid (bndL_dig 2 hn)
  generalize bndL n 2 = bl at *
  clear k0 f1 f2 hus hZ
  go_enter Tryd.func17, Tryd.ntmps17
  go_wp2_with (fail)
  clear hmk
  go_loopw [7, 6] (fun i x wq => ∃ (j : Nat) (z : Int) (g c X : Nat) (l : List Nat), i = .int .i64 z ∧ z = (j : Int) - 1 ∧ j ≤ 70 ∧ x = .slice (some ⟨g, 0, none⟩) 3 c ∧ L3 l X ∧ Sk n 2 j X ∧ US wq wq.heap.size (some ⟨g, 0, none⟩) 3 c l ∧ Fr w wq [(w.heap.size, 35, us bl)] []) (fun i _ _ => (intOf i + 1).toNat)
  case atStart => exact ⟨70, 69, _, _, 0, [0, 0, 0], rfl, rfl, by omega, rfl, L3.start, Sk.start _ _, HUS.out, F2.out⟩
  case round =>
    obtain ⟨j, z, g, c, X, l, rfl, hz, hj, rfl, hl, hsk, hU, hF⟩ := hrel
    clear F2 HUS
    rcases Nat.eq_zero_or_pos j with h0 | h0
    · subst h0
      obtain rfl : z = -1 := by omega
      clear hz hj
      have hlow := hl.low
      rw [hsk.end_] at hlow
      obtain ⟨R, hR⟩ : ∃ R, R = rootN n 2 := ⟨_, rfl⟩
      rw [← hR] at hlow
      have HRR := Lib.hid hR
      clear hR
      obtain ⟨x0, hx0⟩ : ∃ x, x = l.getD 0 0 := ⟨_, rfl⟩
      obtain ⟨x1, hx1⟩ : ∃ x, x = l.getD 1 0 := ⟨_, rfl⟩
      obtain ⟨b, o, e1, hb, hc⟩ := hU.at_ (by omega)
      injection e1 with e1
      injection e1 with e1 e2
      subst e1; subst e2
      have c0 : wr.cell? ⟨g, 0, none⟩ = some (.int .u64 (x0 : Int)) := hc 0 x0 (by rw [hx0, List.getD, List.getElem?_eq_getElem (by rw [hl.len]; omega)]; rfl)
      have c1 : wr.cell? ⟨g, 1, none⟩ = some (.int .u64 (x1 : Int)) := hc 1 x1 (by rw [hx1, List.getD, List.getElem?_eq_getElem (by rw [hl.len]; omega)]; rfl)
      have d0 := hl.dig 0
      have d1 := hl.dig 1
      rw [← hx0, ← hx1] at hlow
      rw [← hx0] at d0
      rw [← hx1] at d1
      have s1 : IntKind.u64.wrap ((x1 : Int) * 4294967296) = ((x1 * 4294967296 : Nat) : Int) := by rw [IntKind.wrap_u64]; omega
      have s2 : IntKind.u64.wrap ((x0 : Int) + ((x1 * 4294967296 : Nat) : Int)) = (R : Int) := by rw [IntKind.wrap_u64]; omega
      obtain ⟨y1, hy1⟩ : ∃ y, y = x1 * 4294967296 := ⟨_, rfl⟩
      rw [← hy1] at s1 s2
      have HBF := Lib.hid hF.below
      clear hc hU hF hl hsk hlow hx0 hx1 hy1 d0 d1
      go_wp2_with (fail)
      refine wp_region_held_drew (S := fun W => W.cell? ⟨g, 0, none⟩ = some (.int .u64 (x0 : Int)) ∧ W.cell? ⟨g, 1, none⟩ = some (.int .u64 (x1 : Int))) (by kernel_rfl) ?_ (fun hHeld => ?_)
      · exact ⟨c0, c1⟩
      refine wpAnyH_take (i := 0) (v := ?_) rfl (by kernel_rfl) (by kernel_rfl) (by kernel_rfl) (fun _ _ _ h => h) (Or.inl ⟨by rfl, ?_⟩) hHeld ?_
      rotate_left
      · (intro W hSw; (try dsimp only at hSw); (try simp only [List.getElem_toArray, List.getElem_cons_succ, List.getElem_cons_zero]); go_simp; try with_reducible rfl)
      try simp only [Act.put, List.getElem_toArray, List.getElem_cons_succ, List.getElem_cons_zero, List.setIfInBounds_toArray, List.set_cons_zero, List.set_cons_succ]
      refine wpAnyH_take (i := 1) (v := ?_) rfl (by kernel_rfl) (by kernel_rfl) (by kernel_rfl) (fun _ _ _ h => h) (Or.inl ⟨by rfl, ?_⟩) hHeld ?_
      rotate_left
      · (intro W hSw; (try dsimp only at hSw); (try simp only [List.getElem_toArray, List.getElem_cons_succ, List.getElem_cons_zero]); go_simp; try with_reducible rfl)
      try simp only [Act.put, List.getElem_toArray, List.getElem_cons_succ, List.getElem_cons_zero, List.setIfInBounds_toArray, List.set_cons_zero, List.set_cons_succ]
      refine wpAnyH_take (i := 2) (v := ?_) rfl (by kernel_rfl) (by kernel_rfl) (by kernel_rfl) (fun _ _ _ h => h) (Or.inl ⟨by rfl, ?_⟩) hHeld ?_
      rotate_left
      · (intro W hSw; (try dsimp only at hSw); (try simp only [List.getElem_toArray, List.getElem_cons_succ, List.getElem_cons_zero]); go_simp; try with_reducible rfl)
      try simp only [Act.put, List.getElem_toArray, List.getElem_cons_succ, List.getElem_cons_zero, List.setIfInBounds_toArray, List.set_cons_zero, List.set_cons_succ]
      refine wpAnyH_take (i := 3) (v := ?_) rfl (by kernel_rfl) (by kernel_rfl) (by kernel_rfl) (fun _ _ _ h => h) (Or.inl ⟨by rfl, ?_⟩) hHeld ?_
      rotate_left
      · (intro W hSw; (try dsimp only at hSw); (try simp only [List.getElem_toArray, List.getElem_cons_succ, List.getElem_cons_zero]); go_simp; try with_reducible rfl)
      try simp only [Act.put, List.getElem_toArray, List.getElem_cons_succ, List.getElem_cons_zero, List.setIfInBounds_toArray, List.set_cons_zero, List.set_cons_succ]
      refine wpAnyH_take (i := 4) (v := ?_) rfl (by kernel_rfl) (by kernel_rfl) (by kernel_rfl) (fun _ _ _ h => h) (Or.inl ⟨by rfl, ?_⟩) hHeld ?_
      rotate_left
      · (intro W hSw; (try dsimp only at hSw); (try simp only [List.getElem_toArray, List.getElem_cons_succ, List.getElem_cons_zero]); go_simp; try with_reducible rfl)
      try simp only [Act.put, List.getElem_toArray, List.getElem_cons_succ, List.getElem_cons_zero, List.setIfInBounds_toArray, List.set_cons_zero, List.set_cons_succ]
      refine wpAnyH_take (i := 5) (v := ?_) rfl (by kernel_rfl) (by kernel_rfl) (by kernel_rfl) (fun _ _ _ h => h) (Or.inl ⟨by rfl, ?_⟩) hHeld ?_
      rotate_left
      · (intro W hSw; (try dsimp only at hSw); (try simp only [List.getElem_toArray, List.getElem_cons_succ, List.getElem_cons_zero]); go_simp; try with_reducible rfl)
      try simp only [Act.put, List.getElem_toArray, List.getElem_cons_succ, List.getElem_cons_zero, List.setIfInBounds_toArray, List.set_cons_zero, List.set_cons_succ]
      refine wpAnyH_take (i := 6) (v := ?_) rfl (by kernel_rfl) (by kernel_rfl) (by kernel_rfl) (fun _ _ _ h => h) (Or.inl ⟨by rfl, ?_⟩) hHeld ?_
      rotate_left
      · (intro W hSw; (try dsimp only at hSw); (try simp only [List.getElem_toArray, List.getElem_cons_succ, List.getElem_cons_zero]); go_simp; try with_reducible rfl)
      try simp only [Act.put, List.getElem_toArray, List.getElem_cons_succ, List.getElem_cons_zero, List.setIfInBounds_toArray, List.set_cons_zero, List.set_cons_succ]
      refine wpAnyH_take (i := 7) (v := ?_) rfl (by kernel_rfl) (by kernel_rfl) (by kernel_rfl) (fun _ _ _ h => h) (Or.inl ⟨by rfl, ?_⟩) hHeld ?_
      rotate_left
      · (intro W hSw; (try dsimp only at hSw); (try simp only [List.getElem_toArray, List.getElem_cons_succ, List.getElem_cons_zero]); go_simp; try with_reducible rfl)
      try simp only [Act.put, List.getElem_toArray, List.getElem_cons_succ, List.getElem_cons_zero, List.setIfInBounds_toArray, List.set_cons_zero, List.set_cons_succ]
      refine wpAnyH_take (i := 8) (v := ?_) rfl (by kernel_rfl) (by kernel_rfl) (by kernel_rfl) (fun _ _ _ h => h) (Or.inl ⟨by rfl, ?_⟩) hHeld ?_
      rotate_left
      · (intro W hSw; (try dsimp only at hSw); (try simp only [List.getElem_toArray, List.getElem_cons_succ, List.getElem_cons_zero]); go_simp; try with_reducible rfl)
      try simp only [Act.put, List.getElem_toArray, List.getElem_cons_succ, List.getElem_cons_zero, List.setIfInBounds_toArray, List.set_cons_zero, List.set_cons_succ]
      refine wpAnyH_done (by kernel_rfl) ?_ _
      go_wp2_with (fail)
      go_ret
      refine ⟨?_, HBF.out.drew⟩
      rw [← HRR.out]
      rfl
    · obtain ⟨i, rfl⟩ : ∃ k, j = k + 1 := ⟨j - 1, by omega⟩
      obtain rfl : z = (i : Int) := by omega
      clear hz h0
      have hi : i ≤ 69 := by omega
      obtain ⟨hdl, hl2⟩ := hl.add hi hsk.low
      have HU := Lib.hid hU
      have HF := Lib.hid hF
      have HLN := Lib.hid hl.len
      have HL := Lib.hid hl
      have HSK := Lib.hid hsk
      have HL2 := Lib.hid hl2
      obtain ⟨d, hd⟩ : ∃ d, d = l.getD (i / 32) 0 := ⟨_, rfl⟩
      rw [← hd] at hdl
      have HD := Lib.hid hd
      have hdq := hd
      clear hU hF hl hsk hl2 hd hj
      obtain ⟨q, hq⟩ : ∃ q, q = i / 32 := ⟨_, rfl⟩
      obtain ⟨r, hr⟩ : ∃ r, r = i % 32 := ⟨_, rfl⟩
      rw [← hr] at hdl
      have hq1 : (i : Int) / 32 = (q : Int) := by omega
      rw [← hq] at hdq
      have hr1 : (i : Int) % 32 = (r : Int) := by omega
      have hq3 : q < 3 := by omega
      have hr3 : r < 32 := by omega
      have HQ := Lib.hid hq
      have HDQ : Hid (l[q]? = some d) := Lib.hid (by rw [HD.out, hq, List.getD, List.getElem?_eq_getElem (by rw [HLN.out]; omega)]; rfl)
      have HR := Lib.hid hr
      obtain ⟨m, hm⟩ : ∃ m, m = 2 ^ r := ⟨_, rfl⟩
      rw [← hm] at hdl
      have hsh : IntKind.u64.wrap ((2 : Int) ^ r) = (m : Int) := by
        rw [show (2 : Int) ^ r = ((2 ^ r : Nat) : Int) by push_cast; rfl, ← hm, IntKind.wrap_u64]
        omega
      obtain ⟨dm, hdm⟩ : ∃ q, q = d + m := ⟨_, rfl⟩
      have hsm : IntKind.u64.wrap ((d : Int) + (m : Int)) = (dm : Int) := by rw [IntKind.wrap_u64]; omega
      have hl3 := HL2.out
      rw [← hq, ← hr, ← hdq, ← hm, ← hdm] at hl3
      clear HL2
      have HL2 := Lib.hid hl3
      clear hq hr hm hl3 hdq hdl
      go_wp2_with (at_builtin; refine wpList_app_ownU rfl (.const (.slice none 0 0)) (.tmp 24) 58 rfl 35 Tryd.underlying58 info_u64 wr.heap.size (.slice none 0 0) [] rfl (OwnU.nil _ _ _) wr.heap.size 3 c (some ⟨g, 0, none⟩) l rfl HU.out (by simp) (Nat.le_refl _) ?_; intro v1 w1 hown1 hg1 hat1; rw [List.nil_append] at hown1; obtain ⟨ge, cap1, rfl, hge1, hge2⟩ := hown1.slice3 HLN.out; have c1 := hown1.cell HLN.out.symm HDQ.out; have z1 := hown1.frozen HLN.out.symm q; have HO1 := Lib.hid hown1; have HG1 := Lib.hid hg1; have HGE1 := Lib.hid hge1; have HGE2 := Lib.hid hge2; clear hown1 hg1 hat1 hge1 hge2)
      have hset := (HO1.out.set HLN.out.symm q (d + m)).1
      rw [← hdm, show (dm : Int) = (d : Int) + (m : Int) by omega] at hset
      have hus2 := us_row hset
      have hb2 : Below wr.heap.size wr (w1.setCell ⟨ge, q, none⟩ (.int .u64 ((d : Int) + (m : Int)))) := ((Below.refl wr.heap.size wr).grown HG1.out (Nat.le_refl _) (fun g h => by cases h)).setCell HGE1.out _
      generalize w1.setCell ⟨ge, q, none⟩ (.int .u64 ((d : Int) + (m : Int))) = w2 at *
      have fr2 := HF.out.ext hb2
      have hx2 := HU.out.below hb2
      have htm := rtimes_any (l.set q dm) (l.set q dm) (some ⟨ge, 0, none⟩) (some ⟨ge, 0, none⟩) 3 cap1 3 cap1 w2.heap.size w2 hus2 hus2 (Nat.le_refl _) HL2.out.dig HL2.out.dig (by omega) (by omega) (by omega) (by omega)
      rw [HL2.out.val] at htm
      have HTM := Lib.hid htm
      have HUS2 := Lib.hid hus2
      have FR2 := Lib.hid fr2
      have HX2 := Lib.hid hx2
      have HSZ := Lib.hid hb2.size
      clear hset hus2 hb2 fr2 hx2 htm HO1 HG1 HGE1 HGE2 HF HU c1 z1
      generalize hY : X + 2 ^ i = Y at *
      refine HTM.out.mono ?_
      rintro e w3 ⟨lp, rfl, hlp, hdp, hvp, kp, hb3⟩
      have fr9 := FR2.out.ext hb3
      have hx9 := ((HX2.out.more HSZ.out).below hb3).more hb3.size
      have hy9 := (HUS2.out.below hb3).more hb3.size
      have hmo := rmost_any lp bl (some ⟨w2.heap.size, 0, none⟩) (some ⟨w.heap.size, 0, none⟩) 6 6 5 5 w3.heap.size w3.heap.size w3 (US.ofBlk kp 6 hlp.symm _ kp.lt) (US.ofBlk (fr9.get (g := w.heap.size) (t := 35) (cs := us bl) (by simp)) 5 BL.out.symm _ (fr9.get (g := w.heap.size) (t := 35) (cs := us bl) (by simp)).lt) hdp BD.out (by omega) (by omega)
      rw [hvp, BV.out, show Y * Y = Y ^ 2 by rw [Nat.pow_two]] at hmo
      have hsz9 := hx9.len
      by_cases hle : Y ^ 2 ≤ n * 2 ^ (64 * 2)
      · rw [decide_eq_true hle] at hmo
        have hk2 := HSK.out.yes hi (by rw [hY]; exact hle)
        rw [hY] at hk2
        have HK2 := Lib.hid hk2
        have HMO := Lib.hid hmo
        have FR9 := Lib.hid fr9
        have HY9 := Lib.hid hy9
        clear hmo hk2 fr9 hx9 hy9 hle hlp hdp hvp kp hb3 hsz9
        go_wp2_with (fail)
        refine HMO.out.mono ?_
        rintro e w9 ⟨rfl, rfl⟩
        go_wp2_with (fail)
        go_round
        case rel => exact ⟨i, _, ge, cap1, Y, _, rfl, by go_num, by omega, rfl, HL2.out, HK2.out, HY9.out, FR9.out⟩
        case measure => simp [intOf] <;> omega
      · rw [decide_eq_false hle] at hmo
        have hk2 := HSK.out.no (by rw [hY]; exact hle)
        have HK2 := Lib.hid hk2
        have HMO := Lib.hid hmo
        have FR9 := Lib.hid fr9
        have HX9 := Lib.hid hx9
        clear hmo hk2 fr9 hx9 hy9 hle hlp hdp hvp kp hb3 hsz9
        go_wp2_with (fail)
        refine HMO.out.mono ?_
        rintro e w9 ⟨rfl, rfl⟩
        go_wp2_with (fail)
        go_round
        case rel => exact ⟨i, _, g, c, X, _, rfl, by go_num, by omega, rfl, HL.out, HK2.out, HX9.out, FR9.out⟩
        case measure => simp [intOf] <;> omega
set_option maxRecDepth 100000 in
set_option maxHeartbeats 4000000 in
theorem rroot3_any (n : Nat) (w : World) (hn : n < 4294967296) : Calls Tryd.prog 17 #[.int .u64 n, .int .i64 3] w (NatPost (rootN n 3) w) := by
  have hmk := fun W => run_mku (P := Tryd.prog) 58 35 Tryd.underlying58 info_u64 7 (by omega) W
  rw [show ((7 : Nat) : Int) = 7 from rfl] at hmk
  obtain ⟨Z, hZ⟩ : ∃ Z, Z = List.replicate 7 0 := ⟨_, rfl⟩
  rw [← hZ] at hmk
  have k0 := ((Fr.start w).row (us Z) 35 (g := w.heap.size) rfl).get (g := w.heap.size) (t := 35) (cs := us Z) (by simp)
  have z0 := k0.frozen 6
  have c0 : (w.alloc (.cells (us Z) 35)).cell? ⟨w.heap.size, 6, none⟩ = some (.int .u64 ((0 : Nat) : Int)) := by rw [k0.cell, us_at (x := 0) (by rw [hZ]; decide)]
  have f1 : Fr w (w.alloc (.cells ((us Z).setIfInBounds 6 (.int .u64 (n : Int))) 35)) [(w.heap.size, 35, us (bndL n 3))] [] := by
    rw [us_set, show Z.set 6 n = bndL n 3 by rw [hZ]; unfold bndL; rfl]
    exact (Fr.start w).row _ 35 rfl
  have f2 := f1.row (us [0, 0, 0]) 35 (g := w.heap.size + 1) (by simp)
  have hus := US.ofBlk (l := [0, 0, 0]) (f2.get (g := w.heap.size + 1) (t := 35) (cs := us [0, 0, 0]) (by simp)) 3 rfl _ (f2.get (g := w.heap.size + 1) (t := 35) (cs := us [0, 0, 0]) (by simp)).lt
  have F2 := Lib.hid (f2.sub (L' := [(w.heap.size, 35, us (bndL n 3))]) (R' := []) (by simp) (by simp))
  have HUS := Lib.hid hus
  have BV := Lib.hid (bndL_val n 3)
  have BL := Lib.hid (show (bndL n 3).length = 7 from bndL_len n 3)
  have BD := Lib.hid (bndL_dig 3 hn)
  generalize bndL n 3 = bl at *
  clear k0 f1 f2 hus hZ
  go_enter Tryd.func17, Tryd.ntmps17
  go_wp2_with (fail)
  clear hmk
  go_loopw [7, 6] (fun i x wq => ∃ (j : Nat) (z : Int) (g c X : Nat) (l : List Nat), i = .int .i64 z ∧ z = (j : Int) - 1 ∧ j ≤ 70 ∧ x = .slice (some ⟨g, 0, none⟩) 3 c ∧ L3 l X ∧ Sk n 3 j X ∧ US wq wq.heap.size (some ⟨g, 0, none⟩) 3 c l ∧ Fr w wq [(w.heap.size, 35, us bl)] []) (fun i _ _ => (intOf i + 1).toNat)
  case atStart => exact ⟨70, 69, _, _, 0, [0, 0, 0], rfl, rfl, by omega, rfl, L3.start, Sk.start _ _, HUS.out, F2.out⟩
  case round =>
    obtain ⟨j, z, g, c, X, l, rfl, hz, hj, rfl, hl, hsk, hU, hF⟩ := hrel
    clear F2 HUS
    rcases Nat.eq_zero_or_pos j with h0 | h0
    · subst h0
      obtain rfl : z = -1 := by omega
      clear hz hj
      have hlow := hl.low
      rw [hsk.end_] at hlow
      obtain ⟨R, hR⟩ : ∃ R, R = rootN n 3 := ⟨_, rfl⟩
      rw [← hR] at hlow
      have HRR := Lib.hid hR
      clear hR
      obtain ⟨x0, hx0⟩ : ∃ x, x = l.getD 0 0 := ⟨_, rfl⟩
      obtain ⟨x1, hx1⟩ : ∃ x, x = l.getD 1 0 := ⟨_, rfl⟩
      obtain ⟨b, o, e1, hb, hc⟩ := hU.at_ (by omega)
      injection e1 with e1
      injection e1 with e1 e2
      subst e1; subst e2
      have c0 : wr.cell? ⟨g, 0, none⟩ = some (.int .u64 (x0 : Int)) := hc 0 x0 (by rw [hx0, List.getD, List.getElem?_eq_getElem (by rw [hl.len]; omega)]; rfl)
      have c1 : wr.cell? ⟨g, 1, none⟩ = some (.int .u64 (x1 : Int)) := hc 1 x1 (by rw [hx1, List.getD, List.getElem?_eq_getElem (by rw [hl.len]; omega)]; rfl)
      have d0 := hl.dig 0
      have d1 := hl.dig 1
      rw [← hx0, ← hx1] at hlow
      rw [← hx0] at d0
      rw [← hx1] at d1
      have s1 : IntKind.u64.wrap ((x1 : Int) * 4294967296) = ((x1 * 4294967296 : Nat) : Int) := by rw [IntKind.wrap_u64]; omega
      have s2 : IntKind.u64.wrap ((x0 : Int) + ((x1 * 4294967296 : Nat) : Int)) = (R : Int) := by rw [IntKind.wrap_u64]; omega
      obtain ⟨y1, hy1⟩ : ∃ y, y = x1 * 4294967296 := ⟨_, rfl⟩
      rw [← hy1] at s1 s2
      have HBF := Lib.hid hF.below
      clear hc hU hF hl hsk hlow hx0 hx1 hy1 d0 d1
      go_wp2_with (fail)
      refine wp_region_held_drew (S := fun W => W.cell? ⟨g, 0, none⟩ = some (.int .u64 (x0 : Int)) ∧ W.cell? ⟨g, 1, none⟩ = some (.int .u64 (x1 : Int))) (by kernel_rfl) ?_ (fun hHeld => ?_)
      · exact ⟨c0, c1⟩
      refine wpAnyH_take (i := 0) (v := ?_) rfl (by kernel_rfl) (by kernel_rfl) (by kernel_rfl) (fun _ _ _ h => h) (Or.inl ⟨by rfl, ?_⟩) hHeld ?_
      rotate_left
      · (intro W hSw; (try dsimp only at hSw); (try simp only [List.getElem_toArray, List.getElem_cons_succ, List.getElem_cons_zero]); go_simp; try with_reducible rfl)
      try simp only [Act.put, List.getElem_toArray, List.getElem_cons_succ, List.getElem_cons_zero, List.setIfInBounds_toArray, List.set_cons_zero, List.set_cons_succ]
      refine wpAnyH_take (i := 1) (v := ?_) rfl (by kernel_rfl) (by kernel_rfl) (by kernel_rfl) (fun _ _ _ h => h) (Or.inl ⟨by rfl, ?_⟩) hHeld ?_
      rotate_left
      · (intro W hSw; (try dsimp only at hSw); (try simp only [List.getElem_toArray, List.getElem_cons_succ, List.getElem_cons_zero]); go_simp; try with_reducible rfl)
      try simp only [Act.put, List.getElem_toArray, List.getElem_cons_succ, List.getElem_cons_zero, List.setIfInBounds_toArray, List.set_cons_zero, List.set_cons_succ]
      refine wpAnyH_take (i := 2) (v := ?_) rfl (by kernel_rfl) (by kernel_rfl) (by kernel_rfl) (fun _ _ _ h => h) (Or.inl ⟨by rfl, ?_⟩) hHeld ?_
      rotate_left
      · (intro W hSw; (try dsimp only at hSw); (try simp only [List.getElem_toArray, List.getElem_cons_succ, List.getElem_cons_zero]); go_simp; try with_reducible rfl)
      try simp only [Act.put, List.getElem_toArray, List.getElem_cons_succ, List.getElem_cons_zero, List.setIfInBounds_toArray, List.set_cons_zero, List.set_cons_succ]
      refine wpAnyH_take (i := 3) (v := ?_) rfl (by kernel_rfl) (by kernel_rfl) (by kernel_rfl) (fun _ _ _ h => h) (Or.inl ⟨by rfl, ?_⟩) hHeld ?_
      rotate_left
      · (intro W hSw; (try dsimp only at hSw); (try simp only [List.getElem_toArray, List.getElem_cons_succ, List.getElem_cons_zero]); go_simp; try with_reducible rfl)
      try simp only [Act.put, List.getElem_toArray, List.getElem_cons_succ, List.getElem_cons_zero, List.setIfInBounds_toArray, List.set_cons_zero, List.set_cons_succ]
      refine wpAnyH_take (i := 4) (v := ?_) rfl (by kernel_rfl) (by kernel_rfl) (by kernel_rfl) (fun _ _ _ h => h) (Or.inl ⟨by rfl, ?_⟩) hHeld ?_
      rotate_left
      · (intro W hSw; (try dsimp only at hSw); (try simp only [List.getElem_toArray, List.getElem_cons_succ, List.getElem_cons_zero]); go_simp; try with_reducible rfl)
      try simp only [Act.put, List.getElem_toArray, List.getElem_cons_succ, List.getElem_cons_zero, List.setIfInBounds_toArray, List.set_cons_zero, List.set_cons_succ]
      refine wpAnyH_take (i := 5) (v := ?_) rfl (by kernel_rfl) (by kernel_rfl) (by kernel_rfl) (fun _ _ _ h => h) (Or.inl ⟨by rfl, ?_⟩) hHeld ?_
      rotate_left
      · (intro W hSw; (try dsimp only at hSw); (try simp only [List.getElem_toArray, List.getElem_cons_succ, List.getElem_cons_zero]); go_simp; try with_reducible rfl)
      try simp only [Act.put, List.getElem_toArray, List.getElem_cons_succ, List.getElem_cons_zero, List.setIfInBounds_toArray, List.set_cons_zero, List.set_cons_succ]
      refine wpAnyH_take (i := 6) (v := ?_) rfl (by kernel_rfl) (by kernel_rfl) (by kernel_rfl) (fun _ _ _ h => h) (Or.inl ⟨by rfl, ?_⟩) hHeld ?_
      rotate_left
      · (intro W hSw; (try dsimp only at hSw); (try simp only [List.getElem_toArray, List.getElem_cons_succ, List.getElem_cons_zero]); go_simp; try with_reducible rfl)
      try simp only [Act.put, List.getElem_toArray, List.getElem_cons_succ, List.getElem_cons_zero, List.setIfInBounds_toArray, List.set_cons_zero, List.set_cons_succ]
      refine wpAnyH_take (i := 7) (v := ?_) rfl (by kernel_rfl) (by kernel_rfl) (by kernel_rfl) (fun _ _ _ h => h) (Or.inl ⟨by rfl, ?_⟩) hHeld ?_
      rotate_left
      · (intro W hSw; (try dsimp only at hSw); (try simp only [List.getElem_toArray, List.getElem_cons_succ, List.getElem_cons_zero]); go_simp; try with_reducible rfl)
      try simp only [Act.put, List.getElem_toArray, List.getElem_cons_succ, List.getElem_cons_zero, List.setIfInBounds_toArray, List.set_cons_zero, List.set_cons_succ]
      refine wpAnyH_take (i := 8) (v := ?_) rfl (by kernel_rfl) (by kernel_rfl) (by kernel_rfl) (fun _ _ _ h => h) (Or.inl ⟨by rfl, ?_⟩) hHeld ?_
      rotate_left
      · (intro W hSw; (try dsimp only at hSw); (try simp only [List.getElem_toArray, List.getElem_cons_succ, List.getElem_cons_zero]); go_simp; try with_reducible rfl)
      try simp only [Act.put, List.getElem_toArray, List.getElem_cons_succ, List.getElem_cons_zero, List.setIfInBounds_toArray, List.set_cons_zero, List.set_cons_succ]
      refine wpAnyH_done (by kernel_rfl) ?_ _
      go_wp2_with (fail)
      go_ret
      refine ⟨?_, HBF.out.drew⟩
      rw [← HRR.out]
      rfl
    · obtain ⟨i, rfl⟩ : ∃ k, j = k + 1 := ⟨j - 1, by omega⟩
      obtain rfl : z = (i : Int) := by omega
      clear hz h0
      have hi : i ≤ 69 := by omega
      obtain ⟨hdl, hl2⟩ := hl.add hi hsk.low
      have HU := Lib.hid hU
      have HF := Lib.hid hF
      have HLN := Lib.hid hl.len
      have HL := Lib.hid hl
      have HSK := Lib.hid hsk
      have HL2 := Lib.hid hl2
      obtain ⟨d, hd⟩ : ∃ d, d = l.getD (i / 32) 0 := ⟨_, rfl⟩
      rw [← hd] at hdl
      have HD := Lib.hid hd
      have hdq := hd
      clear hU hF hl hsk hl2 hd hj
      obtain ⟨q, hq⟩ : ∃ q, q = i / 32 := ⟨_, rfl⟩
      obtain ⟨r, hr⟩ : ∃ r, r = i % 32 := ⟨_, rfl⟩
      rw [← hr] at hdl
      have hq1 : (i : Int) / 32 = (q : Int) := by omega
      rw [← hq] at hdq
      have hr1 : (i : Int) % 32 = (r : Int) := by omega
      have hq3 : q < 3 := by omega
      have hr3 : r < 32 := by omega
      have HQ := Lib.hid hq
      have HDQ : Hid (l[q]? = some d) := Lib.hid (by rw [HD.out, hq, List.getD, List.getElem?_eq_getElem (by rw [HLN.out]; omega)]; rfl)
      have HR := Lib.hid hr
      obtain ⟨m, hm⟩ : ∃ m, m = 2 ^ r := ⟨_, rfl⟩
      rw [← hm] at hdl
      have hsh : IntKind.u64.wrap ((2 : Int) ^ r) = (m : Int) := by
        rw [show (2 : Int) ^ r = ((2 ^ r : Nat) : Int) by push_cast; rfl, ← hm, IntKind.wrap_u64]
        omega
      obtain ⟨dm, hdm⟩ : ∃ q, q = d + m := ⟨_, rfl⟩
      have hsm : IntKind.u64.wrap ((d : Int) + (m : Int)) = (dm : Int) := by rw [IntKind.wrap_u64]; omega
      have hl3 := HL2.out
      rw [← hq, ← hr, ← hdq, ← hm, ← hdm] at hl3
      clear HL2
      have HL2 := Lib.hid hl3
      clear hq hr hm hl3 hdq hdl
      go_wp2_with (at_builtin; refine wpList_app_ownU rfl (.const (.slice none 0 0)) (.tmp 24) 58 rfl 35 Tryd.underlying58 info_u64 wr.heap.size (.slice none 0 0) [] rfl (OwnU.nil _ _ _) wr.heap.size 3 c (some ⟨g, 0, none⟩) l rfl HU.out (by simp) (Nat.le_refl _) ?_; intro v1 w1 hown1 hg1 hat1; rw [List.nil_append] at hown1; obtain ⟨ge, cap1, rfl, hge1, hge2⟩ := hown1.slice3 HLN.out; have c1 := hown1.cell HLN.out.symm HDQ.out; have z1 := hown1.frozen HLN.out.symm q; have HO1 := Lib.hid hown1; have HG1 := Lib.hid hg1; have HGE1 := Lib.hid hge1; have HGE2 := Lib.hid hge2; clear hown1 hg1 hat1 hge1 hge2)
      have hset := (HO1.out.set HLN.out.symm q (d + m)).1
      rw [← hdm, show (dm : Int) = (d : Int) + (m : Int) by omega] at hset
      have hus2 := us_row hset
      have hb2 : Below wr.heap.size wr (w1.setCell ⟨ge, q, none⟩ (.int .u64 ((d : Int) + (m : Int)))) := ((Below.refl wr.heap.size wr).grown HG1.out (Nat.le_refl _) (fun g h => by cases h)).setCell HGE1.out _
      generalize w1.setCell ⟨ge, q, none⟩ (.int .u64 ((d : Int) + (m : Int))) = w2 at *
      have fr2 := HF.out.ext hb2
      have hx2 := HU.out.below hb2
      have htm := rtimes_any (l.set q dm) (l.set q dm) (some ⟨ge, 0, none⟩) (some ⟨ge, 0, none⟩) 3 cap1 3 cap1 w2.heap.size w2 hus2 hus2 (Nat.le_refl _) HL2.out.dig HL2.out.dig (by omega) (by omega) (by omega) (by omega)
      rw [HL2.out.val] at htm
      have HTM := Lib.hid htm
      have HUS2 := Lib.hid hus2
      have FR2 := Lib.hid fr2
      have HX2 := Lib.hid hx2
      have HSZ := Lib.hid hb2.size
      clear hset hus2 hb2 fr2 hx2 htm HO1 HG1 HGE1 HGE2 HF HU c1 z1
      generalize hY : X + 2 ^ i = Y at *
      refine HTM.out.mono ?_
      rintro e w3 ⟨lp, rfl, hlp, hdp, hvp, kp, hb3⟩
      have fr3 := FR2.out.ext hb3
      have hx3 := ((HX2.out.more HSZ.out).below hb3).more hb3.size
      have hy3 := (HUS2.out.below hb3).more hb3.size
      have htm := rtimes_any lp (l.set q dm) (some ⟨w2.heap.size, 0, none⟩) (some ⟨ge, 0, none⟩) 6 6 3 cap1 w3.heap.size w3 (US.ofBlk kp 6 hlp.symm _ kp.lt) hy3 (Nat.le_refl _) hdp HL2.out.dig (by omega) (by omega) (by omega) (by omega)
      rw [HL2.out.val, hvp] at htm
      have HTM2 := Lib.hid htm
      have FR3 := Lib.hid fr3
      have HX3 := Lib.hid hx3
      have HY3 := Lib.hid hy3
      clear fr3 hx3 hy3 htm hlp hdp hvp kp hb3 HTM FR2 HX2 HUS2
      go_wp2_with (fail)
      refine HTM2.out.mono ?_
      rintro e w4 ⟨lp2, rfl, hlp2, hdp2, hvp2, kp2, hb4⟩
      have fr9 := FR3.out.ext hb4
      have hx9 := (HX3.out.below hb4).more hb4.size
      have hy9 := (HY3.out.below hb4).more hb4.size
      have hmo := rmost_any lp2 bl (some ⟨w3.heap.size, 0, none⟩) (some ⟨w.heap.size, 0, none⟩) 9 9 7 7 w4.heap.size w4.heap.size w4 (US.ofBlk kp2 9 hlp2.symm _ kp2.lt) (US.ofBlk (fr9.get (g := w.heap.size) (t := 35) (cs := us bl) (by simp)) 7 BL.out.symm _ (fr9.get (g := w.heap.size) (t := 35) (cs := us bl) (by simp)).lt) hdp2 BD.out (by omega) (by omega)
      rw [hvp2, BV.out, show Y * Y * Y = Y ^ 3 by rw [Nat.pow_succ, Nat.pow_two]] at hmo
      have hsz9 := hx9.len
      by_cases hle : Y ^ 3 ≤ n * 2 ^ (64 * 3)
      · rw [decide_eq_true hle] at hmo
        have hk2 := HSK.out.yes hi (by rw [hY]; exact hle)
        rw [hY] at hk2
        have HK2 := Lib.hid hk2
        have HMO := Lib.hid hmo
        have FR9 := Lib.hid fr9
        have HY9 := Lib.hid hy9
        clear hmo hk2 fr9 hx9 hy9 hle hlp2 hdp2 hvp2 kp2 hb4 hsz9
        go_wp2_with (fail)
        refine HMO.out.mono ?_
        rintro e w9 ⟨rfl, rfl⟩
        go_wp2_with (fail)
        go_round
        case rel => exact ⟨i, _, ge, cap1, Y, _, rfl, by go_num, by omega, rfl, HL2.out, HK2.out, HY9.out, FR9.out⟩
        case measure => simp [intOf] <;> omega
      · rw [decide_eq_false hle] at hmo
        have hk2 := HSK.out.no (by rw [hY]; exact hle)
        have HK2 := Lib.hid hk2
        have HMO := Lib.hid hmo
        have FR9 := Lib.hid fr9
        have HX9 := Lib.hid hx9
        clear hmo hk2 fr9 hx9 hy9 hle hlp2 hdp2 hvp2 kp2 hb4 hsz9
        go_wp2_with (fail)
        refine HMO.out.mono ?_
        rintro e w9 ⟨rfl, rfl⟩
        go_wp2_with (fail)
        go_round
        case rel => exact ⟨i, _, g, c, X, _, rfl, by go_num, by omega, rfl, HL.out, HK2.out, HX9.out, FR9.out⟩
        case measure => simp [intOf] <;> omega
end Go.Proofs.YtagifgadcbhinaaDoor
