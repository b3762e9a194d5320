/- Layer 14 purely: a disk: settled blocks, writes that are not synced, the fuse, whether it is dead; what follows. -/
import Derived.Test.YtiebelmglchbdaaWords
namespace Go.Proofs.Ytiebelmglchbdaa
set_option linter.unusedVariables false
set_option linter.unusedSimpArgs false
open Go

structure Dk where
  B : List (List UInt8)
  L : List (Nat × List UInt8)
  fuse : Int
  dead : Bool
def zeroB : List UInt8 := List.replicate 512 0
def dNew (n : Nat) : Dk := ⟨List.replicate n zeroB, [], -1, false⟩
def hasB (D : Dk) (n : Int) : Prop := 0 ≤ n ∧ n < (D.B.length : Int)
instance {D : Dk} {n : Int} : Decidable (hasB D n) := inferInstanceAs (Decidable (_ ∧ _))
/-- What a block reads as: what was written last. -/
def readK (B : List (List UInt8)) (L : List (Nat × List UInt8)) (n : Nat) : List UInt8 := L.foldl (fun b p => if p.1 = n then p.2 else b) (B.getD n [])
def readB (D : Dk) (n : Nat) : List UInt8 := readK D.B D.L n
/-- A step: what is behind it, its error. -/
def dStep (D : Dk) : Dk × Int := if D.dead = true then (D, 14) else if D.fuse = 0 then ({ D with dead := true }, 17) else ({ D with fuse := if 0 < D.fuse then D.fuse - 1 else D.fuse }, 0)
def dWrite (D : Dk) (n : Int) (b : List UInt8) : Dk × Int :=
  if hasB D n ∧ b.length = 512 then
    if (dStep D).2 = 14 then dStep D else ({ (dStep D).1 with L := D.L ++ [(n.toNat, b)] }, (dStep D).2)
  else (D, 2)
def settle (L : List (Nat × List UInt8)) (B : List (List UInt8)) : List (List UInt8) := L.foldl (fun B p => B.set p.1 p.2) B
def dSync (D : Dk) : Dk × Int := if (dStep D).2 = 0 then ({ (dStep D).1 with B := settle D.L D.B, L := [] }, 0) else dStep D
def dFuse (D : Dk) (n : Int) : Dk × Int := if n < 0 then (D, 2) else ({ D with fuse := n }, 0)
/-- How many bytes of a write last, by its pick; none: it is lost. -/
def lastsB (p : Int) (last : Bool) : Option Nat := if p % 3 = 0 then none else some (if p % 3 = 2 ∧ last = true then (p / 3 % 513).toNat else 512)
def tornB (k : Nat) (b old : List UInt8) : List UInt8 := b.take k ++ old.drop k
def crashB (picks : List Int) : Nat → List (Nat × List UInt8) → List (List UInt8) → List (List UInt8)
  | _, [], B => B
  | i, p :: r, B => crashB picks (i + 1) r (match lastsB (picks.getD i 0) r.isEmpty with
    | none => B
    | some k => B.set p.1 (tornB k p.2 (B.getD p.1 [])))
def dCrash (D : Dk) (picks : List Int) : Dk := ⟨crashB picks 0 D.L D.B, [], -1, false⟩
def xorB (k : Nat) (x : UInt8) (b : List UInt8) : List UInt8 := b.modify k (· ^^^ x)
def editL (n k : Nat) (x : UInt8) (L : List (Nat × List UInt8)) : List (Nat × List UInt8) := L.map fun p => if p.1 = n then (p.1, xorB k x p.2) else p
def dEdit (D : Dk) (n k : Int) (x : UInt8) : Dk × Int :=
  if hasB D n ∧ 0 ≤ k ∧ k < 512 then ({ D with B := D.B.modify n.toNat (xorB k.toNat x), L := editL n.toNat k.toNat x D.L }, 0) else (D, 2)
/-- Each block has 512 bytes, each write is of a block that there is. -/
structure Dk.ok (D : Dk) : Prop where
  B : ∀ b ∈ D.B, b.length = 512
  L : ∀ p ∈ D.L, p.1 < D.B.length ∧ p.2.length = 512
theorem new_ok (n : Nat) : (dNew n).ok := ⟨fun b hb => by rw [(List.mem_replicate.1 hb).2]; exact List.length_replicate, fun p hp => by cases hp⟩
theorem step_same (D : Dk) : (dStep D).1.B = D.B ∧ (dStep D).1.L = D.L := by
  unfold dStep
  split
  · exact ⟨rfl, rfl⟩
  · split <;> exact ⟨rfl, rfl⟩
theorem write_ok {D : Dk} (h : D.ok) (n : Int) (b : List UInt8) : (dWrite D n b).1.ok := by
  obtain ⟨h1, h2⟩ := step_same D
  unfold dWrite
  split
  · rename_i hn
    have hs : (dStep D).1.ok := ⟨by rw [h1]; exact h.B, by rw [h1, h2]; exact h.L⟩
    split
    · exact hs
    · refine ⟨hs.B, fun p hp => ?_⟩
      have hp : p ∈ D.L ++ [(n.toNat, b)] := hp
      show p.1 < (dStep D).1.B.length ∧ _
      rw [h1]
      rcases List.mem_append.1 hp with hp | hp
      · exact h.L p hp
      · rw [List.mem_singleton.1 hp]
        have := hn.1
        unfold hasB at this
        exact ⟨by show n.toNat < _; omega, hn.2⟩
  · exact h
theorem settle_len : ∀ (L : List (Nat × List UInt8)) (B : List (List UInt8)), (settle L B).length = B.length
  | [], _ => rfl
  | p :: r, B => (settle_len r (B.set p.1 p.2)).trans List.length_set
theorem settle_mem : ∀ (L : List (Nat × List UInt8)) (B : List (List UInt8)), (∀ b ∈ B, b.length = 512) → (∀ p ∈ L, p.2.length = 512) → ∀ b ∈ settle L B, b.length = 512
  | [], _, hB, _ => hB
  | p :: r, B, hB, hL => settle_mem r (B.set p.1 p.2) (fun b hb => by
    rcases List.mem_or_eq_of_mem_set hb with hb | hb
    · exact hB b hb
    · rw [hb]; exact hL p List.mem_cons_self) (fun q hq => hL q (List.mem_cons_of_mem _ hq))
/-- What is settled reads as it did. -/
theorem settle_read : ∀ (L : List (Nat × List UInt8)) (B : List (List UInt8)) (n : Nat), (∀ p ∈ L, p.1 < B.length) → (settle L B).getD n [] = readK B L n
  | [], _, _, _ => rfl
  | p :: r, B, n, h => by
    refine (settle_read r (B.set p.1 p.2) n (fun q hq => by rw [List.length_set]; exact h q (List.mem_cons_of_mem _ hq))).trans ?_
    have e : (B.set p.1 p.2).getD n [] = if p.1 = n then p.2 else B.getD n [] := by
      have hp := h p List.mem_cons_self
      rw [List.getD_eq_getElem?_getD, List.getElem?_set, List.getD_eq_getElem?_getD]
      split
      · rfl
      · rfl
    show r.foldl _ _ = r.foldl _ _
    rw [e]
theorem sync_ok {D : Dk} (h : D.ok) : (dSync D).1.ok := by
  obtain ⟨h1, h2⟩ := step_same D
  unfold dSync
  split
  · exact ⟨settle_mem _ _ h.B (fun p hp => (h.L p hp).2), fun p hp => by cases hp⟩
  · exact ⟨by rw [h1]; exact h.B, by rw [h1, h2]; exact h.L⟩
theorem fuse_ok {D : Dk} (h : D.ok) (n : Int) : (dFuse D n).1.ok := by
  unfold dFuse
  split
  · exact h
  · exact ⟨h.B, h.L⟩
theorem lasts_le {p : Int} {b : Bool} {k : Nat} (h : lastsB p b = some k) : k ≤ 512 := by
  unfold lastsB at h
  split at h
  · cases h
  · injection h with h
    subst h
    split
    · omega
    · exact Nat.le_refl _
theorem lasts_all {p : Int} {k : Nat} (h : lastsB p false = some k) : k = 512 := by
  unfold lastsB at h
  split at h
  · cases h
  · injection h with h
    rw [← h, if_neg (by simp)]
theorem torn_all {b old : List UInt8} (hb : b.length = 512) (ho : old.length ≤ 512) : tornB 512 b old = b := by
  unfold tornB
  rw [List.take_of_length_le (by omega), List.drop_of_length_le ho, List.append_nil]
theorem torn_len {k : Nat} {b old : List UInt8} (hk : k ≤ 512) (hb : b.length = 512) (ho : old.length = 512) : (tornB k b old).length = 512 := by
  unfold tornB
  rw [List.length_append, List.length_take, List.length_drop]
  omega
theorem getD_len {B : List (List UInt8)} (h : ∀ b ∈ B, b.length = 512) {n : Nat} (hn : n < B.length) : (B.getD n []).length = 512 := by
  rw [List.getD_eq_getElem?_getD, List.getElem?_eq_getElem hn]
  exact h _ (List.getElem_mem hn)
theorem crash_len (picks : List Int) : ∀ (L : List (Nat × List UInt8)) (i : Nat) (B : List (List UInt8)), (crashB picks i L B).length = B.length
  | [], _, _ => rfl
  | p :: r, i, B => by
    unfold crashB
    rw [crash_len picks r]
    split
    · rfl
    · exact List.length_set
theorem crash_mem (picks : List Int) : ∀ (L : List (Nat × List UInt8)) (i : Nat) (B : List (List UInt8)), (∀ b ∈ B, b.length = 512) → (∀ p ∈ L, p.1 < B.length ∧ p.2.length = 512) → ∀ b ∈ crashB picks i L B, b.length = 512
  | [], _, _, hB, _ => hB
  | p :: r, i, B, hB, hL => by
    unfold crashB
    obtain ⟨h1, h2⟩ := hL p List.mem_cons_self
    cases hl : lastsB (picks.getD i 0) r.isEmpty with
    | none => exact crash_mem picks r (i + 1) B hB fun q hq => hL q (List.mem_cons_of_mem _ hq)
    | some k =>
      refine crash_mem picks r (i + 1) _ (fun b hb => ?_) fun q hq => by
        rw [List.length_set]
        exact hL q (List.mem_cons_of_mem _ hq)
      rcases List.mem_or_eq_of_mem_set hb with hb | hb
      · exact hB b hb
      · rw [hb]
        exact torn_len (lasts_le hl) h2 (getD_len hB h1)
theorem crash_ok {D : Dk} (h : D.ok) (picks : List Int) : (dCrash D picks).ok := ⟨crash_mem picks _ _ _ h.B h.L, fun p hp => by cases hp⟩
/-- A block as it was settled, or as a write left it. -/
def LeftB (B0 : List (List UInt8)) (P : List (Nat × List UInt8)) (n : Nat) (b : List UInt8) : Prop := b = B0.getD n [] ∨ (n, b) ∈ P
/-- Behind a loss of power: each block is as it was settled or as a write left it; the last write's may be torn. -/
theorem crash_left (picks : List Int) (B0 : List (List UInt8)) : ∀ (r : List (Nat × List UInt8)) (i : Nat) (B : List (List UInt8)) (P : List (Nat × List UInt8)), (∀ b ∈ B, b.length = 512) → (∀ p ∈ r, p.1 < B.length ∧ p.2.length = 512) → (∀ n, LeftB B0 P n (B.getD n [])) →
    ∀ n, LeftB B0 (P ++ r) n ((crashB picks i r B).getD n []) ∨ ∃ q k old, (P ++ r).getLast? = some (n, q) ∧ k ≤ 512 ∧ LeftB B0 (P ++ r) n old ∧ (crashB picks i r B).getD n [] = tornB k q old
  | [], _, _, P, _, _, h, n => .inl (by rw [List.append_nil]; exact h n)
  | p :: r, i, B, P, hB, hL, h, n => by
    obtain ⟨h1, h2⟩ := hL p List.mem_cons_self
    have more : ∀ m b, LeftB B0 P m b → LeftB B0 (P ++ [p]) m b := fun m b hb => hb.imp id fun hb => List.mem_append_left _ hb
    have e : P ++ p :: r = P ++ [p] ++ r := by simp
    unfold crashB
    cases hl : lastsB (picks.getD i 0) r.isEmpty with
    | none =>
      rw [e]
      exact crash_left picks B0 r (i + 1) B (P ++ [p]) hB (fun q hq => hL q (List.mem_cons_of_mem _ hq)) (fun m => more m _ (h m)) n
    | some k =>
      have hset : ∀ m, (B.set p.1 (tornB k p.2 (B.getD p.1 []))).getD m [] = if p.1 = m then tornB k p.2 (B.getD p.1 []) else B.getD m [] := fun m => by
        rw [List.getD_eq_getElem?_getD, List.getElem?_set, List.getD_eq_getElem?_getD]
        split
        · rfl
        · rfl
      have hmem : ∀ b ∈ B.set p.1 (tornB k p.2 (B.getD p.1 [])), b.length = 512 := fun b hb => by
        rcases List.mem_or_eq_of_mem_set hb with hb | hb
        · exact hB b hb
        · rw [hb]
          exact torn_len (lasts_le hl) h2 (getD_len hB h1)
      cases r with
      | cons q r' =>
        have hk := lasts_all hl
        subst hk
        rw [e]
        refine crash_left picks B0 (q :: r') (i + 1) _ (P ++ [p]) hmem (fun q hq => by rw [List.length_set]; exact hL q (List.mem_cons_of_mem _ hq)) (fun m => ?_) n
        rw [hset m]
        split
        · rename_i hm
          subst hm
          rw [torn_all h2 (Nat.le_of_eq (getD_len hB h1))]
          exact .inr (List.mem_append_right _ (List.mem_singleton.2 rfl))
        · exact more m _ (h m)
      | nil =>
        show LeftB B0 (P ++ [p]) n ((B.set p.1 (tornB k p.2 (B.getD p.1 []))).getD n []) ∨ ∃ q k' old, (P ++ [p]).getLast? = some (n, q) ∧ k' ≤ 512 ∧ LeftB B0 (P ++ [p]) n old ∧ (B.set p.1 (tornB k p.2 (B.getD p.1 []))).getD n [] = tornB k' q old
        rw [hset n]
        split
        · rename_i hm
          subst hm
          exact .inr ⟨p.2, k, _, by simp, lasts_le hl, more _ _ (h p.1), rfl⟩
        · exact .inl (more n _ (h n))
/-- P14.4. -/
theorem crash_means {D : Dk} (h : D.ok) (picks : List Int) (n : Nat) : LeftB D.B D.L n ((dCrash D picks).B.getD n []) ∨ ∃ q k old, D.L.getLast? = some (n, q) ∧ k ≤ 512 ∧ LeftB D.B D.L n old ∧ (dCrash D picks).B.getD n [] = tornB k q old := by
  have := crash_left picks D.B D.L 0 D.B [] h.B h.L (fun n => .inl rfl) n
  rwa [List.nil_append] at this
/-- What was synced lasts. -/
theorem synced_lasts {D : Dk} (hL : D.L = []) (picks : List Int) : (dCrash D picks).B = D.B := by
  show crashB picks 0 D.L D.B = D.B
  rw [hL]
  rfl
/-- A loss of power at which no write lasts. -/
theorem crash_none : ∀ (L : List (Nat × List UInt8)) (i : Nat) (B : List (List UInt8)), crashB [] i L B = B
  | [], _, _ => rfl
  | p :: r, i, B => by
    unfold crashB
    have e : lastsB (([] : List Int).getD i 0) r.isEmpty = none := by
      rw [show ([] : List Int).getD i 0 = 0 by simp]
      rfl
    rw [e]
    exact crash_none r (i + 1) B
/-- .. at which each lasts. -/
theorem crash_each (picks : List Int) : ∀ (L : List (Nat × List UInt8)) (i : Nat) (B : List (List UInt8)), (∀ b ∈ B, b.length = 512) → (∀ p ∈ L, p.1 < B.length ∧ p.2.length = 512) → (∀ j, j < L.length → picks.getD (i + j) 0 = 1) → crashB picks i L B = settle L B
  | [], _, _, _, _, _ => rfl
  | p :: r, i, B, hB, hL, hp => by
    obtain ⟨h1, h2⟩ := hL p List.mem_cons_self
    unfold crashB
    have e : lastsB (picks.getD i 0) r.isEmpty = some 512 := by
      have := hp 0 (by simp)
      rw [Nat.add_zero] at this
      rw [this]
      rfl
    rw [e]
    have et : tornB 512 p.2 (B.getD p.1 []) = p.2 := torn_all h2 (Nat.le_of_eq (getD_len hB h1))
    show crashB picks (i + 1) r (B.set p.1 (tornB 512 p.2 (B.getD p.1 []))) = settle r (B.set p.1 p.2)
    rw [et]
    exact crash_each picks r (i + 1) _ (fun b hb => by
      rcases List.mem_or_eq_of_mem_set hb with hb | hb
      · exact hB b hb
      · rw [hb]; exact h2) (fun q hq => by rw [List.length_set]; exact hL q (List.mem_cons_of_mem _ hq)) (fun j hj => by
      have := hp (j + 1) (by simp; omega)
      rwa [show i + 1 + j = i + (j + 1) by omega])
/-! A byte that is changed. -/
theorem xor_xor (k : Nat) (x : UInt8) (b : List UInt8) : xorB k x (xorB k x b) = b := by
  unfold xorB
  apply List.ext_getElem?
  intro j
  rw [List.getElem?_modify, List.getElem?_modify]
  split
  · cases b[j]? with
    | none => rfl
    | some y =>
      show some ((y ^^^ x) ^^^ x) = some y
      rw [UInt8.xor_assoc, UInt8.xor_self, UInt8.xor_zero]
  · simp
theorem xor_len (k : Nat) (x : UInt8) (b : List UInt8) : (xorB k x b).length = b.length := List.length_modify _ _ _
theorem read_edit (B : List (List UInt8)) (L : List (Nat × List UInt8)) (n k : Nat) (x : UInt8) (m : Nat) (hn : n < B.length) : readK (B.modify n (xorB k x)) (editL n k x L) m = if m = n then xorB k x (readK B L m) else readK B L m := by
  have h0 : (B.modify n (xorB k x)).getD m [] = if m = n then xorB k x (B.getD m []) else B.getD m [] := by
    rw [List.getD_eq_getElem?_getD, List.getElem?_modify, List.getD_eq_getElem?_getD]
    by_cases e : m = n
    · subst e
      rw [List.getElem?_eq_getElem hn]
      simp
    · rw [if_neg e]
      simp [Ne.symm e]
  unfold readK
  rw [h0]
  generalize B.getD m [] = b
  induction L generalizing b with
  | nil => rfl
  | cons p r ih =>
    show (editL n k x r).foldl _ (if (if p.1 = n then (p.1, xorB k x p.2) else p).1 = m then (if p.1 = n then (p.1, xorB k x p.2) else p).2 else (if m = n then xorB k x b else b)) = if m = n then xorB k x (r.foldl _ (if p.1 = m then p.2 else b)) else r.foldl _ (if p.1 = m then p.2 else b)
    rw [← ih]
    congr 1
    by_cases e : p.1 = n
    · rw [if_pos e]
      by_cases e2 : p.1 = m
      · rw [if_pos e2, if_pos e2, if_pos (by omega)]
      · rw [if_neg e2, if_neg e2]
    · rw [if_neg e]
      by_cases e2 : p.1 = m
      · rw [if_pos e2, if_pos e2, if_neg (by omega)]
      · rw [if_neg e2, if_neg e2]
theorem edit_ok {D : Dk} (h : D.ok) (n k : Int) (x : UInt8) : (dEdit D n k x).1.ok := by
  unfold dEdit
  split
  · refine ⟨fun b hb => ?_, fun p hp => ?_⟩
    · obtain ⟨j, hj⟩ := List.mem_iff_getElem?.1 hb
      have hj : (D.B.modify n.toNat (xorB k.toNat x))[j]? = some b := hj
      rw [List.getElem?_modify] at hj
      cases hq : D.B[j]? with
      | none => rw [hq] at hj; simp at hj
      | some c =>
        rw [hq] at hj
        have hc := h.B c (List.mem_of_getElem? hq)
        simp only [Option.map_eq_map, Option.map_some, Option.some.injEq] at hj
        rw [← hj]
        split
        · rw [xor_len]; exact hc
        · exact hc
    · obtain ⟨q, hq, rfl⟩ := List.mem_map.1 hp
      have := h.L q hq
      show _ < (D.B.modify _ _).length ∧ _
      rw [List.length_modify]
      split
      · exact ⟨this.1, by rw [xor_len]; exact this.2⟩
      · exact this
  · exact h
end Go.Proofs.Ytiebelmglchbdaa
