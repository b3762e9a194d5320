/- BLAKE2s purely: the start, the orders, the mix, a block that is pressed, the hash. No dump is imported. -/
import Derived.Test.YthjechjffhhiiaaDoorIa
namespace Go.Proofs.YthjechjffhhiiaaDoor
set_option linter.unusedVariables false
set_option linter.unusedSimpArgs false
open Go Go.RowKit

/-- Rows of n words. -/
def wn (n : Nat) (f : Wd) : Array Value := ((List.range n).map (fun i => wc (f i))).toArray
theorem wn_16 (f : Wd) : wn 16 f = wv f := rfl
theorem wn_size (n : Nat) (f : Wd) : (wn n f).size = n := by simp [wn]
theorem wn_get {n i : Nat} (h : i < n) (f : Wd) : (wn n f)[i]? = some (wc (f i)) := by simp [wn, h]
theorem wn_one (n : Nat) (f : Wd) : (wn n f).all (·.oneCell') = true := by
  rw [Array.all_eq_true']
  intro x hx
  simp only [wn, List.mem_toArray, List.mem_map] at hx
  obtain ⟨i, _, rfl⟩ := hx
  rfl
theorem wn_ext {n : Nat} {f g : Wd} (h : ∀ i, i < n → f i = g i) : wn n f = wn n g := by
  unfold wn
  congr 1
  exact List.map_congr_left fun i hi => by rw [h i (List.mem_range.1 hi)]
theorem wn_set (n : Nat) (f : Wd) (a : Nat) (v : UInt32) : (wn n f).setIfInBounds a (wc v) = wn n (upd f a v) := by
  apply Array.ext_getElem?
  intro i
  by_cases h : i < n
  · rw [wn_get h, Array.getElem?_setIfInBounds, wn_size]
    by_cases e : a = i
    · subst e
      rw [if_pos rfl, if_pos h, upd_self]
    · rw [if_neg e, wn_get h, upd_ne (Ne.symm e)]
  · rw [Array.getElem?_eq_none (by simp [wn_size]; omega), Array.getElem?_eq_none (by rw [wn_size]; omega)]
/-- A word turned right. -/
def rorW (x : UInt32) (s : Nat) : UInt32 := shrW x s ||| shlW x (32 - s)
/-- The mix of a, b, c, d with x and y. -/
def mixB (f : Wd) (a b c d : Nat) (x y : UInt32) : Wd :=
  let f1 := upd f a (f a + f b + x)
  let f2 := upd f1 d (rorW (f1 d ^^^ f1 a) 16)
  let f3 := upd f2 c (f2 c + f2 d)
  let f4 := upd f3 b (rorW (f3 b ^^^ f3 c) 12)
  let f5 := upd f4 a (f4 a + f4 b + y)
  let f6 := upd f5 d (rorW (f5 d ^^^ f5 a) 8)
  let f7 := upd f6 c (f6 c + f6 d)
  upd f7 b (rorW (f7 b ^^^ f7 c) 7)
def ORD : List (List Nat) := [[0, 1, 2, 3, 4, 5, 6, 7, 8, 9, 10, 11, 12, 13, 14, 15], [14, 10, 4, 8, 9, 15, 13, 6, 1, 12, 0, 2, 11, 7, 5, 3], [11, 8, 12, 0, 5, 2, 15, 13, 10, 14, 3, 6, 7, 1, 9, 4], [7, 9, 3, 1, 13, 12, 11, 14, 2, 6, 5, 10, 4, 0, 15, 8], [9, 0, 5, 7, 2, 4, 10, 15, 14, 1, 11, 12, 6, 8, 3, 13],
  [2, 12, 6, 10, 0, 11, 8, 3, 4, 13, 7, 5, 15, 14, 1, 9], [12, 5, 1, 15, 14, 13, 4, 10, 0, 7, 6, 3, 9, 2, 8, 11], [13, 11, 7, 14, 12, 1, 3, 9, 5, 0, 15, 4, 8, 6, 2, 10], [6, 15, 14, 9, 11, 3, 0, 8, 12, 2, 13, 7, 1, 4, 10, 5], [10, 2, 8, 4, 7, 6, 1, 5, 15, 11, 9, 14, 3, 12, 13, 0]]
def ord (r i : Nat) : Nat := (ORD.getD r []).getD i 0
def PLC : List (List Nat) := [[0, 4, 8, 12], [1, 5, 9, 13], [2, 6, 10, 14], [3, 7, 11, 15], [0, 5, 10, 15], [1, 6, 11, 12], [2, 7, 8, 13], [3, 4, 9, 14]]
def plc (i j : Nat) : Nat := (PLC.getD i []).getD j 0
theorem ord_all : ∀ r, r < 10 → ∀ i, i < 16 → ord r i < 16 := by decide
theorem plc_all : ∀ i, i < 8 → ∀ j, j < 4 → plc i j < 16 := by decide
theorem ord_lt (r i : Nat) : ord r i < 16 := by
  by_cases hr : r < 10
  · by_cases hi : i < 16
    · exact ord_all r hr i hi
    · unfold ord
      have hl : ((ORD.getD r []).length) = 16 := (by decide : ∀ r, r < 10 → (ORD.getD r []).length = 16) r hr
      rw [List.getD_eq_getElem?_getD, List.getElem?_eq_none (by omega)]
      decide
  · unfold ord
    rw [List.getD_eq_getElem?_getD (l := ORD), List.getElem?_eq_none (by have : ORD.length = 10 := rfl; omega)]
    show ([] : List Nat).getD i 0 < 16
    rw [List.getD_nil]
    decide
/-- The start. -/
def ivB : Wd := fun i => [1779033703, 3144134277, 1013904242, 2773480762, 1359893119, 2600822924, 528734635, 1541459225].getD i 0
/-- A round's mixes, i of them; the rounds. -/
def mixI (w : Wd) (r : Nat) (f : Wd) : Nat → Wd
  | 0 => f
  | i + 1 => mixB (mixI w r f i) (plc i 0) (plc i 1) (plc i 2) (plc i 3) (w (ord r (2 * i))) (w (ord r (2 * i + 1)))
def mixR (w : Wd) (f : Wd) : Nat → Wd
  | 0 => f
  | r + 1 => mixI w r (mixR w f r) 8
/-- A block's words. -/
def blW (l : List UInt8) (n : Nat) : Wd := fun i => leW (l.getD (64 * n + 4 * i) 0) (l.getD (64 * n + (4 * i + 1)) 0) (l.getD (64 * n + (4 * i + 2)) 0) (l.getD (64 * n + (4 * i + 3)) 0)
/-- The state ahead of the rounds: t bytes; is it the last one? -/
def preB (h : Wd) (t : Nat) (b : Bool) : Wd := fun i => match i with
  | 12 => ivB 4 ^^^ UInt32.ofNat t
  | 13 => ivB 5 ^^^ UInt32.ofNat (t / 4294967296)
  | 14 => bif b then ~~~ (ivB 6) else ivB 6
  | i => bif Nat.blt i 8 then h i else ivB (i - 8)
def postB (h v : Wd) : Wd := fun i => h i ^^^ v i ^^^ v (8 + i)
/-- How many blocks. -/
def nBl (n : Nat) : Nat := bif Nat.beq n 0 then 1 else (n + 63) / 64
def pressB (l : List UInt8) (n : Nat) (h : Wd) : Wd := postB h (mixR (blW l n) (preB h (bif Nat.beq (n + 1) (nBl l.length) then l.length else 64 * n + 64) (Nat.beq (n + 1) (nBl l.length))) 10)
def h0B : Wd := upd ivB 0 (ivB 0 ^^^ 16842784)
def runB (l : List UInt8) : Nat → Wd
  | 0 => h0B
  | n + 1 => pressB l n (runB l n)
/-- The hash. -/
def hashB (l : List UInt8) : Nat → UInt8 := outB (runB l (nBl l.length))
set_option maxRecDepth 100000 in
theorem known_hash : [hashB [97, 98, 99] 0, hashB [97, 98, 99] 1, hashB [97, 98, 99] 2, hashB [97, 98, 99] 3] = [80, 140, 94, 140] := by decide +kernel
end Go.Proofs.YthjechjffhhiiaaDoor
