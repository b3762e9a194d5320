/- Words, contracts and walks (Na, Words, Fr, Vc, Vd, Ve, Vg, Vh, Vk, Aj, Vl, Vm, Ia, Ib, Za, Zb, Qe, Nc, Zc, Zd, Nd, Ne, Nf, Ng, Nh, Ni, Nj, Nk, No, Nb, Nq, Nl), laid together. No condition. -/
import Derived.WalkKit
import Derived.WalkSpells
import Derived.Deep.Draws
import Derived.Laws.BytesArg
import Derived.Maps.AppendAt
import Derived.Deep.RegionHeld3
import Derived.Laws.CopyOwn
import Derived.Lib.Hide
import Derived.Deep.MidRow
import Derived.Laws.CopyRow
import Derived.Laws.BitsAllLaws
import Derived.Test.YtonhkclkddobhaaDoorProg
import Derived.Great.BuildSlice
import Derived.ArgAppend
import Derived.Laws.OwnMore
import Derived.Great.Walk
import Derived.Laws.IdiomStrings
namespace Go.Proofs.YtonhkclkddobhaaDoor
set_option linter.unusedVariables false
set_option linter.unusedSimpArgs false
inductive DT where
  | mk (kind : Int) (flag : Bool) (num : Int) (bytes text : List UInt8) (arcs : List Nat) (kids : List DT)
def byteD (n : Nat) : UInt8 := UInt8.ofNat n
theorem byteD_nat {n : Nat} (h : n < 256) : (byteD n).toNat = n := by
  unfold byteD
  rw [UInt8.toNat_ofNat']
  omega
/-- A kind's tag. -/
def tagD (k n : Int) : Int := if k = 8 then 160 + n.tmod 31 else if 1 ≤ k ∧ k ≤ 10 then ([0, 1, 2, 3, 4, 6, 12, 48, 160, 49, 24] : List Int).getD k.toNat 0 else 0
/-- The kind that a tag is of; 0: none's. -/
def kindD (x : Nat) : Int := if x = 1 then 1 else if x = 2 then 2 else if x = 3 then 3 else if x = 4 then 4 else if x = 6 then 5 else if x = 12 then 6 else if x = 48 then 7 else if x = 49 then 9 else if x = 24 then 10 else if 160 ≤ x ∧ x ≤ 190 then 8 else 0
def arcsOk (a : List Nat) : Bool := decide (2 ≤ a.length) && decide (a.length ≤ 16) && decide (a.getD 0 0 ≤ 2) && (decide (a.getD 0 0 = 2) || decide (a.getD 1 0 < 40)) && a.all (fun x => decide (x < 2147483648))
def timeOk (t : List UInt8) : Bool := decide (t.length = 15) && decide (t.getD 14 0 = 90) && (t.take 14).all (fun x => decide (48 ≤ x.toNat) && decide (x.toNat ≤ 57))
def ownD (u8 : List UInt8 → Bool) : DT → Bool
  | .mk k f n b t a ks => decide (1 ≤ k) && decide (k ≤ 10) && decide (-9223372036854775808 ≤ n) && decide (n < 9223372036854775808) && (if k = 5 then arcsOk a else a.isEmpty) && (if k = 6 then u8 t else if k = 10 then timeOk t else t.isEmpty)
    && (decide (n = 0) || decide (k = 2) || (decide (k = 8) && decide (0 ≤ n) && decide (n ≤ 30))) && (if k = 7 then true else if k = 8 ∨ k = 9 then decide (ks.length = 1) else ks.isEmpty) && (!f || decide (k = 1)) && (b.isEmpty || decide (k = 3) || decide (k = 4))
def kidsOf : DT → List DT
  | .mk _ _ _ _ _ _ ks => ks
def mayD (u8 : List UInt8 → Bool) : Nat → DT → Bool
  | 0, _ => false
  | d + 1, v => ownD u8 v && (kidsOf v).all (mayD u8 d)
def fitsD (n : Int) (s : Nat) : Bool := decide (-(2 : Int) ^ (8 * s - 1) ≤ n) && decide (n < (2 : Int) ^ (8 * s - 1))
def sizeD (n : Int) : Nat := if fitsD n 1 then 1 else if fitsD n 2 then 2 else if fitsD n 3 then 3 else if fitsD n 4 then 4 else if fitsD n 5 then 5 else if fitsD n 6 then 6 else if fitsD n 7 then 7 else 8
/-- A number's lowest s bytes, the highest first. -/
def beD : Nat → Nat → List UInt8
  | 0, _ => []
  | s + 1, m => beD s (m / 256) ++ [byteD (m % 256)]
def m64 (n : Int) : Nat := (n % 18446744073709551616).toNat
def wholeD (n : Int) : List UInt8 := beD (sizeD n) (m64 n)
/-- The groups but the last one, of a number that is divided by 128. -/
def hiD (n : Nat) : List UInt8 := if h : n = 0 then [] else hiD (n / 128) ++ [byteD (n % 128 + 128)]
termination_by n
def groupsD (n : Nat) : List UInt8 := hiD (n / 128) ++ [byteD (n % 128)]
def oidD : List Nat → List UInt8
  | x :: y :: r => groupsD (40 * x + y) ++ r.flatMap groupsD
  | _ => []
def contD (k : Int) (f : Bool) (n : Int) (b t : List UInt8) (a : List Nat) (kk : List UInt8) : List UInt8 :=
  (if k = 1 then [if f then 255 else 0] else if k = 2 then wholeD n else if k = 3 then 0 :: b else if k = 4 then b else if k = 5 then oidD a else if k = 6 ∨ k = 10 then t else []) ++ kk
def lenD (n : Nat) : List UInt8 := if n < 128 then [byteD n] else if n < 256 then [129, byteD n] else [130, byteD (n / 256 % 256), byteD (n % 256)]
def headD (t : Int) (c : List UInt8) : List UInt8 := byteD t.toNat :: (lenD c.length ++ c)
def packD : Nat → DT → List UInt8
  | 0, _ => []
  | d + 1, .mk k f n b t a ks => headD (tagD k n) (contD k f n b t a (ks.flatMap (packD d)))
/-- Where the content begins, and ends. -/
def spanD (b : List UInt8) : Option (Nat × Nat) :=
  if b.length < 2 then none
  else if b.getD 1 0 = 129 ∧ 3 ≤ b.length then (if 3 + (b.getD 2 0).toNat ≤ b.length then some (3, 3 + (b.getD 2 0).toNat) else none)
  else if b.getD 1 0 = 130 ∧ 4 ≤ b.length then (if 4 + (256 * (b.getD 2 0).toNat + (b.getD 3 0).toNat) ≤ b.length then some (4, 4 + (256 * (b.getD 2 0).toNat + (b.getD 3 0).toNat)) else none)
  else if 128 ≤ (b.getD 1 0).toNat then none
  else if 2 + (b.getD 1 0).toNat ≤ b.length then some (2, 2 + (b.getD 1 0).toNat) else none
def s64 (x : Nat) : Int := if x < 9223372036854775808 then (x : Int) else (x : Int) - 18446744073709551616
def accD (b : List UInt8) (n : Nat) : Nat := b.foldl (fun n x => (n * 256 + x.toNat) % 18446744073709551616) n
def numD (b : List UInt8) : Int := s64 (accD (b.take 8) (if 128 ≤ (b.getD 0 0).toNat then 72057594037927935 else 0))
def arcsD : List UInt8 → Nat → List Nat → List Nat
  | [], _, l => l
  | x :: r, n, l => if 128 ≤ x.toNat then arcsD r (n % 1125899906842624 * 128 + x.toNat % 128) l
    else arcsD r 0 (if l.isEmpty then [min ((n % 1125899906842624 * 128 + x.toNat % 128) / 40) 2, n % 1125899906842624 * 128 + x.toNat % 128 - 40 * min ((n % 1125899906842624 * 128 + x.toNat % 128) / 40) 2] else l ++ [n % 1125899906842624 * 128 + x.toNat % 128])
def rdKids (rd : List UInt8 → Option (DT × Nat)) : Nat → List UInt8 → Option (List DT)
  | _, [] => some []
  | 0, _ :: _ => none
  | f + 1, x :: c => match rd (x :: c) with
    | none => none
    | some (k, n) => (rdKids rd f ((x :: c).drop n)).map (k :: ·)
def makeD (k : Int) (x : Nat) (c : List UInt8) (kids : Option (List DT)) : Option DT :=
  if k = 1 then some (.mk 1 (decide (c = [255])) 0 [] [] [] [])
  else if k = 2 then some (.mk 2 false (numD c) [] [] [] [])
  else if k = 3 then some (.mk 3 false 0 (c.drop 1) [] [] [])
  else if k = 4 then some (.mk 4 false 0 c [] [] [])
  else if k = 5 then some (.mk 5 false 0 [] [] (arcsD c 0 []) [])
  else if k = 6 ∨ k = 10 then some (.mk k false 0 [] c [] [])
  else if k = 7 ∨ k = 9 then kids.map (.mk k false 0 [] [] [])
  else if k = 8 then kids.map (.mk 8 false ((x : Int) - 160) [] [] [])
  else none
def readD : Nat → List UInt8 → Option (DT × Nat)
  | 0, _ => none
  | d + 1, b => match spanD b with
    | none => none
    | some (i, j) => (makeD (kindD (b.getD 0 0).toNat) (b.getD 0 0).toNat ((b.take j).drop i) (rdKids (readD d) ((b.take j).drop i).length ((b.take j).drop i))).map (·, j)
theorem foldl_be : ∀ (s m n : Nat), accD (beD s m) n % 18446744073709551616 = (n * 256 ^ s + m % 256 ^ s) % 18446744073709551616
  | 0, m, n => by
    show n % 18446744073709551616 = (n * 1 + m % 1) % 18446744073709551616
    rw [Nat.mul_one, Nat.mod_one, Nat.add_zero]
  | s + 1, m, n => by
    have ih := foldl_be s (m / 256) n
    unfold accD at ih ⊢
    unfold beD
    rw [List.foldl_append]
    show ((List.foldl _ n (beD s (m / 256))) * 256 + (byteD (m % 256)).toNat) % 18446744073709551616 % 18446744073709551616 = _
    rw [byteD_nat (Nat.mod_lt _ (by decide)), Nat.mod_mod]
    generalize List.foldl (fun n x => (n * 256 + x.toNat) % 18446744073709551616) n (beD s (m / 256)) = A at ih ⊢
    have h1 : m % 256 ^ (s + 1) = m / 256 % 256 ^ s * 256 + m % 256 := by
      have e1 : 256 ^ (s + 1) = 256 * 256 ^ s := by rw [Nat.pow_succ, Nat.mul_comm]
      rw [e1, Nat.mod_mul]
      omega
    rw [h1, Nat.pow_succ]
    have h2 : (A * 256) % 18446744073709551616 = ((n * 256 ^ s + m / 256 % 256 ^ s) * 256) % 18446744073709551616 := by
      rw [Nat.mul_mod, ih, ← Nat.mul_mod]
    have h3 : n * (256 ^ s * 256) + (m / 256 % 256 ^ s * 256 + m % 256) = (n * 256 ^ s + m / 256 % 256 ^ s) * 256 + m % 256 := by
      rw [Nat.add_mul, Nat.mul_assoc, Nat.add_assoc]
    rw [h3, Nat.add_mod (A * 256), h2, ← Nat.add_mod]
theorem be_len : ∀ (s m : Nat), (beD s m).length = s
  | 0, _ => rfl
  | s + 1, m => by
    unfold beD
    rw [List.length_append, be_len s]
    rfl
theorem be_top : ∀ (s m : Nat), (beD (s + 1) m).getD 0 0 = byteD (m / 256 ^ s % 256)
  | 0, m => by
    show byteD (m % 256) = _
    rw [Nat.pow_zero, Nat.div_one]
  | s + 1, m => by
    unfold beD
    have ih := be_top s (m / 256)
    rw [List.getD_eq_getElem?_getD] at ih ⊢
    rw [List.getElem?_append_left (by rw [be_len]; omega), ih, Nat.div_div_eq_div_mul, Nat.pow_succ, Nat.mul_comm]
theorem accD_lt (b : List UInt8) (n : Nat) (h : n < 18446744073709551616) : accD b n < 18446744073709551616 := by
  unfold accD
  induction b generalizing n with
  | nil => exact h
  | cons x r ih => exact ih _ (Nat.mod_lt _ (by decide))
theorem size_pos (n : Int) : 1 ≤ sizeD n ∧ sizeD n ≤ 8 := by
  unfold sizeD
  repeat' split
  all_goals omega
/-- What fits into s bytes is read out of them. -/
theorem num_be {n : Int} {s : Nat} (h : s < 8) (h1 : -((2 : Int) ^ (8 * (s + 1) - 1)) ≤ n) (h2 : n < (2 : Int) ^ (8 * (s + 1) - 1)) : numD (beD (s + 1) (m64 n)) = n := by
  unfold numD
  rw [List.take_of_length_le (by rw [be_len]; omega), be_top, byteD_nat (Nat.mod_lt _ (by decide))]
  have hf : ∀ c, c < 18446744073709551616 → accD (beD (s + 1) (m64 n)) c = (c * 256 ^ (s + 1) + m64 n % 256 ^ (s + 1)) % 18446744073709551616 := fun c hc => by
    rw [← foldl_be, Nat.mod_eq_of_lt (accD_lt _ _ hc)]
  have hm : (m64 n : Int) = n % 18446744073709551616 := by unfold m64; omega
  obtain rfl | rfl | rfl | rfl | rfl | rfl | rfl | rfl : s = 0 ∨ s = 1 ∨ s = 2 ∨ s = 3 ∨ s = 4 ∨ s = 5 ∨ s = 6 ∨ s = 7 := by omega
  all_goals
    simp only [Nat.reduceAdd, Nat.reduceMul, Nat.reduceSub, Int.reducePow, Nat.reducePow] at h1 h2 hf ⊢
    rcases Int.lt_or_le n 0 with hn | hn
    · have hm2 : (m64 n : Int) = n + 18446744073709551616 := by omega
      rw [if_pos (by omega), hf _ (by decide)]
      unfold s64
      split <;> omega
    · have hm2 : (m64 n : Int) = n := by omega
      rw [if_neg (by omega), hf _ (by decide)]
      unfold s64
      split <;> omega
theorem fits_iff (n : Int) (s : Nat) : fitsD n s = true ↔ -((2 : Int) ^ (8 * s - 1)) ≤ n ∧ n < (2 : Int) ^ (8 * s - 1) := by
  unfold fitsD
  rw [Bool.and_eq_true, decide_eq_true_eq, decide_eq_true_eq]
theorem num_whole {n : Int} (h1 : -9223372036854775808 ≤ n) (h2 : n < 9223372036854775808) : numD (wholeD n) = n := by
  unfold wholeD sizeD
  repeat' split
  · rename_i h; exact num_be (s := 0) (by omega) ((fits_iff _ _).1 h).1 ((fits_iff _ _).1 h).2
  · rename_i h; exact num_be (s := 1) (by omega) ((fits_iff _ _).1 h).1 ((fits_iff _ _).1 h).2
  · rename_i h; exact num_be (s := 2) (by omega) ((fits_iff _ _).1 h).1 ((fits_iff _ _).1 h).2
  · rename_i h; exact num_be (s := 3) (by omega) ((fits_iff _ _).1 h).1 ((fits_iff _ _).1 h).2
  · rename_i h; exact num_be (s := 4) (by omega) ((fits_iff _ _).1 h).1 ((fits_iff _ _).1 h).2
  · rename_i h; exact num_be (s := 5) (by omega) ((fits_iff _ _).1 h).1 ((fits_iff _ _).1 h).2
  · rename_i h; exact num_be (s := 6) (by omega) ((fits_iff _ _).1 h).1 ((fits_iff _ _).1 h).2
  · exact num_be (s := 7) (by omega) (by simpa using h1) (by simpa using h2)
theorem arcs_hi : ∀ (m : Nat) (rest : List UInt8) (l : List Nat), m < 144115188075855872 → arcsD (hiD m ++ rest) 0 l = arcsD rest m l := by
  intro m
  induction m using Nat.strongRecOn with
  | _ m ih =>
    intro rest l hm
    by_cases h : m = 0
    · subst h
      rw [hiD, dif_pos rfl]
      rfl
    · rw [hiD, dif_neg h, List.append_assoc, ih (m / 128) (by omega) _ _ (by omega)]
      have hb : (byteD (m % 128 + 128)).toNat = m % 128 + 128 := byteD_nat (by omega)
      show arcsD (byteD (m % 128 + 128) :: rest) (m / 128) l = _
      rw [arcsD, hb, if_pos (by omega)]
      congr 1
      omega
theorem arcs_group (n : Nat) (rest : List UInt8) (l : List Nat) (hn : n < 144115188075855872) : arcsD (groupsD n ++ rest) 0 l = arcsD rest 0 (if l.isEmpty then [min (n / 40) 2, n - 40 * min (n / 40) 2] else l ++ [n]) := by
  unfold groupsD
  rw [List.append_assoc, arcs_hi _ _ _ (by omega)]
  have hb : (byteD (n % 128)).toNat = n % 128 := byteD_nat (by omega)
  show arcsD (byteD (n % 128) :: rest) (n / 128) l = _
  rw [arcsD, hb, if_neg (by omega), show n / 128 % 1125899906842624 * 128 + n % 128 % 128 = n by omega]
theorem arcs_rest : ∀ (r : List Nat) (l : List Nat), l ≠ [] → (∀ x ∈ r, x < 2147483648) → arcsD (r.flatMap groupsD) 0 l = l ++ r
  | [], l, _, _ => by
    show arcsD [] 0 l = l ++ []
    rw [List.append_nil]
    rfl
  | x :: r, l, hl, hr => by
    rw [List.flatMap_cons, arcs_group x _ _ (by have := hr x List.mem_cons_self; omega)]
    have he : l.isEmpty = false := by cases l with | nil => exact absurd rfl hl | cons a b => rfl
    rw [he]
    show arcsD _ 0 (l ++ [x]) = _
    rw [arcs_rest r _ (by simp) (fun y hy => hr y (List.mem_cons_of_mem _ hy)), List.append_assoc]
    rfl
theorem arcs_oid {a : List Nat} (h : arcsOk a = true) : arcsD (oidD a) 0 [] = a := by
  unfold arcsOk at h
  simp only [Bool.and_eq_true, Bool.or_eq_true, decide_eq_true_eq] at h
  obtain ⟨⟨⟨⟨h1, h2⟩, h3⟩, h4⟩, h5⟩ := h
  have hall : ∀ x ∈ a, x < 2147483648 := fun x hx => by simpa using List.all_eq_true.1 h5 x hx
  rcases a with _ | ⟨x, _ | ⟨y, r⟩⟩
  · simp at h1
  · simp at h1
  · simp only [List.getD_cons_zero, List.getD_cons_succ] at h3 h4
    have hy := hall y (by simp)
    unfold oidD
    rw [arcs_group _ _ _ (by omega)]
    show arcsD _ 0 [min ((40 * x + y) / 40) 2, 40 * x + y - 40 * min ((40 * x + y) / 40) 2] = _
    have e : min ((40 * x + y) / 40) 2 = x := by omega
    rw [e, show 40 * x + y - 40 * x = y by omega, arcs_rest r _ (by simp) (fun z hz => hall z (by simp [hz]))]
    rfl
end Go.Proofs.YtonhkclkddobhaaDoor
namespace Go.Proofs.YtonhkclkddobhaaDoor
set_option linter.unusedVariables false
set_option linter.unusedSimpArgs false
open Go Go.RowKit
/-- A byte as a cell. -/
def bv (x : UInt8) : Value := .int .u8 (x.toNat : Int)
theorem bv_def (x : UInt8) : bv x = .int .u8 (x.toNat : Int) := rfl
/-- The cells of a block of bytes. -/
def bvs (l : List UInt8) : Array Value := (l.map bv).toArray
theorem bvs_size (l : List UInt8) : (bvs l).size = l.length := by simp [bvs]
theorem bvs_get (l : List UInt8) (i : Nat) : (bvs l)[i]? = l[i]?.map bv := by simp [bvs]
theorem bvs_set (l : List UInt8) (i : Nat) (x : UInt8) : (bvs l).setIfInBounds i (.int .u8 (x.toNat : Int)) = bvs (l.set i x) := by
  show (bvs l).setIfInBounds i (bv x) = _
  simp [bvs, List.map_set]
def zeros (n : Nat) : List UInt8 := List.replicate n 0
theorem zeros_len (n : Nat) : (zeros n).length = n := by simp [zeros]
/-- The text that has these bytes. -/
def strB (l : List UInt8) : ByteArray := ⟨l.toArray⟩
theorem strB_data (l : List UInt8) : (strB l).data.toList = l := rfl
theorem strB_toList (l : List UInt8) : (strB l).toList = l := ByteArray.toList_mk l
theorem strB_size (l : List UInt8) : (strB l).size = l.length := by simp [strB, ByteArray.size]
/-- What a block is: cells of a type, or a map. -/
inductive Tid where
  | ty (t : TypeId)
  | map (es : Array MapEntry) (k : Nat)
instance {n : Nat} : OfNat Tid n := ⟨.ty (OfNat.ofNat n)⟩
instance : Coe TypeId Tid := ⟨.ty⟩
/-- A block whose cells are these, none of them frozen; or a map, which has no cells. -/
def Blk (w : World) (g : Nat) : Tid → Array Value → Prop
  | .ty t, cs => w.heap[g]? = some (.cells cs t (0, 0))
  | .map es k, cs => cs = #[] ∧ w.heap[g]? = some (.map es k)
def objOf : Tid → Array Value → Obj
  | .ty t, cs => .cells cs t (0, 0)
  | .map es k, _ => .map es k
section
variable {w w' : World} {g : Nat} {t : Tid} {cs : Array Value}
theorem Blk.obj (h : Blk w g t cs) : w.heap[g]? = some (objOf t cs) := by
  cases t with
  | ty t => exact h
  | map es k => exact h.2
theorem Blk.as (h : Blk w g t cs) (h' : w'.heap[g]? = w.heap[g]?) : Blk w' g t cs := by
  cases t with
  | ty t => exact h'.trans h
  | map es k => exact ⟨h.1, h'.trans h.2⟩
theorem Blk.lt (h : Blk w g t cs) : g < w.heap.size := (Array.getElem?_eq_some_iff.1 h.obj).1
theorem Blk.cell (h : Blk w g t cs) (i : Nat) : w.cell? ⟨g, i, none⟩ = cs[i]? := by
  cases t with
  | ty t => exact cell_of_row w g i cs t (0, 0) h
  | map es k =>
    obtain ⟨rfl, h1⟩ := h
    simp [World.cell?, h1]
theorem Blk.frozen (h : Blk w g t cs) (i : Nat) : w.frozen? ⟨g, i, none⟩ = false := by
  have h1 := h.obj
  cases t <;> simp [World.frozen?, h1, objOf]
theorem Blk.new (w : World) (t : TypeId) (cs : Array Value) : Blk (w.alloc (.cells cs t)) w.heap.size t cs := heap_alloc_new w _
theorem Blk.drew (h : Blk w g t cs) : Blk w.drew g t cs := h
theorem Blk.alloc (h : Blk w g t cs) (o : Obj) : Blk (w.alloc o) g t cs := h.as (Below.heap_alloc w o g h.lt)
theorem Blk.set_ (h : Blk w g t cs) (i : Nat) (u : Value) : Blk (w.setCell ⟨g, i, none⟩ u) g t (cs.setIfInBounds i u) := by
  cases t with
  | ty t =>
    have h1 : w.heap[g]? = some (.cells cs t (0, 0)) := h
    show _ = some (Obj.cells _ t (0, 0))
    simp [World.setCell, Array.getElem?_modify, h1]
  | map es k =>
    obtain ⟨rfl, h1⟩ := h
    refine ⟨rfl, ?_⟩
    simp [World.setCell, Array.getElem?_modify, h1]
theorem Blk.far (h : Blk w g t cs) {p : Addr} (hp : g ≠ p.block) (u : Value) : Blk (w.setCell p u) g t cs := h.as (Below.heap_setCell w p u g hp)
theorem Blk.below {B : Nat} (h : Blk w g t cs) (hb : Below B w w') (hg : g < B) : Blk w' g t cs := h.as (hb.block g hg)
theorem Blk.grown {row : Option Nat} (h : Blk w g t cs) (hb : w.grownBy w' row) (hg : some g ≠ row) : Blk w' g t cs := h.as (hb.block g h.lt hg)
theorem Blk.inj {t' : TypeId} {t : TypeId} {cs' : Array Value} (h : Blk w g t cs) (h' : Blk w g t' cs') : t = t' ∧ cs = cs' := by
  have h : w.heap[g]? = some (.cells cs t (0, 0)) := h
  have h' : w.heap[g]? = some (.cells cs' t' (0, 0)) := h'
  rw [h] at h'
  injection h' with h'
  injection h' with a b
  exact ⟨b, a⟩
end
/-- The slice '(A, n, c)' reads as the bytes l; what is read lies below block B. -/
structure BS (w : World) (B : Nat) (A : Option Addr) (n c : Nat) (l : List UInt8) : Prop where
  len : l.length = n
  cap : n ≤ c
  nil_ : A = none → c = 0
  at_ : 0 < n → ∃ b o, A = some ⟨b, o, none⟩ ∧ b < B ∧ ∀ j x, l[j]? = some x → w.cell? ⟨b, o + j, none⟩ = some (.int .u8 (x.toNat : Int))
section
variable {w w' : World} {B B' n c : Nat} {A : Option Addr} {l : List UInt8}
theorem BS.nil (w : World) (B : Nat) : BS w B none 0 0 [] := ⟨rfl, Nat.le_refl _, fun _ => rfl, fun h => absurd h (by omega)⟩
theorem BS.keep (h : BS w B A n c l) (hk : ∀ p : Addr, p.block < B → w'.cell? p = w.cell? p) : BS w' B A n c l :=
  ⟨h.len, h.cap, h.nil_, fun hn => by
    obtain ⟨b, o, e, hb, hc⟩ := h.at_ hn
    exact ⟨b, o, e, hb, fun j x hx => (hk _ hb).trans (hc j x hx)⟩⟩
theorem BS.more (h : BS w B A n c l) (hB : B ≤ B') : BS w B' A n c l :=
  ⟨h.len, h.cap, h.nil_, fun hn => by
    obtain ⟨b, o, e, hb, hc⟩ := h.at_ hn
    exact ⟨b, o, e, by omega, hc⟩⟩
theorem BS.below (h : BS w B A n c l) (hb : Below B w w') : BS w' B A n c l := h.keep fun _ hp => hb.cell hp
theorem BS.drew (h : BS w B A n c l) : BS w.drew B A n c l := ⟨h.1, h.2, h.3, h.4⟩
theorem BS.alloc (h : BS w B A n c l) (hB : B ≤ w.heap.size) (o : Obj) : BS (w.alloc o) B A n c l := h.keep fun p hp => World.cell?_alloc_lt w o p (by omega)
theorem BS.setCell (h : BS w B A n c l) {p : Addr} (hB : B ≤ p.block) (u : Value) : BS (w.setCell p u) B A n c l :=
  h.keep fun q hq => World.cell?_setCell_other w p q u (fun e => by subst e; omega)
theorem BS.grown (h : BS w B A n c l) {row : Option Nat} (hg : w.grownBy w' row) (hB : B ≤ w.heap.size) (hr : ∀ g, row = some g → B ≤ g) : BS w' B A n c l :=
  h.keep fun p hp => World.cell?_of_block (hg.block p.block (by omega) (fun e => by have := hr _ e.symm; omega))
/-- What is read there is the block's. -/
theorem BS.ofBlk {g : Nat} {t : TypeId} (h : Blk w g t (bvs l)) (n : Nat) (hn : n = l.length) (B : Nat) (hB : g < B) : BS w B (some ⟨g, 0, none⟩) n n l :=
  ⟨hn.symm, Nat.le_refl _, (by intro e; cases e), fun _ => ⟨g, 0, rfl, hB, fun j x hx => by rw [Nat.zero_add, h.cell, bvs_get, hx]; rfl⟩⟩
end
/-- 'string(b)'. -/
theorem run_str {P : Program} {w : World} {B n c : Nat} {A : Option Addr} {l : List UInt8} (h : BS w B A n c l) (src e dst : TypeId) (hs : P.underlying src = some (.slice e)) (he : P.underlying e = some (.int .u8))
    (hd : P.underlying dst = some .string) : (convert src dst (.slice A n c)).run P w = .ok (.string (strB l)) w := by
  rcases A with _ | ⟨b, o, s⟩
  · have hn : n = 0 := by
      rcases Nat.eq_zero_or_pos n with h0 | h0
      · exact h0
      · obtain ⟨_, _, e, _⟩ := h.at_ h0
        cases e
    subst hn
    obtain rfl : l = [] := List.eq_nil_of_length_eq_zero h.len
    rw [run_convert_bytes_nil w src e hs he _ _ dst hd]
    rfl
  · rcases Nat.eq_zero_or_pos n with h0 | h0
    · subst h0
      obtain rfl : l = [] := List.eq_nil_of_length_eq_zero h.len
      rw [run_convert_bytes_string w src dst e _ _ _ hs he hd, run_bytesToString w _ 0 c [] (by simp [run_loadCells w _ 0 (fun _ => undef) (by intro j hj; omega)])]
      rfl
    · obtain ⟨b', o', e', _, hc⟩ := h.at_ h0
      injection e' with e'
      injection e' with e1 e2 e3
      subst e1; subst e2; subst e3
      rw [run_convert_bytes_arg w src e hs he b o n c (l.map fun x => (x.toNat : Int)) (by simpa using h.len) (fun i hi => by
        have hl : i < l.length := by have := h.len; omega
        rw [hc i l[i] (List.getElem?_eq_getElem hl)]
        simp [List.getD, List.getElem?_eq_getElem hl]) dst hd]
      congr 2
      apply ByteArray.ext
      apply Array.toList_inj.1
      show (strOfNums _).data.toList = l
      rw [strOfNums_data, List.map_map]
      conv => rhs; rw [← List.map_id l]
      apply List.map_congr_left
      intro x _
      simp
/-- 'make([]byte, n)'. -/
theorem run_mkb {P : Program} (t e : TypeId) (ht : P.underlying t = some (.slice e)) (he : (P.info? e).map (fun i => (i.zero, i.size, i.bytes)) = some (some (.int .u8 0), 1, 1)) (n : Nat) (hn : n ≤ 281474976710656) (W : World) :
    (Instr.makeSlice t (.int .i64 (n : Int)) (.int .i64 (n : Int))).run P W = .ok (.slice (some ⟨W.heap.size, 0, none⟩) n n) (W.alloc (.cells (bvs (zeros n)) e)) := by
  obtain ⟨i, hi, hz, hs, hb⟩ := info_parts he
  have h := run_make (P := P) W t e i _ ht hi hz .i64 .i64 (n : Int) (n : Int) (by omega) (by omega) (by rw [hb]; omega) (by omega)
  simp only [Int.toNat_natCast, hs, Nat.mul_one] at h
  rw [h]
  have : madeCells (Value.int .u8 0).cells n = bvs (zeros n) := by
    apply Array.toList_inj.1
    show (madeCells #[Value.int .u8 0] n).toList = _
    rw [toList_madeCells_one]
    simp [bvs, zeros, List.map_replicate]
    exact .inr rfl
  rw [this]
/-- 'make([]byte, 0, n)'. -/
theorem run_mkb0 {P : Program} (t e : TypeId) (ht : P.underlying t = some (.slice e)) (he : (P.info? e).map (fun i => (i.zero, i.size, i.bytes)) = some (some (.int .u8 0), 1, 1)) (n : Nat) (hn : n ≤ 281474976710656) (W : World) :
    (Instr.makeSlice t (.int .i64 0) (.int .i64 (n : Int))).run P W = .ok (.slice (some ⟨W.heap.size, 0, none⟩) 0 n) (W.alloc (.cells (bvs (zeros n)) e)) := by
  obtain ⟨i, hi, hz, hs, hb⟩ := info_parts he
  have h := run_make (P := P) W t e i _ ht hi hz .i64 .i64 0 (n : Int) (by omega) (by omega) (by rw [hb]; omega) (by omega)
  simp only [Int.toNat_natCast, hs, Nat.mul_one] at h
  rw [h]
  have : madeCells (Value.int .u8 0).cells n = bvs (zeros n) := by
    apply Array.toList_inj.1
    show (madeCells #[Value.int .u8 0] n).toList = _
    rw [toList_madeCells_one]
    simp [bvs, zeros, List.map_replicate]
    exact .inr rfl
  rw [this]
  rfl
/-- The slice v of bytes l is the call's own: nil and nothing, or the head of a block from 'base' on. -/
def OwnB (w : World) (base : Nat) (e : TypeId) (v : Value) (l : List UInt8) : Prop := w.ownsRow base e 1 v l.length (l.map bv)
section
variable {w w' : World} {base : Nat} {e : TypeId} {v : Value} {l : List UInt8}
theorem OwnB.nil (w : World) (base : Nat) (e : TypeId) : OwnB w base e (.slice none 0 0) [] := ⟨rfl, .inl ⟨rfl, rfl⟩⟩
theorem OwnB.alloc (h : OwnB w base e v l) (o : Obj) : OwnB (w.alloc o) base e v l := World.ownsRow.alloc h o
theorem OwnB.drew (h : OwnB w base e v l) : OwnB w.drew base e v l := h
theorem OwnB.ofBlk {g : Nat} (h : Blk w g e (bvs l)) (n : Nat) (hn : n = l.length) (hm : n ≤ maxLen) (hb : base ≤ g) : OwnB w base e (.slice (some ⟨g, 0, none⟩) n n) l := by
  subst hn
  exact ⟨by simp, .inr ⟨g, _, _, rfl, hb, h, Nat.le_refl _, hm, by simp [bvs], by rw [List.take_of_length_le (by simp [bvs])]; simp [bvs]⟩⟩
theorem OwnB.form (h : OwnB w base e v l) : ∃ A n c, v = .slice A n c ∧ BS w w.heap.size A n c l ∧ ∀ g, v.ownBlock = some g → base ≤ g := by
  have hlt := World.ownsRow.lt h
  rcases h.2 with ⟨rfl, h0⟩ | ⟨g, cap, cur, rfl, hb, hh, hc, hm, hs, ht⟩
  · obtain rfl : l = [] := List.eq_nil_of_length_eq_zero h0
    exact ⟨none, 0, 0, rfl, BS.nil _ _, fun g hg => (hlt g hg).1⟩
  · refine ⟨_, _, _, rfl, ⟨rfl, hc, by intro e; (cases e), fun _ => ⟨g, 0, rfl, (hlt g rfl).2, fun j x hx => ?_⟩⟩, fun g hg => (hlt g hg).1⟩
    have := World.ownsRow.cells h (g := g) rfl j (bv x) (by simp [hx])
    rw [Addr.add_lit] at this
    exact this
theorem OwnB.own (h : OwnB w base e v l) {g : Nat} (hg : v.ownBlock = some g) : base ≤ g ∧ g < w.heap.size := World.ownsRow.lt h g hg
end
section
variable {P : Program} {w : World} {ops : Array Oper} {rest : List Oper} {o : Oper} {a : Act} {Q : Exit → Act → World → Prop}
theorem bs_cells {B : Nat} {A : Option Addr} {m c : Nat} {l : List UInt8} (hr : BS w B A m c l) : ∀ ad, A = some ad → ∀ j u, (l.map bv)[j]? = some u → w.cell? (ad.add j) = some u := by
  rintro ad rfl j u hu
  rw [List.getElem?_map] at hu
  obtain ⟨x, hx, rfl⟩ := Option.map_eq_some_iff.1 hu
  obtain ⟨b, o, e, _, hc⟩ := hr.at_ (by have := hr.len; have := (List.getElem?_eq_some_iff.1 hx).1; omega)
  injection e with e
  subst e
  rw [Addr.add_lit]
  exact hc j x hx
theorem bv_all (l : List UInt8) : ∀ u ∈ l.map bv, u.oneCell' = true := by
  intro u hu
  obtain ⟨_, _, rfl⟩ := List.mem_map.1 hu
  rfl
/-- 'append(v, x...)' of bytes, v the call's own: it may grow. -/
theorem run_app_own (t ty : TypeId)
    (e : TypeId) (ht : P.underlying t = some (.slice e)) (he : (P.info? e).map (fun i => (i.zero, i.size, i.bytes)) = some (some (.int .u8 0), 1, 1))
    (base : Nat) (v : Value) (l : List UInt8) (hown : OwnB w base e v l)
    (B m c : Nat) (A : Option Addr) (l2 : List UInt8) (hr : BS w B A m c l2) (hbig : l.length + m ≤ 140737488355328) (hbase : base ≤ w.heap.size) :
    ∃ v' w', (Builtin.append_ #[t, t] ty #[v, .slice A m c]).run P w = .ok v' w' ∧ OwnB w' base e v' (l ++ l2) ∧ w.grownBy w' v.ownBlock ∧ (v'.ownBlock = v.ownBlock ∨ v'.ownBlock = some w.heap.size) := by
  obtain ⟨i, hi, hz, hsz, hby⟩ := info_parts he
  have hm := hr.len
  subst hm
  rcases A with _ | ad
  · have h0 := hr.nil_ rfl
    have h1 := hr.cap
    obtain rfl : l2 = [] := List.eq_nil_of_length_eq_zero (by omega)
    subst h0
    exact ⟨v, w, run_append_owned_none (P := P) w base t ty e i 1 ht hi v _ _ hown, by simpa using hown, World.grownBy.refl _ _, .inl rfl⟩
  · obtain ⟨v', w', h1, h2, h3, _, h5⟩ := run_append_own_at (P := P) w base t ty e i _ 1 1 ht hi hz hsz hby rfl (by omega) v _ _ hown ad l2.length c (l2.map bv) (by simp) (bs_cells hr _ rfl) (bv_all _) (by simp only [maxLen]; omega) (by omega) hbase
    exact ⟨v', w', h1, by unfold OwnB; rw [List.length_append, List.map_append]; exact h2, h3, h5⟩
end
theorem size_u8 {P : Program} {e : TypeId} (he : (P.info? e).map (fun i => (i.zero, i.size, i.bytes)) = some (some (.int .u8 0), 1, 1)) (W : World) : (sizeOf e).run P W = .ok 1 W := by
  obtain ⟨i, hi, hz, hs, hb⟩ := info_parts he
  simp [sizeOf, typeInfo, hi, hs]
/-- 'b[k:]'. -/
theorem BS.tail {P : Program} (t e : TypeId) (ht : P.underlying t = some (.slice e)) (he : (P.info? e).map (fun i => (i.zero, i.size, i.bytes)) = some (some (.int .u8 0), 1, 1)) {w : World} {B n c : Nat} {A : Option Addr} {l : List UInt8}
    (h : BS w B A n c l) {k : Nat} (hk : k ≤ n) :
    ∃ A', (∀ W, (Instr.slice t (.slice A n c) (some (.int .i64 (k : Int))) none none).run P W = .ok (.slice A' (n - k) (c - k)) W) ∧ BS w B A' (n - k) (c - k) (l.drop k) := by
  have hel : P.elem t = e := by simp [Program.elem, ht]
  have hnc := h.cap
  refine ⟨if c = k then A else A.map (fun a => a.add k), fun W => ?_, ?_⟩
  · rw [run_slice_l W t A n c (by rw [hel]; exact ht) _ _ (by omega) (by omega), hel, size_u8 he]
    simp only [Result.andThen, sliced, Int.toNat_natCast, Nat.mul_one]
  · refine ⟨by rw [List.length_drop, h.len], by omega, fun e => ?_, fun hp => ?_⟩
    · split at e
      · omega
      · cases A with
        | none => have := h.nil_ rfl; omega
        | some a => cases e
    · obtain ⟨b, o, e, hb, hc⟩ := h.at_ (by omega)
      subst e
      rw [if_neg (by omega)]
      refine ⟨b, o + k, by simp [Addr.add_lit], hb, fun j x hx => ?_⟩
      rw [List.getElem?_drop] at hx
      have := hc _ x hx
      rw [← Nat.add_assoc] at this
      exact this
/-- Bytes below block g are as they were where only g has turned. -/
theorem BS.row {w w' : World} {g n c : Nat} {A : Option Addr} {l : List UInt8} (h : BS w g A n c l) (hg : w.grownBy w' (some g)) (hlt : g ≤ w.heap.size) : BS w' g A n c l :=
  h.keep fun p hp => World.cell?_of_block (hg.block p.block (by omega) (fun e => by injection e with e; omega))
theorem Blk.row {w w' : World} {g r : Nat} {t : TypeId} {cs : Array Value} (h : Blk w g t cs) (hg : w.grownBy w' (some r)) (hne : g ≠ r) : Blk w' g t cs := h.grown hg (fun e => hne (by injection e))
/-- The slice '(A, n, c)' of slices of bytes reads as the lists L. -/
structure RS (w : World) (B : Nat) (A : Option Addr) (n c : Nat) (L : List (List UInt8)) : Prop where
  len : L.length = n
  at_ : 0 < n → ∃ b o, A = some ⟨b, o, none⟩ ∧ b < B ∧ ∀ j l, L[j]? = some l → ∃ Aj nj cj, w.cell? ⟨b, o + j, none⟩ = some (.slice Aj nj cj) ∧ BS w B Aj nj cj l
section
variable {w w' : World} {B n c : Nat} {A : Option Addr} {L : List (List UInt8)}
theorem RS.keep (h : RS w B A n c L) (hk : ∀ p : Addr, p.block < B → w'.cell? p = w.cell? p) : RS w' B A n c L :=
  ⟨h.len, fun hn => by
    obtain ⟨b, o, e, hb, hc⟩ := h.at_ hn
    refine ⟨b, o, e, hb, fun j l hl => ?_⟩
    obtain ⟨Aj, nj, cj, h1, h2⟩ := hc j l hl
    exact ⟨Aj, nj, cj, (hk _ hb).trans h1, h2.keep hk⟩⟩
theorem RS.below (h : RS w B A n c L) (hb : Below B w w') : RS w' B A n c L := h.keep fun _ hp => hb.cell hp
end
end Go.Proofs.YtonhkclkddobhaaDoor
namespace Go.Proofs.YtonhkclkddobhaaDoor
set_option linter.unusedVariables false
set_option linter.unusedSimpArgs false
open Go.RowKit
/-- In W, that came of w: the blocks of L hold these rows, those of R rows of these sizes; all that was there in w is as it was. -/
structure Fr (w W : World) (L : List (Nat × TypeId × Array Value)) (R : List (Nat × TypeId × Nat)) : Prop where
  below : Below w.heap.size w W
  rows : ∀ p ∈ L, Blk W p.1 p.2.1 p.2.2
  some_ : ∀ p ∈ R, ∃ cs : Array Value, cs.size = p.2.2 ∧ Blk W p.1 p.2.1 cs
  own : ∀ p ∈ R, w.heap.size ≤ p.1
section
variable {w W W' : World} {L L' : List (Nat × TypeId × Array Value)} {R R' : List (Nat × TypeId × Nat)}
theorem Fr.start (w : World) : Fr w w [] [] := ⟨Below.refl _ _, (fun _ h => by cases h), (fun _ h => by cases h), (fun _ h => by cases h)⟩
theorem Fr.get (h : Fr w W L R) {g : Nat} {t : TypeId} {cs : Array Value} (hm : (g, t, cs) ∈ L) : Blk W g t cs := h.rows _ hm
theorem Fr.ext (h : Fr w W L R) (hb : Below W.heap.size W W') : Fr w W' L R :=
  ⟨h.below.trans (hb.mono h.below.size), fun p hp => (h.rows p hp).below hb (h.rows p hp).lt, fun p hp => by
    obtain ⟨cs, e, k⟩ := h.some_ p hp
    exact ⟨cs, e, k.below hb k.lt⟩, h.own⟩
theorem Fr.drew (h : Fr w W L R) : Fr w W.drew L R := ⟨h.below.drew, h.rows, h.some_, h.own⟩
theorem Fr.row (h : Fr w W L R) (cs : Array Value) (t : TypeId) {g : Nat} (hg : g = W.heap.size) : Fr w (W.alloc (.cells cs t)) ((g, t, cs) :: L) R := by
  subst hg
  refine ⟨h.below.alloc h.below.size _, fun p hp => ?_, fun p hp => ?_, h.own⟩
  · rcases List.mem_cons.1 hp with rfl | hp
    · exact Blk.new _ _ _
    · exact (h.rows p hp).alloc _
  · obtain ⟨cs, e, k⟩ := h.some_ p hp
    exact ⟨cs, e, k.alloc _⟩
theorem Fr.any (h : Fr w W L R) (cs : Array Value) (t : TypeId) (n : Nat) (hn : cs.size = n) {g : Nat} (hg : g = W.heap.size) : Fr w (W.alloc (.cells cs t)) L ((g, t, n) :: R) := by
  subst hg
  refine ⟨h.below.alloc h.below.size _, fun p hp => (h.rows p hp).alloc _, fun p hp => ?_, fun p hp => ?_⟩
  · rcases List.mem_cons.1 hp with rfl | hp
    · exact ⟨cs, hn, Blk.new _ _ _⟩
    · obtain ⟨cs, e, k⟩ := h.some_ p hp
      exact ⟨cs, e, k.alloc _⟩
  · rcases List.mem_cons.1 hp with rfl | hp
    · exact h.below.size
    · exact h.own p hp
theorem Fr.pass (h : Fr w W L R) (o : Obj) : Fr w (W.alloc o) L R := h.ext ((Below.refl _ _).alloc (Nat.le_refl _) _)
theorem Blk.setRow_other {g k : Nat} {t : Tid} {cs : Array Value} (h : Blk W g t cs) (hne : g ≠ k) (c : Array Value) : Blk (W.setRow k c) g t cs := h.as (Go.setRow_other W k g c hne)
theorem Blk.setRow_same {g : Nat} {t : TypeId} {cs : Array Value} (h : Blk W g t cs) (c : Array Value) : Blk (W.setRow g c) g t c := setRow_heap W g cs c t (0, 0) h
/-- The lists may be told otherwise. -/
theorem Fr.sub (h : Fr w W L R) (hL : ∀ p ∈ L', p ∈ L) (hR : ∀ p ∈ R', p ∈ R) : Fr w W L' R' := ⟨h.below, fun p hp => h.rows p (hL p hp), fun p hp => h.some_ p (hR p hp), fun p hp => h.own p (hR p hp)⟩
theorem Fr.more (h : Fr w W L R) {g : Nat} {t : TypeId} {cs : Array Value} (hb : Blk W g t cs) : Fr w W ((g, t, cs) :: L) R := ⟨h.below, fun p hp => by
  rcases List.mem_cons.1 hp with rfl | hp
  · exact hb
  · exact h.rows p hp, h.some_, h.own⟩
theorem Fr.size (h : Fr w W L R) : w.heap.size ≤ W.heap.size := h.below.size
theorem Fr.old (h : Fr w W L R) {g : Nat} {t : TypeId} {n : Nat} (hm : (g, t, n) ∈ R) : ∃ cs : Array Value, cs.size = n ∧ Blk W g t cs := h.some_ _ hm
end
/-- In W, that came of wc in the midst of a statement: the rows of L, all of which were there in wc, are as they were. -/
structure Fn (wc W : World) (L : List (Nat × TypeId × Array Value)) : Prop where
  below : Below wc.heap.size wc W
  rows : ∀ p ∈ L, Blk W p.1 p.2.1 p.2.2
  lt : ∀ p ∈ L, p.1 < wc.heap.size
section
variable {w wc W W' : World} {L : List (Nat × TypeId × Array Value)} {R : List (Nat × TypeId × Nat)}
theorem Fn.get (h : Fn wc W L) {g : Nat} {t : TypeId} {cs : Array Value} (hm : (g, t, cs) ∈ L) : Blk W g t cs := h.rows _ hm
theorem Fn.ext (h : Fn wc W L) (hb : Below W.heap.size W W') : Fn wc W' L := ⟨h.below.trans (hb.mono h.below.size), fun p hp => (h.rows p hp).below hb (h.rows p hp).lt, h.lt⟩
theorem Fn.sub {L' : List (Nat × TypeId × Array Value)} (h : Fn wc W L) (hL : ∀ p ∈ L', p ∈ L) : Fn wc W L' := ⟨h.below, fun p hp => h.rows p (hL p hp), fun p hp => h.lt p (hL p hp)⟩
theorem Fn.drew (h : Fn wc W L) : Fn wc W.drew L := ⟨h.below.drew, h.rows, h.lt⟩
theorem Fn.pass (h : Fn wc W L) (o : Obj) : Fn wc (W.alloc o) L := h.ext ((Below.refl _ _).alloc (Nat.le_refl _) _)
end
/-- A row and a plain result. -/
theorem results_row_tmp {P : Program} {fn : Func} {p q : Tmp} {ty : TypeId} (h : fn.results = #[.cell p ty, .tmp q]) {tmps : Array Value} {w : World} {g : Nat} {t : TypeId} {cs : Array Value} {v : Value} {d : TypeDesc}
    (hp : tmps.getD p undef = .pointer (some ⟨g, 0, none⟩)) (hq : tmps.getD q undef = v) (hg : Blk w g t cs)
    (hu : P.underlying ty = some d) (hd : (match d with | .struct _ | .array _ _ => true | _ => false) = true) (hi : (P.info? ty).map (·.size) = some cs.size) :
    (results fn tmps).run P w = .ok (.tuple #[.agg cs, v]) w := by
  have hp' : tmps[p]?.getD undef = .pointer (some ⟨g, 0, none⟩) := by simpa using hp
  have hq' : tmps[q]?.getD undef = v := by simpa using hq
  simp [results, h, hp', hq', asAddr, run_loadVar_row w g t ty cs (0, 0) d hg hu hd hi]
end Go.Proofs.YtonhkclkddobhaaDoor
namespace Go.Proofs.YtonhkclkddobhaaDoor
set_option linter.unusedVariables false
set_option linter.unusedSimpArgs false
open Go Go.RowKit
abbrev Env := List (Nat × Value)
abbrev Hep := List (Nat × Tid × Array Value)
/-- In a, of n slots, the slots of e hold these values; in w, that came of w0, the blocks of h hold these rows. -/
structure St (n : Nat) (w0 : World) (a : Act) (w : World) (e : Env) (h : Hep) : Prop where
  size : a.tmps.size = n
  defers : a.defers = []
  env : ∀ p ∈ e, a.tmps[p.1]? = some p.2
  below : Below w0.heap.size w0 w
  heap : ∀ p ∈ h, Blk w p.1 p.2.1 p.2.2
  own : ∀ p ∈ h, w0.heap.size ≤ p.1
  apart : h.Pairwise (fun p q => p.1 ≠ q.1)
/-- An operand's value, by the slots that are known. -/
def look : Env → Nat → Option Value
  | [], _ => none
  | p :: r, k => bif Nat.beq p.1 k then some p.2 else look r k
def sev (e : Env) : Operand → Option Value
  | .tmp k => look e k
  | .const v => some v
  | .global g => some (.pointer (some ⟨g, 0, none⟩))
  | .func f => some (.func (.func f) #[] #[])
def sevs (e : Env) : List Operand → Option (List Value)
  | [] => some []
  | x :: r => match sev e x, sevs e r with
    | some v, some vs => some (v :: vs)
    | _, _ => none
theorem look_mem {e : Env} {k : Nat} {v : Value} (h : look e k = some v) : (k, v) ∈ e := by
  induction e with
  | nil => cases h
  | cons p r ih =>
    unfold look at h
    cases hb : Nat.beq p.1 k with
    | true =>
      rw [hb] at h
      have hk := Nat.eq_of_beq_eq_true hb
      injection h with h
      subst h
      subst hk
      exact List.mem_cons_self
    | false =>
      rw [hb] at h
      exact List.mem_cons_of_mem _ (ih h)
section
variable {P : Program} {n : Nat} {w0 w w' : World} {a : Act} {e : Env} {h : Hep} {Q : Exit → Act → World → Prop} {ops : Array Oper} {rest : List Oper} {o : Oper}
theorem St.slot (H : St n w0 a w e h) {k : Nat} {v : Value} (hv : look e k = some v) : a.tmps[k]? = some v := H.env _ (look_mem hv)
theorem St.ev (H : St n w0 a w e h) {x : Operand} {v : Value} (hv : sev e x = some v) : a.eval x = v := by
  cases x with
  | tmp k =>
    have := H.slot hv
    simp [Act.eval, this]
  | const u => exact Option.some.inj hv
  | global g => exact Option.some.inj hv
  | func f => exact Option.some.inj hv
theorem St.evs (H : St n w0 a w e h) : ∀ {xs : List Operand} {vs : List Value}, sevs e xs = some vs → xs.map a.eval = vs
  | [], vs, hv => Option.some.inj hv
  | x :: r, vs, hv => by
    unfold sevs at hv
    cases h1 : sev e x with
    | none => rw [h1] at hv; cases hv
    | some v =>
      cases h2 : sevs e r with
      | none => rw [h1, h2] at hv; cases hv
      | some us =>
        rw [h1, h2] at hv
        injection hv with hv
        rw [List.map_cons, H.ev h1, H.evs h2, hv]
/-- Beginning: the arguments' slots. -/
def fills : Nat → List Value → Env
  | _, [] => []
  | k, v :: r => (k, v) :: fills (k + 1) r
theorem fills_get {k : Nat} {vs : List Value} {p : Nat × Value} (hp : p ∈ fills k vs) : ∃ j, p.1 = k + j ∧ vs[j]? = some p.2 := by
  induction vs generalizing k with
  | nil => cases hp
  | cons v r ih =>
    rcases List.mem_cons.1 hp with rfl | hp
    · exact ⟨0, rfl, rfl⟩
    · obtain ⟨j, h1, h2⟩ := ih hp
      exact ⟨j + 1, by omega, h2⟩
theorem St.start (vs : List Value) (n : Nat) (w : World) (hn : vs.length ≤ n) : St n w { tmps := vs.toArray ++ Array.replicate (n - vs.toArray.size) undef, defers := [] } w (fills 0 vs) [] := by
  refine ⟨?_, rfl, fun p hp => ?_, Below.refl _ _, (fun p hp => by cases hp), (fun p hp => by cases hp), List.Pairwise.nil⟩
  · simp
    omega
  · obtain ⟨j, h1, h2⟩ := fills_get hp
    have hj : j < vs.length := (List.getElem?_eq_some_iff.1 h2).1
    rw [h1, Nat.zero_add]
    dsimp only
    rw [Array.getElem?_append_left (by simpa using hj)]
    simpa using h2
/-- A function's body. -/
theorem calls_st {f : FuncId} {fn : Func} {c : Code} {vs : List Value} {R : Ending → World → Prop} (n : Nat) (hf : P.funcs[f]? = some fn) (hb : fn.body = some c) (hn : fn.ntmps = n) (hl : Nat.ble vs.length n = true)
    (hc : ∀ a W, St n w a W (fills 0 vs) [] → c.wp P (bodyPost P fn R) a W) : Calls P f vs.toArray w R := by
  subst hn
  exact calls_of_wp hf hb (hc _ _ (St.start vs _ w (Nat.le_of_ble_eq_true hl)))
theorem St.put (H : St n w0 a w e h) {d : Nat} (v : Value) (hd : Nat.blt d n = true) (hf : e.all (fun p => !Nat.beq p.1 d) = true) : St n w0 (a.put (some d) v) w ((d, v) :: e) h := by
  have hd' : d < a.tmps.size := by rw [H.size]; simpa [Nat.blt_eq] using hd
  refine ⟨by simp [Act.put, H.size], H.defers, fun p hp => ?_, H.below, H.heap, H.own, H.apart⟩
  rcases List.mem_cons.1 hp with rfl | hp
  · show (a.tmps.setIfInBounds d v)[d]? = some v
    simp [hd']
  · have hne : d ≠ p.1 := by
      have := List.all_eq_true.1 hf p hp
      intro e1
      rw [e1, Nat.beq_refl] at this
      cases this
    show (a.tmps.setIfInBounds d v)[p.1]? = some p.2
    rw [Array.getElem?_setIfInBounds_ne hne]
    exact H.env p hp
theorem St.putN (H : St n w0 a w e h) (v : Value) : St n w0 (a.put none v) w e h := H
theorem St.call (H : St n w0 a w e h) (hb : Below w.heap.size w w') : St n w0 a w' e h :=
  ⟨H.size, H.defers, H.env, H.below.trans (hb.mono H.below.size), fun p hp => (H.heap p hp).below hb (H.heap p hp).lt, H.own, H.apart⟩
theorem St.drew (H : St n w0 a w e h) : St n w0 a w.drew e h := ⟨H.size, H.defers, H.env, H.below.drew, H.heap, H.own, H.apart⟩
theorem St.alloc (H : St n w0 a w e h) (cs : Array Value) (t : TypeId) : St n w0 a (w.alloc (.cells cs t)) e ((w.heap.size, t, cs) :: h) := by
  refine ⟨H.size, H.defers, H.env, H.below.alloc H.below.size _, fun p hp => ?_, fun p hp => ?_, List.pairwise_cons.2 ⟨fun p hp => ?_, H.apart⟩⟩
  · rcases List.mem_cons.1 hp with rfl | hp
    · exact Blk.new _ _ _
    · exact (H.heap p hp).alloc _
  · rcases List.mem_cons.1 hp with rfl | hp
    · exact H.below.size
    · exact H.own p hp
  · exact Nat.ne_of_gt (H.heap p hp).lt
theorem setAt_mem {h : Hep} {k : Nat} {x : Nat × Tid × Array Value} {p : Nat × Tid × Array Value} (hp : p ∈ h.set k x) : p = x ∨ ∃ j, j ≠ k ∧ h[j]? = some p := by
  obtain ⟨j, hj⟩ := List.mem_iff_getElem?.1 hp
  by_cases e : j = k
  · subst e
    left
    have hl : j < h.length := by
      have := (List.getElem?_eq_some_iff.1 hj).1
      simpa using this
    rw [List.getElem?_set_self hl] at hj
    exact (Option.some.inj hj).symm
  · right
    exact ⟨j, e, by rw [List.getElem?_set_ne (Ne.symm e)] at hj; exact hj⟩
theorem pw_ne {h : Hep} (hp : h.Pairwise (fun p q => p.1 ≠ q.1)) {i j : Nat} (hij : i ≠ j) {x y : Nat × Tid × Array Value} (hx : h[i]? = some x) (hy : h[j]? = some y) : x.1 ≠ y.1 := by
  obtain ⟨hi, rfl⟩ := List.getElem?_eq_some_iff.1 hx
  obtain ⟨hj, rfl⟩ := List.getElem?_eq_some_iff.1 hy
  rcases Nat.lt_or_ge i j with hl | hl
  · exact List.pairwise_iff_getElem.1 hp i j hi hj hl
  · exact Ne.symm (List.pairwise_iff_getElem.1 hp j i hj hi (by omega))
theorem pw_of {h : Hep} (hp : ∀ (i j : Nat) (x y : Nat × Tid × Array Value), i < j → h[i]? = some x → h[j]? = some y → x.1 ≠ y.1) : h.Pairwise (fun p q => p.1 ≠ q.1) :=
  List.pairwise_iff_getElem.2 fun i j hi hj hl => hp i j _ _ hl (List.getElem?_eq_getElem hi) (List.getElem?_eq_getElem hj)
/-- A block's row is written, whatever of it: f is what becomes of a world, c what the row becomes. -/
theorem St.write (H : St n w0 a w e h) {k g : Nat} {t : Tid} {cs c : Array Value} (hk : h[k]? = some (g, t, cs)) (hs : Blk w' g t c) (hb : Below w0.heap.size w0 w') (ho : ∀ (b : Nat) (t' : Tid) (d : Array Value), b ≠ g → Blk w b t' d → Blk w' b t' d) :
    St n w0 a w' e (h.set k (g, t, c)) := by
  refine ⟨H.size, H.defers, H.env, hb, fun p hp => ?_, fun p hp => ?_, pw_of fun i j x y hl hx hy => ?_⟩
  · rcases setAt_mem hp with rfl | ⟨j, hj, hp⟩
    · exact hs
    · exact ho _ _ _ (pw_ne H.apart hj hp hk) (H.heap p (List.mem_iff_getElem?.2 ⟨j, hp⟩))
  · rcases setAt_mem hp with rfl | ⟨j, hj, hp⟩
    · exact H.own (g, t, cs) (List.mem_iff_getElem?.2 ⟨k, hk⟩)
    · exact H.own p (List.mem_iff_getElem?.2 ⟨j, hp⟩)
  · have fst : ∀ (m : Nat) (z : Nat × Tid × Array Value), (h.set k (g, t, c))[m]? = some z → ∃ u : Nat × Tid × Array Value, h[m]? = some u ∧ u.1 = z.1 := by
      intro m z hz
      by_cases e1 : m = k
      · subst e1
        have hl : m < h.length := (List.getElem?_eq_some_iff.1 hk).1
        rw [List.getElem?_set_self hl] at hz
        exact ⟨_, hk, by rw [← Option.some.inj hz]⟩
      · rw [List.getElem?_set_ne (Ne.symm e1)] at hz
        exact ⟨_, hz, rfl⟩
    obtain ⟨u, hu, eu⟩ := fst i x hx
    obtain ⟨v, hv, ev⟩ := fst j y hy
    rw [← eu, ← ev]
    exact pw_ne H.apart (by omega) hu hv
theorem St.setRow (H : St n w0 a w e h) {k g : Nat} {t : TypeId} {cs : Array Value} (hk : h[k]? = some (g, .ty t, cs)) (c : Array Value) : St n w0 a (w.setRow g c) e (h.set k (g, .ty t, c)) := by
  have hm : (g, .ty t, cs) ∈ h := List.mem_iff_getElem?.2 ⟨k, hk⟩
  exact H.write hk ((H.heap _ hm).setRow_same c) (below_setRow H.below (H.own _ hm) c) (fun b t' d hne hb => hb.setRow_other hne c)
/-- Cells that are written one after another. -/
def setV (cs : Array Value) (o : Nat) : List Value → Array Value
  | [] => cs
  | v :: r => setV (cs.setIfInBounds o v) (o + 1) r
theorem Blk.setV {g : Nat} {t : Tid} : ∀ (vs : List Value) (o : Nat) (cs : Array Value) (W : World), Blk W g t cs → Blk (W.setCells g o vs) g t (setV cs o vs)
  | [], _, _, _, h => h
  | v :: r, o, cs, W, h => Blk.setV r (o + 1) _ _ (h.set_ o v)
theorem Blk.setCells_other {g b : Nat} {t : Tid} {d : Array Value} (hne : b ≠ g) : ∀ (vs : List Value) (o : Nat) (W : World), Blk W b t d → Blk (W.setCells g o vs) b t d
  | [], _, _, h => h
  | v :: r, o, W, h => Blk.setCells_other hne r (o + 1) _ (h.far hne v)
theorem below_setCells {B g : Nat} {w0 : World} (hg : B ≤ g) : ∀ (vs : List Value) (o : Nat) (W : World), Below B w0 W → Below B w0 (W.setCells g o vs)
  | [], _, _, h => h
  | v :: r, o, W, h => below_setCells hg r (o + 1) _ (h.setCell hg v)
theorem St.setCells (H : St n w0 a w e h) {k g : Nat} {t : Tid} {cs c : Array Value} (hk : h[k]? = some (g, t, cs)) (o : Nat) (vs : List Value) (hc : setV cs o vs = c) : St n w0 a (w.setCells g o vs) e (h.set k (g, t, c)) := by
  have hm : (g, t, cs) ∈ h := List.mem_iff_getElem?.2 ⟨k, hk⟩
  subst hc
  exact H.write hk (Blk.setV vs o cs w (H.heap _ hm)) (below_setCells (H.own _ hm) vs o w H.below) (fun b t' d hne hb => Blk.setCells_other hne vs o w hb)
/-- What is known may be told otherwise, or in part. -/
theorem St.sub (H : St n w0 a w e h) {e' : Env} {h' : Hep} (he : ∀ p ∈ e', p ∈ e) (hh : ∀ p ∈ h', p ∈ h) (hp : h'.Pairwise (fun p q => p.1 ≠ q.1)) : St n w0 a w e' h' :=
  ⟨H.size, H.defers, fun p hp => H.env p (he p hp), H.below, fun p hp => H.heap p (hh p hp), fun p hp => H.own p (hh p hp), hp⟩
def picks {α : Type} (l : List α) : List Nat → List α
  | [] => []
  | k :: r => match l[k]? with
    | some x => x :: picks l r
    | none => picks l r
theorem picks_get {α : Type} {l : List α} {ks : List Nat} {x : α} (hx : x ∈ picks l ks) : ∃ k ∈ ks, l[k]? = some x := by
  induction ks with
  | nil => cases hx
  | cons k r ih =>
    unfold picks at hx
    cases hk : l[k]? with
    | none =>
      rw [hk] at hx
      obtain ⟨j, hj, e⟩ := ih hx
      exact ⟨j, List.mem_cons_of_mem _ hj, e⟩
    | some y =>
      rw [hk] at hx
      rcases List.mem_cons.1 hx with rfl | hx
      · exact ⟨k, List.mem_cons_self, hk⟩
      · obtain ⟨j, hj, e⟩ := ih hx
        exact ⟨j, List.mem_cons_of_mem _ hj, e⟩
def rises : List Nat → Bool
  | [] => true
  | k :: r => r.all (fun j => Nat.blt k j) && rises r
theorem picks_pw {l : Hep} (hl : l.Pairwise (fun p q => p.1 ≠ q.1)) : ∀ {ks : List Nat}, rises ks = true → (picks l ks).Pairwise (fun p q => p.1 ≠ q.1)
  | [], _ => List.Pairwise.nil
  | k :: r, hr => by
    unfold rises at hr
    rw [Bool.and_eq_true] at hr
    unfold picks
    cases hk : l[k]? with
    | none => exact picks_pw hl hr.2
    | some y =>
      refine List.pairwise_cons.2 ⟨fun p hp => ?_, picks_pw hl hr.2⟩
      obtain ⟨j, hj, e⟩ := picks_get hp
      have := List.all_eq_true.1 hr.1 j hj
      rw [Nat.blt_eq] at this
      exact pw_ne hl (by omega) hk e
theorem St.pick (H : St n w0 a w e h) (es hs : List Nat) (hr : rises hs = true) : St n w0 a w (picks e es) (picks h hs) := by
  refine H.sub (fun p hp => ?_) (fun p hp => ?_) (picks_pw H.apart hr)
  · obtain ⟨k, _, hk⟩ := picks_get hp
    exact List.mem_iff_getElem?.2 ⟨k, hk⟩
  · obtain ⟨k, _, hk⟩ := picks_get hp
    exact List.mem_iff_getElem?.2 ⟨k, hk⟩
/-- It comes to the value v, and leaves what was there. -/
def Does (P : Program) (Q : Exit → Act → World → Prop) (n : Nat) (w0 : World) (e : Env) (h : Hep) (o : Oper) (v : Value) : Prop :=
  ∀ a w, St n w0 a w e h → o.wp P a w (fun a' w' => a' = a.put o.dst v ∧ Below w.heap.size w w') Q
/-- It comes to the value v, and to nothing else. -/
def Runs (P : Program) (n : Nat) (e : Env) (h : Hep) (o : Oper) (v : Value) : Prop := ∀ w0 a w, St n w0 a w e h → (execOp a.eval o).run P w = .ok (.value v) w
theorem Runs.does {v : Value} (hr : Runs P n e h o v) : Does P Q n w0 e h o v := fun a w H => by
  unfold Oper.wp
  rw [hr w0 a w H]
  exact ⟨rfl, Below.refl _ _⟩
theorem does_run {v : Value} (hv : ∀ a w, St n w0 a w e h → (execOp a.eval o).run P w = .ok (.value v) w) : Does P Q n w0 e h o v := fun a w H => by
  unfold Oper.wp
  rw [hv a w H]
  exact ⟨rfl, Below.refl _ _⟩
theorem runs_move {x : Operand} {v : Value} (ho : o.op = .move x) (hx : sev e x = some v) : Runs P n e h o v := fun w0 a w H => by
  unfold execOp
  simp only [ho, H.ev hx, Sem.run_pure]
theorem does_binOp {op : BinOp} {t t2 : TypeId} {x y : Operand} {u1 u2 v : Value} (ho : o.op = .binOp op t x y t2) (hx : sev e x = some u1) (hy : sev e y = some u2)
    (hv : ∀ W, (do eqGuard op t x y u1 u2; binOp op t u1 u2 : Sem Value).run P W = .ok v W) : Does P Q n w0 e h o v := does_run fun a w H => by
  unfold execOp
  simp only [ho, H.ev hx, H.ev hy]
  rw [Sem.run_bind, hv w]
  rfl
theorem does_index {t : TypeId} {x y : Operand} {u1 u2 v : Value} (ho : o.op = .index t x y) (hx : sev e x = some u1) (hy : sev e y = some u2) (hv : ∀ W, (Instr.index t u1 u2).run P W = .ok v W) : Does P Q n w0 e h o v := does_run fun a w H => by
  unfold execOp
  simp only [ho, H.ev hx, H.ev hy, Sem.run_bind, hv, Result.andThen_ok, Sem.run_pure]
theorem does_convert {s t : TypeId} {x : Operand} {u v : Value} (ho : o.op = .convert s t x) (hx : sev e x = some u) (hv : ∀ W, (convert s t u).run P W = .ok v W) : Does P Q n w0 e h o v := does_run fun a w H => by
  unfold execOp
  simp only [ho, H.ev hx, Sem.run_bind, hv, Result.andThen_ok, Sem.run_pure]
theorem does_fieldAddr {t : TypeId} {x : Operand} {k : Nat} {u v : Value} (ho : o.op = .fieldAddr t x k) (hx : sev e x = some u) (hv : ∀ W, (Instr.fieldAt t u k).run P W = .ok v W) : Does P Q n w0 e h o v := does_run fun a w H => by
  unfold execOp
  simp only [ho, H.ev hx, Sem.run_bind, hv, Result.andThen_ok, Sem.run_pure]
theorem does_indexAddr {t : TypeId} {x y : Operand} {u1 u2 v : Value} (ho : o.op = .indexAddr t x y) (hx : sev e x = some u1) (hy : sev e y = some u2) (hv : ∀ W, (Instr.indexAt t u1 u2).run P W = .ok v W) : Does P Q n w0 e h o v := does_run fun a w H => by
  unfold execOp
  simp only [ho, H.ev hx, H.ev hy, Sem.run_bind, hv, Result.andThen_ok, Sem.run_pure]
/-- The parts of what is built. -/
def sevp (e : Env) : List (Nat × Operand) → Option (List (Nat × Value))
  | [] => some []
  | p :: r => match sev e p.2, sevp e r with
    | some v, some vs => some ((p.1, v) :: vs)
    | _, _ => none
theorem St.evp (H : St n w0 a w e h) : ∀ {ps : List (Nat × Operand)} {vs : List (Nat × Value)}, sevp e ps = some vs → ps.map (fun p => (p.1, a.eval p.2)) = vs
  | [], vs, hv => Option.some.inj hv
  | p :: r, vs, hv => by
    unfold sevp at hv
    cases h1 : sev e p.2 with
    | none => rw [h1] at hv; cases hv
    | some v =>
      cases h2 : sevp e r with
      | none => rw [h1, h2] at hv; cases hv
      | some us =>
        rw [h1, h2] at hv
        injection hv with hv
        rw [List.map_cons, H.ev h1, H.evp h2, hv]
theorem does_build {t : TypeId} {ps : List (Nat × Operand)} {vs : List (Nat × Value)} {v : Value} (ho : o.op = .build t ps.toArray) (hx : sevp e ps = some vs) (hv : ∀ W, (Instr.build t vs.toArray).run P W = .ok v W) : Does P Q n w0 e h o v := does_run fun a w H => by
  unfold execOp
  have e1 : ps.toArray.map (fun (p : Nat × Operand) => (p.1, a.eval p.2)) = vs.toArray := by rw [List.map_toArray, H.evp hx]
  simp only [ho]
  show (do let x ← Instr.build t (ps.toArray.map (fun (p : Nat × Operand) => (p.1, a.eval p.2))); pure (Next.value x) : Sem Next).run P w = _
  rw [e1, Sem.run_bind, hv]
  rfl
/-- A load of a whole block. -/
theorem does_load {t : TypeId} {x : Operand} {g k : Nat} {t' : TypeId} {cs : Array Value} {d : TypeDesc} (ho : o.op = .load t x) (hx : sev e x = some (.pointer (some ⟨g, 0, none⟩))) (hk : h[k]? = some (g, .ty t', cs))
    (hu : P.underlying t = some d) (hd : (match d with | .struct _ | .array _ _ => true | _ => false) = true) (hi : (P.info? t).map (·.size) = some cs.size) : Does P Q n w0 e h o (.agg cs) := fun a w H =>
  wp_load_row t x ho g (H.ev hx) t' cs (0, 0) d (H.heap _ (List.mem_iff_getElem?.2 ⟨k, hk⟩)) hu hd hi ⟨rfl, Below.refl _ _⟩
/-- A load of a part of a block: what it yields is said of whatever world has that block. -/
theorem does_loadAt {t : TypeId} {x : Operand} {g f k : Nat} {t' : Tid} {cs : Array Value} {v : Value} (ho : o.op = .load t x) (hx : sev e x = some (.pointer (some ⟨g, f, none⟩))) (hk : h[k]? = some (g, t', cs))
    (hv : ∀ W, Blk W g t' cs → (Instr.loadAt t (.pointer (some ⟨g, f, none⟩))).run P W = .ok v W) : Does P Q n w0 e h o v := does_run fun a w H => by
  unfold execOp
  simp only [ho, H.ev hx, Sem.run_bind, hv w (H.heap _ (List.mem_iff_getElem?.2 ⟨k, hk⟩)), Result.andThen_ok, Sem.run_pure]
/-- A function of the program's own, that has a body. -/
def Ours (P : Program) (f : FuncId) : Prop := ∃ fn, P.funcs[f]? = some fn ∧ (fn.name == "runtime.NumGoroutine" || fn.body.isNone) = false
theorem run_callFunc {f : FuncId} (hf : Ours P f) (args : Array Value) (W : World) : (callFunc f args).run P W = .ok (.enter f args) W := by
  obtain ⟨fn, h1, h2⟩ := hf
  rw [Bool.or_eq_false_iff] at h2
  unfold callFunc
  have n1 : fn.name ≠ "runtime.NumGoroutine" := by simpa using h2.1
  have n2 : fn.body ≠ none := by
    intro e
    have := h2.2
    rw [e] at this
    cases this
  simp [Sem.run_bind, h1, n1, n2]
theorem run_call {ρ : Operand → Value} {f : FuncId} {args : List Operand} {tys : Array TypeId} (ho : o.op = .call { callee := .value (.func f), args := args.toArray, argTypes := tys }) (hf : Ours P f) (hρ : ρ (.func f) = .func (.func f) #[] #[]) (W : World) :
    (execOp ρ o).run P W = .ok (.enter f (args.map ρ).toArray) W := by
  unfold execOp
  simp only [ho, resolve, hρ, Deferred.ofValue, List.map_toArray]
  simp [Sem.run_bind, Sem.run_pure, invoke, run_callFunc hf]
theorem does_call {f : FuncId} {args : List Operand} {tys : Array TypeId} {vs : List Value} {v : Value} (ho : o.op = .call { callee := .value (.func f), args := args.toArray, argTypes := tys }) (hf : Ours P f) (hx : sevs e args = some vs)
    (hc : ∀ W, Below w0.heap.size w0 W → Calls P f vs.toArray W (fun r W' => r = .returned v ∧ Below W.heap.size W W')) : Does P Q n w0 e h o v := fun a w H => by
  unfold Oper.wp
  rw [run_call ho hf rfl, H.evs hx, Oper.upon_enter]
  refine (hc w H.below).mono ?_
  rintro r W' ⟨rfl, hb⟩
  exact ⟨rfl, hb⟩
/-- A new variable. -/
def News (P : Program) (o : Oper) (t : TypeId) (z : Array Value) : Prop := ∀ (a : Act) (w : World), (execOp a.eval o).run P w = .ok (.value (.pointer (some ⟨w.heap.size, 0, none⟩))) (w.alloc (.cells z t))
theorem pl_end (next : Q .normal a w) : wpList P ops Q [] a w := next
theorem rg_plain {id : Nat} {l : List Oper} (h : wpList P l.toArray Q l a w) : (Code.region id l.toArray false).wp P Q a w := wp_region_lit h
end
inductive Item where
  /-- It comes to v in slot d; it hangs on the values of the operations ps. -/
  | val (d : Nat) (v : Value) (ps : List Nat)
  /-- It comes to v in slot d, whatever the blocks hold: it may come behind some of the rest. -/
  | pur (d : Nat) (v : Value) (ps : List Nat)
  /-- It is not wanted. -/
  | off (d : Nat) (ps : List Nat)
  | new (d : Nat) (t : TypeId) (z : Array Value)
def Item.d : Item → Nat
  | .val d _ _ => d
  | .pur d _ _ => d
  | .off d _ => d
  | .new d _ _ => d
def Item.out (g : Nat) : Item → Value
  | .val _ v _ => v
  | .pur _ v _ => v
  | .off _ _ => undef
  | .new _ _ _ => .pointer (some ⟨g, 0, none⟩)
def outs (G : Nat → Nat) : Nat → List Item → Env
  | _, [] => []
  | k, it :: r => (it.d, it.out (G k)) :: outs G (k + 1) r
def newHep (G : Nat → Nat) : Nat → List Item → Hep
  | _, [] => []
  | k, .new d t z :: r => (G k, t, z) :: newHep G (k + 1) r
  | k, _ :: r => newHep G (k + 1) r
/-- The values of some operations. -/
def depE (plan : List Item) : List Nat → Env
  | [] => []
  | p :: r => match plan[p]? with
    | some (.val d v _) => (d, v) :: depE plan r
    | some (.pur d v _) => (d, v) :: depE plan r
    | some (.off d _) => (d, undef) :: depE plan r
    | _ => depE plan r
def Item.ps : Item → List Nat
  | .val _ _ ps => ps
  | .pur _ _ ps => ps
  | .off _ ps => ps
  | .new _ _ _ => []
/-- What is to be shown of each. -/
def Item.ob (P : Program) (ops : Array Oper) (Q : Exit → Act → World → Prop) (n : Nat) (w0 : World) (e : Env) (h : Hep) (plan : List Item) (o : Oper) : Item → Prop
  | .val d v ps => Does P Q n w0 (depE plan ps ++ e) h o v ∧ ∀ a w, St n w0 a w (depE plan ps ++ e) h → Region.wanted o (yielded ops a.tmps) = true
  | .pur d v ps => Runs P n (depE plan ps ++ e) [] o v ∧ o.guard = none
  | .off d ps => ∀ a w, St n w0 a w (depE plan ps ++ e) h → Region.wanted o (yielded ops a.tmps) = false
  | .new d t z => News P o t z ∧ o.guard = none
/-- The operations that one waits for. -/
def waits (o : Oper) : List Nat := (o.after.toList.filter (fun x => Region.binds .any x)).map (·.on)
def maskOf : List Nat → Nat
  | [] => 0
  | k :: r => Nat.lor (Nat.shiftLeft 1 k) (maskOf r)
def masks (ops : Array Oper) : List Nat := ops.toList.map (fun o => maskOf (waits o))
/-- All that they wait for, and what those wait for. -/
def closeM (ms : List Nat) : Nat → Nat → Nat
  | 0, S => S
  | i + 1, S => closeM ms i (bif Nat.testBit S i then Nat.lor S (ms.getD i 0) else S)
def distinct : List Nat → Bool
  | [] => true
  | k :: r => r.all (fun j => !Nat.beq j k) && distinct r
/-- One after another, from m on: each waits for all from m to before it. -/
def lineUp (ms : List Nat) (m : Nat) : Nat → List Nat → Bool
  | _, [] => true
  | k, x :: r => Nat.beq (Nat.land (closeM ms k x) (Nat.shiftLeft 1 k - Nat.shiftLeft 1 m)) (Nat.shiftLeft 1 k - Nat.shiftLeft 1 m) && lineUp ms m (k + 1) r
def sub2 (a b : Nat) : Bool := Nat.beq (Nat.land a b) a
def maskArr (n S : Nat) : Array Bool := ((List.range n).map (fun j => Nat.testBit S j)).toArray
def downs : Nat → List Nat → Bool
  | _, [] => true
  | k, m :: r => Nat.blt m (Nat.shiftLeft 1 k) && downs (k + 1) r
end Go.Proofs.YtonhkclkddobhaaDoor
namespace Go.Proofs.YtonhkclkddobhaaDoor
set_option linter.unusedVariables false
set_option linter.unusedSimpArgs false
open Go Go.RowKit
theorem maskOf_bit {ks : List Nat} {j : Nat} : (maskOf ks).testBit j = true ↔ j ∈ ks := by
  induction ks with
  | nil => simp [maskOf]
  | cons k r ih =>
    show (Nat.lor (Nat.shiftLeft 1 k) (maskOf r)).testBit j = true ↔ _
    have e1 : Nat.lor (Nat.shiftLeft 1 k) (maskOf r) = (1 <<< k) ||| maskOf r := rfl
    rw [e1, Nat.testBit_or, Bool.or_eq_true, ih, List.mem_cons]
    have : ((1 <<< k).testBit j = true) ↔ j = k := by
      rw [Nat.shiftLeft_eq, Nat.one_mul, Nat.testBit_two_pow]
      simp only [decide_eq_true_eq]
      exact eq_comm
    rw [this]
theorem low_bit {k j : Nat} : (Nat.shiftLeft 1 k - 1).testBit j = decide (j < k) := by
  have e1 : Nat.shiftLeft 1 k = 2 ^ k := by
    show 1 <<< k = _
    rw [Nat.shiftLeft_eq, Nat.one_mul]
  rw [e1, Nat.testBit_two_pow_sub_one]
section
variable {P : Program} {n : Nat} {w0 w w' : World} {a : Act} {e : Env} {h : Hep} {Q : Exit → Act → World → Prop} {ops : Array Oper} {plan : List Item} {ms : List Nat}
theorem masks_get {i : Nat} {o : Oper} (hm : masks ops = ms) (ho : ops[i]? = some o) : ms[i]? = some (maskOf (waits o)) := by
  subst hm
  unfold masks
  simp [ho]
theorem mem_waits {o : Oper} {j : Nat} : j ∈ waits o ↔ ∃ x ∈ o.after, Region.binds .any x = true ∧ x.on = j := by
  unfold waits
  simp only [List.mem_map, List.mem_filter, Array.mem_toList_iff]
  constructor
  · rintro ⟨x, ⟨h1, h2⟩, rfl⟩
    exact ⟨x, h1, h2, rfl⟩
  · rintro ⟨x, h1, h2, rfl⟩
    exact ⟨x, ⟨h1, h2⟩, rfl⟩
/-- What one waits for has come before it. -/
def Down (ops : Array Oper) (l : Array Bool) : Prop := ∀ i o, ops[i]? = some o → l.getD i false = true → ∀ x ∈ o.after, Region.binds .any x = true → l.getD x.on false = true
theorem size_of_listed {l : Array Bool} {i : Nat} (h : l.getD i false = true) : i < l.size := by
  apply Nat.lt_of_not_le
  intro hl
  simp [Array.getElem?_eq_none hl] at h
theorem close_listed {l : Array Bool} (hm : masks ops = ms) (hd : Down ops l) (hs : l.size = ops.size) : ∀ (k S : Nat), (∀ j, S.testBit j = true → l.getD j false = true) → ∀ j, (closeM ms k S).testBit j = true → l.getD j false = true
  | 0, S, h, j, hj => h j hj
  | k + 1, S, h, j, hj => by
    unfold closeM at hj
    cases hb : Nat.testBit S k with
    | false =>
      rw [hb] at hj
      exact close_listed hm hd hs k S h j hj
    | true =>
      rw [hb] at hj
      refine close_listed hm hd hs k _ (fun i hi => ?_) j hj
      have hi : (S ||| ms.getD k 0).testBit i = true := hi
      rw [Nat.testBit_or, Bool.or_eq_true] at hi
      rcases hi with hi | hi
      · exact h i hi
      · have hk := h k hb
        have hlt := size_of_listed hk
        rw [hs] at hlt
        have ho : ops[k]? = some ops[k] := Array.getElem?_eq_getElem hlt
        have hg := masks_get hm ho
        have e2 : ms.getD k 0 = maskOf (waits ops[k]) := by simp [hg]
        rw [e2, maskOf_bit, mem_waits] at hi
        obtain ⟨x, hx, hb2, rfl⟩ := hi
        exact hd k _ ho hk x hx hb2
theorem ready_waits {l : Array Bool} {i : Nat} (hm : masks ops = ms) (hr : i ∈ Region.ready .any ops l) : ∀ j, (ms.getD i 0).testBit j = true → l.getD j false = true := by
  obtain ⟨_, o, ho, hall⟩ := mem_ready.1 hr
  intro j hj
  have hg := masks_get hm ho
  have e2 : ms.getD i 0 = maskOf (waits o) := by simp [hg]
  rw [e2, maskOf_bit, mem_waits] at hj
  obtain ⟨x, hx, hb, rfl⟩ := hj
  exact hall x hx hb
theorem low_bits {k m j : Nat} (hm : m ≤ k) : (Nat.shiftLeft 1 k - Nat.shiftLeft 1 m).testBit j = (decide (m ≤ j) && decide (j < k)) := by
  have e1 : ∀ i, Nat.shiftLeft 1 i = 2 ^ i := fun i => by
    show 1 <<< i = _
    rw [Nat.shiftLeft_eq, Nat.one_mul]
  have e2 : 2 ^ k - 2 ^ m = 2 ^ m * (2 ^ (k - m) - 1) := by
    rw [Nat.mul_sub, ← Nat.pow_add, show m + (k - m) = k by omega, Nat.mul_one]
  rw [e1, e1, e2, Nat.testBit_two_pow_mul, Nat.testBit_two_pow_sub_one, Bool.eq_iff_iff]
  simp only [Bool.and_eq_true, decide_eq_true_eq, ge_iff_le]
  omega
theorem lineUp_get {m k : Nat} {l : List Nat} (hmk : m ≤ k) (hl : lineUp ms m k l = true) : ∀ j x, l[j]? = some x → ∀ i, m ≤ i → i < k + j → (closeM ms (k + j) x).testBit i = true := by
  induction l generalizing k with
  | nil => intro j x hj; cases hj
  | cons x0 r ih =>
    intro j x hj i hmi hi
    unfold lineUp at hl
    rw [Bool.and_eq_true] at hl
    cases j with
    | zero =>
      injection hj with hj
      subst hj
      have e1 := Nat.eq_of_beq_eq_true hl.1
      have e2 : (Nat.land (closeM ms k x0) (Nat.shiftLeft 1 k - Nat.shiftLeft 1 m)).testBit i = true := by
        rw [e1, low_bits hmk, decide_eq_true hmi, decide_eq_true (by omega)]
        rfl
      have e3 : Nat.land (closeM ms k x0) (Nat.shiftLeft 1 k - Nat.shiftLeft 1 m) = closeM ms k x0 &&& (Nat.shiftLeft 1 k - Nat.shiftLeft 1 m) := rfl
      rw [e3, Nat.testBit_and, Bool.and_eq_true] at e2
      exact e2.1
    | succ j =>
      have := ih (by omega) hl.2 j x hj i hmi (by omega)
      rw [show k + (j + 1) = k + 1 + j by omega]
      exact this
theorem sub2_get {a b j : Nat} (h : sub2 a b = true) (hj : a.testBit j = true) : b.testBit j = true := by
  have e1 := Nat.eq_of_beq_eq_true h
  have e2 : (Nat.land a b).testBit j = true := by rw [e1]; exact hj
  have e3 : Nat.land a b = a &&& b := rfl
  rw [e3, Nat.testBit_and, Bool.and_eq_true] at e2
  exact e2.2
theorem downs_get {k : Nat} {l : List Nat} (hl : downs k l = true) : ∀ j m, l[j]? = some m → ∀ i, m.testBit i = true → i < k + j := by
  induction l generalizing k with
  | nil => intro j m hj; cases hj
  | cons m0 r ih =>
    intro j m hj i hi
    unfold downs at hl
    rw [Bool.and_eq_true] at hl
    cases j with
    | zero =>
      injection hj with hj
      subst hj
      have h1 : m0 < 2 ^ k := by
        have := hl.1
        rw [Nat.blt_eq] at this
        have e1 : Nat.shiftLeft 1 k = 2 ^ k := by
          show 1 <<< k = _
          rw [Nat.shiftLeft_eq, Nat.one_mul]
        rwa [e1] at this
      apply Nat.lt_of_not_le
      intro hk
      have h2 : m0 < 2 ^ i := Nat.lt_of_lt_of_le h1 (Nat.pow_le_pow_right (by omega) hk)
      rw [Nat.testBit_lt_two_pow h2] at hi
      cases hi
    | succ j =>
      have := ih hl.2 j m hj i hi
      omega
/-- The rest, one after another. -/
theorem any_tail (hm : masks ops = ms) (hdn : downs 0 ms = true) {m : Nat} (hl : lineUp ms m m (ms.drop m) = true) : ∀ (fuel k : Nat) (l : Array Bool) (a : Act) (w : World), m ≤ k → k ≤ ops.size → ops.size - k ≤ fuel → l.size = ops.size → (∀ i, i < ops.size → (l.getD i false = true ↔ i < k)) → wpList P ops Q (ops.toList.drop k) a w → wpAny P .any ops Q fuel l a w := by
  have hmsl : ms.length = ops.size := by rw [← hm]; simp [masks]
  have rdy : ∀ (k : Nat) (l : Array Bool), m ≤ k → l.size = ops.size → (∀ i, i < ops.size → (l.getD i false = true ↔ i < k)) → ∀ i ∈ Region.ready .any ops l, i = k ∧ i < ops.size := by
    intro k l hk hs hli i hi
    obtain ⟨h0, o, ho, hall⟩ := mem_ready.1 hi
    have hlt : i < ops.size := (Array.getElem?_eq_some_iff.1 ho).1
    refine ⟨?_, hlt⟩
    have hge : k ≤ i := by
      apply Nat.le_of_not_lt
      intro hik
      have := (hli i hlt).2 hik
      have hl2 : i < l.size := by omega
      simp [Array.getElem?_eq_getElem hl2] at h0 this
      rw [h0] at this
      cases this
    have hd : Down ops l := by
      intro j o' ho' hj x hx hb
      have hjl : j < ops.size := (Array.getElem?_eq_some_iff.1 ho').1
      have hjk := (hli j hjl).1 hj
      have hg := masks_get hm ho'
      have hx2 : (maskOf (waits o')).testBit x.on = true := maskOf_bit.2 (mem_waits.2 ⟨x, hx, hb, rfl⟩)
      have hxl := downs_get hdn j _ hg x.on hx2
      exact (hli x.on (by omega)).2 (by omega)
    apply Nat.le_antisymm _ hge
    apply Nat.le_of_not_lt
    intro hki
    have hg := masks_get hm ho
    have hg2 : (ms.drop m)[i - m]? = some (maskOf (waits o)) := by
      rw [List.getElem?_drop, show m + (i - m) = i by omega]
      exact hg
    have hc := lineUp_get (Nat.le_refl _) hl (i - m) _ hg2 k hk (by omega)
    rw [show m + (i - m) = i by omega] at hc
    have e2 : ms.getD i 0 = maskOf (waits o) := by simp [hg]
    have hc2 := close_listed hm hd hs i (maskOf (waits o)) (fun j hj => ready_waits hm hi j (by rw [e2]; exact hj)) k hc
    have := (hli k (by omega)).1 hc2
    omega
  intro fuel
  induction fuel with
  | zero =>
    intro k l a w hk hk2 hf hs hli hw
    have e : k = ops.size := by omega
    refine ⟨?_, ?_⟩
    · apply List.eq_nil_iff_forall_not_mem.2
      intro i hi
      have := rdy k l hk hs hli i hi
      omega
    · rw [e, List.drop_of_length_le (by simp)] at hw
      exact hw
  | succ fuel ih =>
    intro k l a w hk hk2 hf hs hli hw
    by_cases e : k = ops.size
    · refine ⟨fun _ => ?_, fun i hi => ?_⟩
      · rw [e, List.drop_of_length_le (by simp)] at hw
        exact hw
      · have := rdy k l hk hs hli i hi
        omega
    · have hlt : k < ops.size := by omega
      have hin : k ∈ Region.ready .any ops l := by
        refine mem_ready.2 ⟨?_, ops[k], Array.getElem?_eq_getElem hlt, fun x hx hb => ?_⟩
        · have hn : ¬ l.getD k false = true := fun h => by have := (hli k hlt).1 h; omega
          have hl2 : k < l.size := by omega
          simp [Array.getElem?_eq_getElem hl2] at hn ⊢
          exact hn
        · have hg := masks_get hm (Array.getElem?_eq_getElem hlt)
          have hx2 : (maskOf (waits ops[k])).testBit x.on = true := maskOf_bit.2 (mem_waits.2 ⟨x, hx, hb, rfl⟩)
          have hxl := downs_get hdn k _ hg x.on hx2
          exact (hli x.on (by omega)).2 (by omega)
      refine ⟨(fun h => by rw [h] at hin; cases hin), fun i hi => ?_⟩
      obtain ⟨rfl, _⟩ := rdy k l hk hs hli i hi
      have hgo : ∀ a w, wpList P ops Q (ops.toList.drop (i + 1)) a w → wpAny P .any ops Q fuel (l.setIfInBounds i true) a w := fun a w hw2 => by
        refine ih (i + 1) _ a w (by omega) (by omega) (by omega) (by simpa using hs) (fun j hj => ?_) hw2
        by_cases hij : i = j
        · subst hij
          have : i < l.size := by omega
          simp [this]
        · rw [getD_set_ne false hij, hli j hj]
          omega
      have hdrop : ops.toList.drop i = ops[i] :: ops.toList.drop (i + 1) := by
        rw [List.drop_eq_getElem_cons (by simpa using hlt)]
        simp
      rw [hdrop] at hw
      unfold wpList at hw
      unfold wpOp
      rw [Array.getElem?_eq_getElem hlt]
      dsimp only
      split at hw
      · next hwn =>
        rw [if_pos hwn]
        exact hw.imp (Oper.wp_mono hgo) id
      · next hwn =>
        rw [if_neg hwn]
        exact hgo _ _ hw
/-- What is known in the midst. -/
structure Mid (plan : List Item) (n : Nat) (w0 : World) (e : Env) (h : Hep) (l : Array Bool) (G : Nat → Nat) (a : Act) (w : World) : Prop where
  base : St n w0 a w e h
  vals : ∀ j it, plan[j]? = some it → l.getD j false = true → a.tmps[it.d]? = some (it.out (G j))
  news : ∀ j d (t : TypeId) z, plan[j]? = some (.new d t z) → l.getD j false = true → Blk w (G j) t z ∧ w0.heap.size ≤ G j ∧ ∀ p ∈ h, p.1 ≠ G j
  dist : ∀ j k d t z d' t' z', plan[j]? = some (.new d t z) → plan[k]? = some (.new d' t' z') → l.getD j false = true → l.getD k false = true → j ≠ k → G j ≠ G k
theorem outs_mem {G : Nat → Nat} {k : Nat} {r : List Item} {p : Nat × Value} (hp : p ∈ outs G k r) : ∃ (j : Nat) (it : Item), r[j]? = some it ∧ p = (it.d, it.out (G (k + j))) := by
  induction r generalizing k with
  | nil => cases hp
  | cons it r ih =>
    rcases List.mem_cons.1 hp with rfl | hp
    · exact ⟨0, it, rfl, rfl⟩
    · obtain ⟨j, it', h1, rfl⟩ := ih hp
      exact ⟨j + 1, it', h1, by rw [show k + (j + 1) = k + 1 + j by omega]⟩
theorem newHep_mem {G : Nat → Nat} {k : Nat} {r : List Item} {p : Nat × Tid × Array Value} (hp : p ∈ newHep G k r) : ∃ (j d : Nat) (t : TypeId) (z : Array Value), r[j]? = some (.new d t z) ∧ p = (G (k + j), .ty t, z) := by
  induction r generalizing k with
  | nil => cases hp
  | cons it r ih =>
    have go : p ∈ newHep G (k + 1) r → ∃ (j d : Nat) (t : TypeId) (z : Array Value), (it :: r)[j]? = some (.new d t z) ∧ p = (G (k + j), .ty t, z) := fun hp => by
      obtain ⟨j, d, t, z, h1, rfl⟩ := ih hp
      exact ⟨j + 1, d, t, z, h1, by rw [show k + (j + 1) = k + 1 + j by omega]⟩
    cases it with
    | val d v ps => exact go hp
    | pur d v ps => exact go hp
    | off d ps => exact go hp
    | new d t z =>
      rcases List.mem_cons.1 hp with rfl | hp
      · exact ⟨0, d, t, z, rfl, rfl⟩
      · exact go hp
theorem newHep_pw {G : Nat → Nat} {k : Nat} {r : List Item} (hd : ∀ (i j d : Nat) (t : TypeId) (z : Array Value) (d' : Nat) (t' : TypeId) (z' : Array Value), r[i]? = some (.new d t z) → r[j]? = some (.new d' t' z') → i ≠ j → G (k + i) ≠ G (k + j)) : (newHep G k r).Pairwise (fun p q => p.1 ≠ q.1) := by
  induction r generalizing k with
  | nil => exact List.Pairwise.nil
  | cons it r ih =>
    have go : (newHep G (k + 1) r).Pairwise (fun p q => p.1 ≠ q.1) := ih fun i j d t z d' t' z' h1 h2 hne => by
      have := hd (i + 1) (j + 1) d t z d' t' z' h1 h2 (by omega)
      rw [show k + 1 + i = k + (i + 1) by omega, show k + 1 + j = k + (j + 1) by omega]
      exact this
    cases it with
    | val d v ps => exact go
    | pur d v ps => exact go
    | off d ps => exact go
    | new d t z =>
      refine List.pairwise_cons.2 ⟨fun p hp => ?_, go⟩
      obtain ⟨j, d', t', z', h1, rfl⟩ := newHep_mem hp
      have := hd 0 (j + 1) d t z d' t' z' rfl h1 (by omega)
      rw [show k + 1 + j = k + (j + 1) by omega]
      exact this
theorem Mid.all {l : Array Bool} {G : Nat → Nat} (H : Mid plan n w0 e h l G a w) (hl : ∀ i, i < plan.length → l.getD i false = true) : St n w0 a w (outs G 0 plan ++ e) (newHep G 0 plan ++ h) := by
  have lt : ∀ {j : Nat} {it : Item}, plan[j]? = some it → l.getD j false = true := fun hj => hl _ (List.getElem?_eq_some_iff.1 hj).1
  refine ⟨H.base.size, H.base.defers, fun p hp => ?_, H.base.below, fun p hp => ?_, fun p hp => ?_, List.pairwise_append.2 ⟨newHep_pw fun i j d t z d' t' z' h1 h2 hne => ?_, H.base.apart, fun p hp q hq => ?_⟩⟩
  · rcases List.mem_append.1 hp with hp | hp
    · obtain ⟨j, it, h1, rfl⟩ := outs_mem hp
      rw [Nat.zero_add]
      exact H.vals j it h1 (lt h1)
    · exact H.base.env p hp
  · rcases List.mem_append.1 hp with hp | hp
    · obtain ⟨j, d, t, z, h1, rfl⟩ := newHep_mem hp
      rw [Nat.zero_add]
      exact (H.news j d t z h1 (lt h1)).1
    · exact H.base.heap p hp
  · rcases List.mem_append.1 hp with hp | hp
    · obtain ⟨j, d, t, z, h1, rfl⟩ := newHep_mem hp
      rw [Nat.zero_add]
      exact (H.news j d t z h1 (lt h1)).2.1
    · exact H.base.own p hp
  · rw [Nat.zero_add, Nat.zero_add]
    exact H.dist i j d t z d' t' z' h1 h2 (lt h1) (lt h2) hne
  · obtain ⟨j, d, t, z, h1, rfl⟩ := newHep_mem hp
    rw [Nat.zero_add]
    exact Ne.symm ((H.news j d t z h1 (lt h1)).2.2 q hq)
theorem distinct_get {l : List Nat} (hd : distinct l = true) : ∀ (i j x y : Nat), l[i]? = some x → l[j]? = some y → i ≠ j → x ≠ y := by
  have key : ∀ (l : List Nat), distinct l = true → ∀ (i j x y : Nat), l[i]? = some x → l[j]? = some y → i < j → x ≠ y := by
    intro l
    induction l with
    | nil => intro _ i j x y h1; cases h1
    | cons k r ih =>
      intro hd i j x y h1 h2 hij
      unfold distinct at hd
      rw [Bool.and_eq_true] at hd
      obtain ⟨j, rfl⟩ : ∃ j', j = j' + 1 := ⟨j - 1, by omega⟩
      cases i with
      | zero =>
        injection h1 with h1
        subst h1
        have hy : y ∈ r := List.mem_iff_getElem?.2 ⟨j, h2⟩
        have := List.all_eq_true.1 hd.1 y hy
        intro e
        rw [e, Nat.beq_refl] at this
        cases this
      | succ i => exact ih hd.2 i j x y h1 h2 (by omega)
  intro i j x y h1 h2 hne
  rcases Nat.lt_or_ge i j with hl | hl
  · exact key l hd i j x y h1 h2 hl
  · exact Ne.symm (key l hd j i y x h2 h1 (by omega))
theorem listed_set {l : Array Bool} {i j : Nat} (h : (l.setIfInBounds i true).getD j false = true) (hne : j ≠ i) : l.getD j false = true := by
  rw [getD_set_ne false (Ne.symm hne)] at h
  exact h
/-- One more has come to its value. -/
theorem Mid.put {l : Array Bool} {G : Nat → Nat} (H : Mid plan n w0 e h l G a w) {i : Nat} {it : Item} {v : Value} (hi : plan[i]? = some it) (hv : ∀ g, it.out g = v) (hnew : ∀ d t z, it ≠ .new d t z) (hlt : it.d < n) (he : ∀ p ∈ e, p.1 ≠ it.d)
    (hd : ∀ j jt, plan[j]? = some jt → j ≠ i → jt.d ≠ it.d) (hb : Below w.heap.size w w') : Mid plan n w0 e h (l.setIfInBounds i true) G (a.put (some it.d) v) w' := by
  have hlt' : it.d < a.tmps.size := by rw [H.base.size]; exact hlt
  have keep : ∀ k x, k ≠ it.d → a.tmps[k]? = some x → (a.put (some it.d) v).tmps[k]? = some x := fun k x hne hx => by
    show (a.tmps.setIfInBounds it.d v)[k]? = some x
    rw [Array.getElem?_setIfInBounds_ne (Ne.symm hne)]
    exact hx
  refine ⟨⟨by simp [Act.put, H.base.size], H.base.defers, fun p hp => keep _ _ (he p hp) (H.base.env p hp), H.base.below.trans (hb.mono H.base.below.size), fun p hp => (H.base.heap p hp).below hb (H.base.heap p hp).lt, H.base.own, H.base.apart⟩, fun j jt hj hl => ?_, fun j d t z hj hl => ?_, fun j k d t z d' t' z' hj hk hlj hlk hne => ?_⟩
  · by_cases hji : j = i
    · subst hji
      rw [hi] at hj
      injection hj with hj
      subst hj
      rw [hv]
      show (a.tmps.setIfInBounds it.d v)[it.d]? = some v
      simp [hlt']
    · exact keep _ _ (hd j jt hj hji) (H.vals j jt hj (listed_set hl hji))
  · have hji : j ≠ i := fun e1 => by
      subst e1
      rw [hi] at hj
      injection hj with hj
      exact hnew d t z hj
    obtain ⟨h1, h2, h3⟩ := H.news j d t z hj (listed_set hl hji)
    exact ⟨h1.below hb h1.lt, h2, h3⟩
  · have nj : ∀ k d t z, plan[k]? = some (.new d t z) → k ≠ i := fun k d t z hk e1 => by
      subst e1
      rw [hi] at hk
      injection hk with hk
      exact hnew d t z hk
    exact H.dist j k d t z d' t' z' hj hk (listed_set hlj (nj j d t z hj)) (listed_set hlk (nj k d' t' z' hk)) hne
/-- One more variable. -/
theorem Mid.more {l : Array Bool} {G : Nat → Nat} (H : Mid plan n w0 e h l G a w) {i d : Nat} {t : TypeId} {z : Array Value} (hi : plan[i]? = some (.new d t z)) (hlt : d < n) (he : ∀ p ∈ e, p.1 ≠ d)
    (hd : ∀ j jt, plan[j]? = some jt → j ≠ i → jt.d ≠ d) : Mid plan n w0 e h (l.setIfInBounds i true) (fun j => if j = i then w.heap.size else G j) (a.put (some d) (.pointer (some ⟨w.heap.size, 0, none⟩))) (w.alloc (.cells z t)) := by
  have hlt' : d < a.tmps.size := by rw [H.base.size]; exact hlt
  have keep : ∀ k x, k ≠ d → a.tmps[k]? = some x → (a.put (some d) (.pointer (some ⟨w.heap.size, 0, none⟩))).tmps[k]? = some x := fun k x hne hx => by
    show (a.tmps.setIfInBounds d _)[k]? = some x
    rw [Array.getElem?_setIfInBounds_ne (Ne.symm hne)]
    exact hx
  refine ⟨⟨by simp [Act.put, H.base.size], H.base.defers, fun p hp => keep _ _ (he p hp) (H.base.env p hp), H.base.below.alloc H.base.below.size _, fun p hp => (H.base.heap p hp).alloc _, H.base.own, H.base.apart⟩, fun j jt hj hl => ?_, fun j d' t' z' hj hl => ?_, fun j k d1 t1 z1 d2 t2 z2 hj hk hlj hlk hne => ?_⟩
  · by_cases hji : j = i
    · subst hji
      rw [hi] at hj
      injection hj with hj
      subst hj
      rw [if_pos rfl]
      show (a.tmps.setIfInBounds d _)[d]? = some _
      simp [hlt', Item.out]
    · rw [if_neg hji]
      exact keep _ _ (hd j jt hj hji) (H.vals j jt hj (listed_set hl hji))
  · by_cases hji : j = i
    · subst hji
      rw [hi] at hj
      injection hj with hj
      injection hj with h1 h2 h3
      subst h1 h2 h3
      rw [if_pos rfl]
      exact ⟨Blk.new _ _ _, H.base.below.size, fun p hp => Nat.ne_of_lt (H.base.heap p hp).lt⟩
    · rw [if_neg hji]
      obtain ⟨h1, h2, h3⟩ := H.news j d' t' z' hj (listed_set hl hji)
      exact ⟨h1.alloc _, h2, h3⟩
  · by_cases hji : j = i
    · by_cases hki : k = i
      · omega
      · rw [if_pos hji, if_neg hki]
        have := (H.news k d2 t2 z2 hk (listed_set hlk hki)).1.lt
        omega
    · by_cases hki : k = i
      · rw [if_neg hji, if_pos hki]
        have := (H.news j d1 t1 z1 hj (listed_set hlj hji)).1.lt
        omega
      · rw [if_neg hji, if_neg hki]
        exact H.dist j k d1 t1 z1 d2 t2 z2 hj hk (listed_set hlj hji) (listed_set hlk hki) hne
/-- How many of the first m have not come. -/
def left (l : Array Bool) : Nat → Nat
  | 0 => 0
  | m + 1 => left l m + (if l.getD m false = true then 0 else 1)
theorem left_le (l : Array Bool) : ∀ m, left l m ≤ m
  | 0 => Nat.le_refl _
  | m + 1 => by
    have := left_le l m
    unfold left
    split <;> omega
theorem left_zero {l : Array Bool} : ∀ {m : Nat}, left l m = 0 → ∀ i, i < m → l.getD i false = true
  | 0, _, i, hi => absurd hi (by omega)
  | m + 1, h, i, hi => by
    unfold left at h
    by_cases hm : l.getD m false = true
    · rw [if_pos hm] at h
      by_cases e1 : i = m
      · rw [e1]; exact hm
      · exact left_zero (m := m) (by omega) i (by omega)
    · rw [if_neg hm] at h
      omega
theorem left_mono {l : Array Bool} {i : Nat} : ∀ m, left (l.setIfInBounds i true) m ≤ left l m
  | 0 => Nat.le_refl _
  | m + 1 => by
    have := left_mono (l := l) (i := i) m
    unfold left
    by_cases hm : l.getD m false = true
    · rw [if_pos hm, if_pos (getD_set_true hm)]
      omega
    · rw [if_neg hm]
      split <;> omega
theorem left_set {l : Array Bool} {i : Nat} (hs : i < l.size) (hu : ¬ l.getD i false = true) : ∀ m, i < m → left (l.setIfInBounds i true) m + 1 ≤ left l m
  | 0, h => absurd h (by omega)
  | m + 1, h => by
    unfold left
    by_cases e1 : i = m
    · subst e1
      have := left_mono (l := l) (i := i) i
      rw [if_neg hu, if_pos (by simp [hs])]
      omega
    · have := left_set hs hu m (by omega)
      rw [getD_set_ne false e1]
      omega
theorem first_left {l : Array Bool} : ∀ m, (∃ i, i < m ∧ ¬ l.getD i false = true) → ∃ i, i < m ∧ ¬ l.getD i false = true ∧ ∀ j, j < i → l.getD j false = true
  | 0, ⟨i, hi, _⟩ => absurd hi (by omega)
  | m + 1, ⟨i, hi, hu⟩ => by
    by_cases h : ∃ i, i < m ∧ ¬ l.getD i false = true
    · obtain ⟨j, h1, h2, h3⟩ := first_left m h
      exact ⟨j, by omega, h2, h3⟩
    · have hall : ∀ j, j < m → l.getD j false = true := fun j hj => Classical.byContradiction fun hn => h ⟨j, hj, hn⟩
      have e1 : i = m := by
        apply Nat.le_antisymm (by omega)
        apply Nat.le_of_not_lt
        intro hlt
        exact hu (hall i hlt)
      subst e1
      exact ⟨i, hi, hu, hall⟩
theorem down_set {l : Array Bool} {i : Nat} (hd : Down ops l) (hr : i ∈ Region.ready .any ops l) : Down ops (l.setIfInBounds i true) := by
  intro j o ho hj x hx hb
  by_cases e1 : j = i
  · subst e1
    obtain ⟨_, o', ho', hall⟩ := mem_ready.1 hr
    rw [ho] at ho'
    injection ho' with ho'
    subst ho'
    exact getD_set_true (hall x hx hb)
  · exact getD_set_true (hd j o ho (listed_set hj e1) x hx hb)
theorem not_listed {l : Array Bool} {i : Nat} (hr : i ∈ Region.ready .any ops l) : ¬ l.getD i false = true := by
  intro hl
  have h0 := (mem_ready.1 hr).1
  have := size_of_listed hl
  simp [Array.getElem?_eq_getElem this] at h0 hl
  rw [h0] at hl
  cases hl
theorem free_all {i : Nat} {oi : Oper} {l : Array Bool} {S : Nat} (hi : ops[i]? = some oi) (hf : Region.free .any ops (maskArr ops.size S) i = true) (hS : ∀ j, S.testBit j = true → l.getD j false = true) : ∀ j oj, ops[j]? = some oj → j ≠ i → l.getD j true = false → (∀ x ∈ oj.after, Region.binds .any x = true → x.on ≠ i) → oi.apart ops oj = true := fun j oj hj hne hun hno => by
  refine Region.free_spec hi hf j oj hj hne ?_ hno
  have hlt : j < ops.size := (Array.getElem?_eq_some_iff.1 hj).1
  have hb : S.testBit j = false := by
    cases hb : S.testBit j with
    | false => rfl
    | true =>
      have hl := hS j hb
      have := size_of_listed hl
      simp [Array.getElem?_eq_getElem this] at hl hun
      rw [hun] at hl
      cases hl
  unfold maskArr
  simp [hlt, hb]
end
end Go.Proofs.YtonhkclkddobhaaDoor
namespace Go.Proofs.YtonhkclkddobhaaDoor
set_option linter.unusedVariables false
set_option linter.unusedSimpArgs false
open Go Go.RowKit
section
variable {P : Program} {n : Nat} {w0 w w' : World} {a : Act} {e : Env} {h : Hep} {Q : Exit → Act → World → Prop} {ops : Array Oper} {rest : List Oper} {o : Oper}
theorem news_of {t : TypeId} {z : Array Value} (ho : o.op = .alloc t) (hz : ∀ W, (Instr.alloc t true (.tuple #[])).run P W = .ok (.pointer (some ⟨W.heap.size, 0, none⟩)) (W.alloc (.cells z t))) : News P o t z := fun a w => by
  unfold execOp
  simp only [ho, Sem.run_bind, hz, Result.andThen_ok, Sem.run_pure]
theorem wanted_none (hg : o.guard = none) : ∀ a w, St n w0 a w e h → Region.wanted o (yielded ops a.tmps) = true := fun a w _ => by simp [Region.wanted, hg]
theorem wanted_some {j d : Nat} {b c : Bool} {oj : Oper} (hg : o.guard = some (j, b)) (hj : ops[j]? = some oj) (hd : oj.dst = some d) (hv : look e d = some (.bool c)) {r : Bool} (hr : (c == b) = r) : ∀ a w, St n w0 a w e h → Region.wanted o (yielded ops a.tmps) = r := fun a w H => by
  have := H.slot hv
  subst hr
  simp [Region.wanted, hg, yielded, hj, hd, this]
theorem end_cell {fn : Func} {R : Ending → World → Prop} {p : Tmp} {t : TypeId} {t' : TypeId} {g k : Nat} {cs : Array Value} {d : TypeDesc} (hr : fn.results = #[.cell p t]) (hp : look e p = some (.pointer (some ⟨g, 0, none⟩))) (hk : h[k]? = some (g, .ty t', cs))
    (hu : P.underlying t = some d) (hd : (match d with | .struct _ | .array _ _ => true | _ => false) = true) (hi : (P.info? t).map (·.size) = some cs.size) (H : St n w0 a w e h) (hR : Below w0.heap.size w0 w → R (.returned (.agg cs)) w) : bodyPost P fn R .ret a w :=
  bodyPost_ret (results_cell_row hr _ _ g t' cs (0, 0) d (H.ev (x := .tmp p) hp) (H.heap _ (List.mem_iff_getElem?.2 ⟨k, hk⟩)) hu hd hi) H.defers (hR H.below)
theorem end_tmp {fn : Func} {R : Ending → World → Prop} {p : Tmp} {v : Value} (hr : fn.results = #[.tmp p]) (hp : look e p = some v) (H : St n w0 a w e h) (hR : Below w0.heap.size w0 w → R (.returned v) w) : bodyPost P fn R .ret a w := by
  refine bodyPost_ret (v := v) ?_ H.defers (hR H.below)
  rw [results_tmp hr]
  have := H.ev (x := .tmp p) hp
  exact congrArg (Result.ok · w) this
theorem end_cell_tmp {fn : Func} {R : Ending → World → Prop} {p q : Tmp} {t : TypeId} {t' : TypeId} {g k : Nat} {cs : Array Value} {v : Value} {d : TypeDesc} (hr : fn.results = #[.cell p t, .tmp q]) (hp : look e p = some (.pointer (some ⟨g, 0, none⟩))) (hq : look e q = some v) (hk : h[k]? = some (g, .ty t', cs))
    (hu : P.underlying t = some d) (hd : (match d with | .struct _ | .array _ _ => true | _ => false) = true) (hi : (P.info? t).map (·.size) = some cs.size) (H : St n w0 a w e h) (hR : Below w0.heap.size w0 w → R (.returned (.tuple #[.agg cs, v])) w) : bodyPost P fn R .ret a w :=
  bodyPost_ret (results_row_tmp hr (H.ev (x := .tmp p) hp) (H.ev (x := .tmp q) hq) (H.heap _ (List.mem_iff_getElem?.2 ⟨k, hk⟩)) hu hd hi) H.defers (hR H.below)
theorem least {p : Nat → Prop} : ∀ m, p m → ∃ m, p m ∧ ∀ j, p j → m ≤ j := by
  intro m
  induction m using Nat.strongRecOn with
  | _ m ih =>
    intro hm
    by_cases h : ∃ j, j < m ∧ p j
    · obtain ⟨j, hj, hpj⟩ := h
      exact ih j hj hpj
    · exact ⟨m, hm, fun j hj => Nat.le_of_not_lt fun hl => h ⟨j, hl, hj⟩⟩
/-- A loop of at most N rounds: I k is what holds behind k of them. -/
theorem wp_rounds {c : Code} (N : Nat) (I : Nat → Act → World → Prop) {k0 : Nat} (h0 : I k0 a w) (hk : k0 ≤ N)
    (round : ∀ k a w, k ≤ N → I k a w → c.wp P (Exit.then (fun a' w' => ∃ k', k < k' ∧ k' ≤ N ∧ I k' a' w') Q) a w) : (Code.loop c).wp P Q a w := by
  have hex : ∀ (q : Act × World), ∃ m : Nat, (∃ k, k ≤ N ∧ I k q.1 q.2) → (∃ k, k ≤ N ∧ I k q.1 q.2 ∧ N - k = m) ∧ ∀ k, k ≤ N → I k q.1 q.2 → m ≤ N - k := by
    intro q
    by_cases hq : ∃ k, k ≤ N ∧ I k q.1 q.2
    · obtain ⟨k, h1, h2⟩ := hq
      obtain ⟨m, ⟨j, hj1, hj2, hj3⟩, hmin⟩ := least (p := fun m => ∃ k, k ≤ N ∧ I k q.1 q.2 ∧ N - k = m) (N - k) ⟨k, h1, h2, rfl⟩
      exact ⟨m, fun _ => ⟨⟨j, hj1, hj2, hj3⟩, fun i hi1 hi2 => hmin _ ⟨i, hi1, hi2, rfl⟩⟩⟩
    · exact ⟨0, fun h => absurd h hq⟩
  obtain ⟨μ, hμ⟩ := Classical.axiomOfChoice hex
  refine wp_loop (fun a w => ∃ k, k ≤ N ∧ I k a w) (fun a w => μ (a, w)) ⟨k0, hk, h0⟩ (fun a w hI => ?_)
  obtain ⟨⟨k, hk1, hk2, hk3⟩, _⟩ := hμ (a, w) hI
  refine Code.wp_mono ?_ (round k a w hk1 hk2)
  intro e a' w' hq
  cases e with
  | normal =>
    obtain ⟨k', h1, h2, h3⟩ := hq
    have hI' : ∃ k, k ≤ N ∧ I k a' w' := ⟨k', h2, h3⟩
    have := (hμ (a', w') hI').2 k' h2 h3
    exact ⟨hI', by show μ (a', w') < μ (a, w); omega⟩
  | _ => exact hq
end
section
variable {P : Program} {t : TypeId}
end
section
variable {P : Program} {w : World} {a : Act} {Q : Exit → Act → World → Prop} {K : Act → World → Prop}
theorem then_ret (h : Q .ret a w) : Exit.then K Q .ret a w := h
theorem blk_ret {id : Nat} (h : Q .ret a w) : Exit.inBlock id Q .ret a w := h
theorem blk_normal {id : Nat} (h : Q .normal a w) : Exit.inBlock id Q .normal a w := h
theorem then_exit {id : Nat} (h : Q (.exit id) a w) : Exit.then K Q (.exit id) a w := h
theorem blk_exit {id : Nat} (h : Q .normal a w) : Exit.inBlock id Q (.exit id) a w := by
  show (if id = id then Q .normal a w else Q (.exit id) a w)
  rw [if_pos rfl]
  exact h
theorem blk_pass {id j : Nat} (hj : j ≠ id) (h : Q (.exit j) a w) : Exit.inBlock id Q (.exit j) a w := by
  show (if j = id then Q .normal a w else Q (.exit j) a w)
  rw [if_neg hj]
  exact h
end
end Go.Proofs.YtonhkclkddobhaaDoor
namespace Go.Proofs.YtonhkclkddobhaaDoor
set_option linter.unusedVariables false
set_option linter.unusedSimpArgs false
open Go Go.RowKit
inductive It where
  /-- It comes to v in slot d; it hangs on the values of the operations ps and on the rows hs, as they were. -/
  | val (d : Nat) (v : Value) (ps hs : List Nat)
  | off (d : Nat) (ps : List Nat)
  | new (d : Nat) (t : TypeId) (z : Array Value)
  /-- The row k, which held cs in block g, holds c. -/
  | sto (k g : Nat) (t : Tid) (cs c : Array Value) (ps : List Nat)
  /-- The row of the new variable j holds c. -/
  | ston (j d : Nat) (t : TypeId) (z c : Array Value) (ps : List Nat)
def It.dst : It → Option Nat
  | .val d _ _ _ => some d
  | .off d _ => some d
  | .new d _ _ => some d
  | _ => none
def It.out (g : Nat) : It → Value
  | .val _ v _ _ => v
  | .new _ _ _ => .pointer (some ⟨g, 0, none⟩)
  | _ => undef
def It.ps : It → List Nat
  | .val _ _ ps _ => ps
  | .off _ ps => ps
  | .new _ _ _ => []
  | .sto _ _ _ _ _ ps => ps
  | .ston _ _ _ _ _ ps => ps
def It.hs : It → List Nat
  | .val _ _ _ hs => hs
  | _ => []
def outS (G : Nat → Nat) : Nat → List It → Env
  | _, [] => []
  | k, it :: r => match it.dst with
    | some d => (d, it.out (G k)) :: outS G (k + 1) r
    | none => outS G (k + 1) r
/-- What a row, or a new variable's row, is at the end. -/
def endB : List It → Nat → Array Value → Array Value
  | [], _, cs => cs
  | .sto k _ _ _ c _ :: r, j, cs => bif Nat.beq k j then c else endB r j cs
  | _ :: r, j, cs => endB r j cs
def endN : List It → Nat → Array Value → Array Value
  | [], _, cs => cs
  | .ston k _ _ _ c _ :: r, j, cs => bif Nat.beq k j then c else endN r j cs
  | _ :: r, j, cs => endN r j cs
def heapS (plan : List It) : Nat → Hep → Hep
  | _, [] => []
  | k, p :: r => (p.1, p.2.1, endB plan k p.2.2) :: heapS plan (k + 1) r
def newS (plan : List It) (G : Nat → Nat) : Nat → List It → Hep
  | _, [] => []
  | k, .new _ t z :: r => (G k, t, endN plan k z) :: newS plan G (k + 1) r
  | k, _ :: r => newS plan G (k + 1) r
def depS (plan : List It) : List Nat → Env
  | [] => []
  | p :: r => match plan[p]? with
    | some (.val d v _ _) => (d, v) :: depS plan r
    | some (.off d _) => (d, undef) :: depS plan r
    | _ => depS plan r
/-- A store. -/
def Stores (w w' : World) (g : Nat) (t : Tid) (c : Array Value) : Prop :=
  Blk w' g t c ∧ (∀ (b : Nat) (t' : Tid) (d : Array Value), b ≠ g → Blk w b t' d → Blk w' b t' d) ∧ (∀ (B : Nat) (w0 : World), B ≤ g → Below B w0 w → Below B w0 w') ∧ w.heap.size ≤ w'.heap.size
section
variable {P : Program} {n : Nat} {w0 w w' : World} {a : Act} {e : Env} {h : Hep} {Q : Exit → Act → World → Prop} {ops : Array Oper} {o : Oper}
/-- What a store does. -/
def Sto (P : Program) (Q : Exit → Act → World → Prop) (n : Nat) (w0 : World) (e : Env) (o : Oper) (g : Nat) (t : Tid) (cs c : Array Value) : Prop :=
  ∀ a w, St n w0 a w e [(g, t, cs)] → o.wp P a w (fun a' w' => a' = a.put o.dst undef ∧ Stores w w' g t c) Q
def It.ob (P : Program) (ops : Array Oper) (Q : Exit → Act → World → Prop) (n : Nat) (w0 : World) (e : Env) (h : Hep) (plan : List It) (o : Oper) : It → Prop
  | .val d v ps hs => Does P Q n w0 (depS plan ps ++ e) (picks h hs) o v ∧ ∀ a w, St n w0 a w (depS plan ps ++ e) [] → Region.wanted o (yielded ops a.tmps) = true
  | .off d ps => ∀ a w, St n w0 a w (depS plan ps ++ e) [] → Region.wanted o (yielded ops a.tmps) = false
  | .new d t z => News P o t z ∧ o.guard = none
  | .sto k g t cs c ps => h[k]? = some (g, t, cs) ∧ o.guard = none ∧ Sto P Q n w0 (depS plan ps ++ e) o g t cs c
  | .ston j d t z c ps => plan[j]? = some (.new d t z) ∧ o.guard = none ∧ ∀ g, Sto P Q n w0 ((d, .pointer (some ⟨g, 0, none⟩)) :: (depS plan ps ++ e)) o g t z c
end
end Go.Proofs.YtonhkclkddobhaaDoor
namespace Go.Proofs.YtonhkclkddobhaaDoor
set_option linter.unusedVariables false
set_option linter.unusedSimpArgs false
open Go Go.RowKit
section
variable {P : Program} {n : Nat} {w0 w w' : World} {a : Act} {e : Env} {h : Hep} {Q : Exit → Act → World → Prop} {ops : Array Oper} {plan : List It} {ms : List Nat}
structure MidS (plan : List It) (n : Nat) (w0 : World) (e : Env) (h : Hep) (l : Array Bool) (G : Nat → Nat) (a : Act) (w : World) : Prop where
  size : a.tmps.size = n
  defers : a.defers = []
  below : Below w0.heap.size w0 w
  env : ∀ p ∈ e, a.tmps[p.1]? = some p.2
  vals : ∀ (j : Nat) (it : It) (d : Nat), plan[j]? = some it → it.dst = some d → l.getD j false = true → a.tmps[d]? = some (it.out (G j))
  own : ∀ x ∈ h, w0.heap.size ≤ x.1 ∧ x.1 < w.heap.size
  apart : h.Pairwise (fun p q => p.1 ≠ q.1)
  baseA : ∀ (k : Nat) (x : Nat × Tid × Array Value), h[k]? = some x → (∀ j g t cs c ps, plan[j]? = some (.sto k g t cs c ps) → ¬ l.getD j false = true) → Blk w x.1 x.2.1 x.2.2
  baseB : ∀ (k : Nat) (x : Nat × Tid × Array Value) (j g : Nat) (t : Tid) (cs c : Array Value) (ps : List Nat), h[k]? = some x → plan[j]? = some (.sto k g t cs c ps) → l.getD j false = true → Blk w x.1 x.2.1 c
  news : ∀ (j d : Nat) (t : TypeId) (z : Array Value), plan[j]? = some (.new d t z) → l.getD j false = true → w0.heap.size ≤ G j ∧ G j < w.heap.size ∧ ∀ x ∈ h, x.1 ≠ G j
  newA : ∀ (j d : Nat) (t : TypeId) (z : Array Value), plan[j]? = some (.new d t z) → l.getD j false = true → (∀ i d' t' z' c ps, plan[i]? = some (.ston j d' t' z' c ps) → ¬ l.getD i false = true) → Blk w (G j) t z
  newB : ∀ (j d : Nat) (t : TypeId) (z : Array Value) (i d' : Nat) (t' : TypeId) (z' c : Array Value) (ps : List Nat), plan[j]? = some (.new d t z) → l.getD j false = true → plan[i]? = some (.ston j d' t' z' c ps) → l.getD i false = true → Blk w (G j) t c
  dist : ∀ (j k d : Nat) (t : TypeId) (z : Array Value) (d' : Nat) (t' : TypeId) (z' : Array Value), plan[j]? = some (.new d t z) → plan[k]? = some (.new d' t' z') → l.getD j false = true → l.getD k false = true → j ≠ k → G j ≠ G k
theorem set_other {l : Array Bool} {i j : Nat} (hne : j ≠ i) : (l.setIfInBounds i true).getD j false = l.getD j false := getD_set_ne false (Ne.symm hne)
theorem put_keep {a : Act} {d k : Nat} {v x : Value} (hne : k ≠ d) (hx : a.tmps[k]? = some x) : (a.put (some d) v).tmps[k]? = some x := by
  show (a.tmps.setIfInBounds d v)[k]? = some x
  rw [Array.getElem?_setIfInBounds_ne (Ne.symm hne)]
  exact hx
theorem MidS.put {l : Array Bool} {G : Nat → Nat} (H : MidS plan n w0 e h l G a w) {i d : Nat} {it : It} {v : Value} (hi : plan[i]? = some it) (hdst : it.dst = some d) (hv : ∀ g, it.out g = v) (hnew : ∀ d t z, it ≠ .new d t z) (hlt : d < n) (he : ∀ p ∈ e, p.1 ≠ d)
    (hd : ∀ (j : Nat) (jt : It) (x : Nat), plan[j]? = some jt → j ≠ i → jt.dst = some x → x ≠ d) (hb : Below w.heap.size w w') : MidS plan n w0 e h (l.setIfInBounds i true) G (a.put (some d) v) w' := by
  have hlt' : d < a.tmps.size := by rw [H.size]; exact hlt
  have ni : ∀ (j : Nat) (jt : It), plan[j]? = some jt → jt ≠ it → j ≠ i := fun j jt hj hne e1 => by
    subst e1
    rw [hi] at hj
    exact hne (Option.some.inj hj).symm
  have nsto : ∀ k g t cs c ps, It.sto k g t cs c ps ≠ it := fun k g t cs c ps e1 => by rw [← e1] at hdst; cases hdst
  have nston : ∀ j d t z c ps, It.ston j d t z c ps ≠ it := fun k g t cs c ps e1 => by rw [← e1] at hdst; cases hdst
  have nnew : ∀ d t z, It.new d t z ≠ it := fun d t z e1 => hnew d t z e1.symm
  refine ⟨by simp [Act.put, H.size], H.defers, H.below.trans (hb.mono H.below.size), fun p hp => put_keep (he p hp) (H.env p hp), fun j jt x hj hx hl => ?_, fun x hx => ⟨(H.own x hx).1, Nat.lt_of_lt_of_le (H.own x hx).2 hb.size⟩, H.apart, fun k x hx hno => ?_, fun k x j g t cs c ps hx hj hl => ?_, fun j d t z hj hl => ?_, fun j d t z hj hl hno => ?_, fun j d t z i' d' t' z' c ps hj hl hi' hl' => ?_, fun j k d t z d' t' z' hj hk hlj hlk hne => ?_⟩
  · by_cases hji : j = i
    · subst hji
      rw [hi] at hj
      injection hj with hj
      subst hj
      rw [hdst] at hx
      injection hx with hx
      subst hx
      rw [hv]
      show (a.tmps.setIfInBounds d v)[d]? = some v
      simp [hlt']
    · rw [set_other hji] at hl
      exact put_keep (hd j jt x hj hji hx) (H.vals j jt x hj hx hl)
  · have hB := H.baseA k x hx fun j g t cs c ps hj hl => hno j g t cs c ps hj (by rw [set_other (ni j _ hj (nsto _ _ _ _ _ _))]; exact hl)
    exact hB.below hb hB.lt
  · rw [set_other (ni j _ hj (nsto _ _ _ _ _ _))] at hl
    have hB := H.baseB k x j g t cs c ps hx hj hl
    exact hB.below hb hB.lt
  · rw [set_other (ni j _ hj (nnew _ _ _))] at hl
    obtain ⟨h1, h2, h3⟩ := H.news j d t z hj hl
    exact ⟨h1, Nat.lt_of_lt_of_le h2 hb.size, h3⟩
  · rw [set_other (ni j _ hj (nnew _ _ _))] at hl
    have hB := H.newA j d t z hj hl fun i' d' t' z' c ps hi' hl' => hno i' d' t' z' c ps hi' (by rw [set_other (ni i' _ hi' (nston _ _ _ _ _ _))]; exact hl')
    exact hB.below hb hB.lt
  · rw [set_other (ni j _ hj (nnew _ _ _))] at hl
    rw [set_other (ni i' _ hi' (nston _ _ _ _ _ _))] at hl'
    have hB := H.newB j d t z i' d' t' z' c ps hj hl hi' hl'
    exact hB.below hb hB.lt
  · rw [set_other (ni j _ hj (nnew _ _ _))] at hlj
    rw [set_other (ni k _ hk (nnew _ _ _))] at hlk
    exact H.dist j k d t z d' t' z' hj hk hlj hlk hne
theorem MidS.more {l : Array Bool} {G : Nat → Nat} (H : MidS plan n w0 e h l G a w) {i d : Nat} {t : TypeId} {z : Array Value} (hi : plan[i]? = some (.new d t z)) (hu : ∀ i' d' t' z' c ps, plan[i']? = some (.ston i d' t' z' c ps) → ¬ l.getD i' false = true) (hlt : d < n) (he : ∀ p ∈ e, p.1 ≠ d)
    (hd : ∀ (j : Nat) (jt : It) (x : Nat), plan[j]? = some jt → j ≠ i → jt.dst = some x → x ≠ d) : MidS plan n w0 e h (l.setIfInBounds i true) (fun j => if j = i then w.heap.size else G j) (a.put (some d) (.pointer (some ⟨w.heap.size, 0, none⟩))) (w.alloc (.cells z t)) := by
  have hlt' : d < a.tmps.size := by rw [H.size]; exact hlt
  have hsz : w.heap.size < (w.alloc (.cells z t)).heap.size := (Blk.new w t z).lt
  have nsto : ∀ (j k g : Nat) (t' : Tid) (cs c : Array Value) (ps : List Nat), plan[j]? = some (.sto k g t' cs c ps) → j ≠ i := fun j k g t' cs c ps hj e1 => by subst e1; rw [hi] at hj; cases hj
  have nston : ∀ (j k g : Nat) (t' : TypeId) (cs c : Array Value) (ps : List Nat), plan[j]? = some (.ston k g t' cs c ps) → j ≠ i := fun j k g t' cs c ps hj e1 => by subst e1; rw [hi] at hj; cases hj
  refine ⟨by simp [Act.put, H.size], H.defers, H.below.alloc H.below.size _, fun p hp => put_keep (he p hp) (H.env p hp), fun j jt x hj hx hl => ?_, fun x hx => ⟨(H.own x hx).1, Nat.lt_trans (H.own x hx).2 hsz⟩, H.apart, fun k x hx hno => ?_, fun k x j g t cs c ps hx hj hl => ?_, fun j d' t' z' hj hl => ?_, fun j d' t' z' hj hl hno => ?_, fun j d1 t1 z1 i' d' t' z' c ps hj hl hi' hl' => ?_, fun j k d1 t1 z1 d2 t2 z2 hj hk hlj hlk hne => ?_⟩
  · by_cases hji : j = i
    · subst hji
      rw [hi] at hj
      injection hj with hj
      subst hj
      injection hx with hx
      subst hx
      rw [if_pos rfl]
      show (a.tmps.setIfInBounds d _)[d]? = some _
      simp [hlt', It.out]
    · rw [set_other hji] at hl
      rw [if_neg hji]
      exact put_keep (hd j jt x hj hji hx) (H.vals j jt x hj hx hl)
  · exact (H.baseA k x hx fun j g t cs c ps hj hl => hno j g t cs c ps hj (by rw [set_other (nsto j k g t cs c ps hj)]; exact hl)).alloc _
  · rw [set_other (nsto j k g t cs c ps hj)] at hl
    exact (H.baseB k x j g t cs c ps hx hj hl).alloc _
  · by_cases hji : j = i
    · rw [if_pos hji]
      exact ⟨H.below.size, hsz, fun x hx => Nat.ne_of_lt (H.own x hx).2⟩
    · rw [set_other hji] at hl
      rw [if_neg hji]
      obtain ⟨h1, h2, h3⟩ := H.news j d' t' z' hj hl
      exact ⟨h1, Nat.lt_trans h2 hsz, h3⟩
  · by_cases hji : j = i
    · subst hji
      rw [hi] at hj
      injection hj with hj
      injection hj with h1 h2 h3
      subst h1 h2 h3
      rw [if_pos rfl]
      exact Blk.new _ _ _
    · rw [set_other hji] at hl
      rw [if_neg hji]
      exact (H.newA j d' t' z' hj hl fun i' d' t' z' c ps hi' hl' => hno i' d' t' z' c ps hi' (by rw [set_other (nston i' j d' t' z' c ps hi')]; exact hl')).alloc _
  · rw [set_other (nston i' j d' t' z' c ps hi')] at hl'
    by_cases hji : j = i
    · subst hji
      exact absurd hl' (hu i' d' t' z' c ps hi')
    · rw [set_other hji] at hl
      rw [if_neg hji]
      exact (H.newB j d1 t1 z1 i' d' t' z' c ps hj hl hi' hl').alloc _
  · by_cases hji : j = i
    · by_cases hki : k = i
      · omega
      · rw [set_other hki] at hlk
        rw [if_pos hji, if_neg hki]
        have := (H.news k d2 t2 z2 hk hlk).2.1
        omega
    · rw [set_other hji] at hlj
      by_cases hki : k = i
      · rw [if_neg hji, if_pos hki]
        have := (H.news j d1 t1 z1 hj hlj).2.1
        omega
      · rw [set_other hki] at hlk
        rw [if_neg hji, if_neg hki]
        exact H.dist j k d1 t1 z1 d2 t2 z2 hj hk hlj hlk hne
/-- A row is written. -/
theorem MidS.sto {l : Array Bool} {G : Nat → Nat} (H : MidS plan n w0 e h l G a w) {i k g : Nat} {t : Tid} {cs c : Array Value} {ps : List Nat} (hi : plan[i]? = some (.sto k g t cs c ps)) (hk : h[k]? = some (g, t, cs))
    (hinj : ∀ (j : Nat) (g' : Nat) (t' : Tid) (cs' c' : Array Value) (ps' : List Nat), plan[j]? = some (.sto k g' t' cs' c' ps') → j = i) (hil : i < l.size) (hs : Stores w w' g t c) : MidS plan n w0 e h (l.setIfInBounds i true) G a w' := by
  obtain ⟨hs1, hs2, hs3, hs4⟩ := hs
  have hm : (g, t, cs) ∈ h := List.mem_iff_getElem?.2 ⟨k, hk⟩
  have hg := H.own _ hm
  have ni : ∀ (j : Nat) (jt : It), plan[j]? = some jt → (∀ k g t cs c ps, jt ≠ .sto k g t cs c ps) → j ≠ i := fun j jt hj hne e1 => by
    subst e1
    rw [hi] at hj
    exact hne k g t cs c ps (Option.some.inj hj).symm
  refine ⟨H.size, H.defers, hs3 _ _ hg.1 H.below, H.env, fun j jt x hj hx hl => ?_, fun x hx => ⟨(H.own x hx).1, Nat.lt_of_lt_of_le (H.own x hx).2 hs4⟩, H.apart, fun k' x hx hno => ?_, fun k' x j g' t' cs' c' ps' hx hj hl => ?_, fun j d t z hj hl => ?_, fun j d t z hj hl hno => ?_, fun j d t z i' d' t' z' c ps hj hl hi' hl' => ?_, fun j k d t z d' t' z' hj hk hlj hlk hne => ?_⟩
  · have hji := ni j jt hj (fun k g t cs c ps e1 => by rw [e1] at hx; cases hx)
    rw [set_other hji] at hl
    exact H.vals j jt x hj hx hl
  · by_cases hkk : k' = k
    · subst hkk
      exact absurd (by simp [hil]) (hno i g t cs c ps hi)
    · exact hs2 _ _ _ (pw_ne H.apart hkk hx hk) (H.baseA k' x hx fun j g' t' cs' c' ps' hj hl => hno j g' t' cs' c' ps' hj (getD_set_true hl))
  · by_cases hji : j = i
    · subst hji
      rw [hi] at hj
      injection hj with hj
      injection hj with e1 e2 e3 e4 e5 e6
      subst e1 e5
      rw [hk] at hx
      injection hx with hx
      subst hx
      exact hs1
    · rw [set_other hji] at hl
      have hkk : k' ≠ k := fun e1 => hji (hinj j g' t' cs' c' ps' (by rw [← e1]; exact hj))
      exact hs2 _ _ _ (pw_ne H.apart hkk hx hk) (H.baseB k' x j g' t' cs' c' ps' hx hj hl)
  · rw [set_other (ni j _ hj (fun _ _ _ _ _ _ e1 => by cases e1))] at hl
    obtain ⟨h1, h2, h3⟩ := H.news j d t z hj hl
    exact ⟨h1, Nat.lt_of_lt_of_le h2 hs4, h3⟩
  · rw [set_other (ni j _ hj (fun _ _ _ _ _ _ e1 => by cases e1))] at hl
    have h3 := (H.news j d t z hj hl).2.2 _ hm
    exact hs2 _ _ _ (Ne.symm h3) (H.newA j d t z hj hl fun i' d' t' z' c ps hi' hl' => hno i' d' t' z' c ps hi' (getD_set_true hl'))
  · rw [set_other (ni j _ hj (fun _ _ _ _ _ _ e1 => by cases e1))] at hl
    rw [set_other (ni i' _ hi' (fun _ _ _ _ _ _ e1 => by cases e1))] at hl'
    have h3 := (H.news j d t z hj hl).2.2 _ hm
    exact hs2 _ _ _ (Ne.symm h3) (H.newB j d t z i' d' t' z' c ps hj hl hi' hl')
  · rw [set_other (ni j _ hj (fun _ _ _ _ _ _ e1 => by cases e1))] at hlj
    rw [set_other (ni k _ hk (fun _ _ _ _ _ _ e1 => by cases e1))] at hlk
    exact H.dist j k d t z d' t' z' hj hk hlj hlk hne
/-- A new variable's row is written. -/
theorem MidS.ston {l : Array Bool} {G : Nat → Nat} (H : MidS plan n w0 e h l G a w) {i j0 d0 : Nat} {t : TypeId} {z c : Array Value} {ps : List Nat} (hi : plan[i]? = some (.ston j0 d0 t z c ps)) (hj0 : plan[j0]? = some (.new d0 t z)) (hl0 : l.getD j0 false = true)
    (hinj : ∀ (j : Nat) (d' : Nat) (t' : TypeId) (z' c' : Array Value) (ps' : List Nat), plan[j]? = some (.ston j0 d' t' z' c' ps') → j = i) (hil : i < l.size) (hs : Stores w w' (G j0) t c) : MidS plan n w0 e h (l.setIfInBounds i true) G a w' := by
  obtain ⟨hs1, hs2, hs3, hs4⟩ := hs
  obtain ⟨hg1, hg2, hg3⟩ := H.news j0 d0 t z hj0 hl0
  have ni : ∀ (j : Nat) (jt : It), plan[j]? = some jt → (∀ k g t cs c ps, jt ≠ .ston k g t cs c ps) → j ≠ i := fun j jt hj hne e1 => by
    subst e1
    rw [hi] at hj
    exact hne j0 d0 t z c ps (Option.some.inj hj).symm
  refine ⟨H.size, H.defers, hs3 _ _ hg1 H.below, H.env, fun j jt x hj hx hl => ?_, fun x hx => ⟨(H.own x hx).1, Nat.lt_of_lt_of_le (H.own x hx).2 hs4⟩, H.apart, fun k' x hx hno => ?_, fun k' x j g' t' cs' c' ps' hx hj hl => ?_, fun j d t z hj hl => ?_, fun j d t z hj hl hno => ?_, fun j d1 t1 z1 i' d' t' z' c' ps' hj hl hi' hl' => ?_, fun j k d t z d' t' z' hj hk hlj hlk hne => ?_⟩
  · have hji := ni j jt hj (fun k g t cs c ps e1 => by rw [e1] at hx; cases hx)
    rw [set_other hji] at hl
    exact H.vals j jt x hj hx hl
  · exact hs2 _ _ _ (hg3 x (List.mem_iff_getElem?.2 ⟨k', hx⟩)) (H.baseA k' x hx fun j g' t' cs' c' ps' hj hl => hno j g' t' cs' c' ps' hj (getD_set_true hl))
  · rw [set_other (ni j _ hj (fun _ _ _ _ _ _ e1 => by cases e1))] at hl
    exact hs2 _ _ _ (hg3 x (List.mem_iff_getElem?.2 ⟨k', hx⟩)) (H.baseB k' x j g' t' cs' c' ps' hx hj hl)
  · rw [set_other (ni j _ hj (fun _ _ _ _ _ _ e1 => by cases e1))] at hl
    obtain ⟨h1, h2, h3⟩ := H.news j d t z hj hl
    exact ⟨h1, Nat.lt_of_lt_of_le h2 hs4, h3⟩
  · rw [set_other (ni j _ hj (fun _ _ _ _ _ _ e1 => by cases e1))] at hl
    by_cases hjj : j = j0
    · subst hjj
      exact absurd (by simp [hil]) (hno i d0 _ _ c ps hi)
    · exact hs2 _ _ _ (H.dist j j0 d t z d0 _ _ hj hj0 hl hl0 hjj) (H.newA j d t z hj hl fun i' d' t' z' c ps hi' hl' => hno i' d' t' z' c ps hi' (getD_set_true hl'))
  · rw [set_other (ni j _ hj (fun _ _ _ _ _ _ e1 => by cases e1))] at hl
    by_cases hii : i' = i
    · subst hii
      rw [hi] at hi'
      injection hi' with hi'
      injection hi' with e1 e2 e3 e4 e5 e6
      subst e1 e5
      rw [hj0] at hj
      injection hj with hj
      injection hj with f1 f2 f3
      subst f2
      exact hs1
    · rw [set_other hii] at hl'
      have hjj : j ≠ j0 := fun e1 => hii (hinj i' d' t' z' c' ps' (by rw [← e1]; exact hi'))
      exact hs2 _ _ _ (H.dist j j0 d1 t1 z1 d0 _ _ hj hj0 hl hl0 hjj) (H.newB j d1 t1 z1 i' d' t' z' c' ps' hj hl hi' hl')
  · rw [set_other (ni j _ hj (fun _ _ _ _ _ _ e1 => by cases e1))] at hlj
    rw [set_other (ni k _ hk (fun _ _ _ _ _ _ e1 => by cases e1))] at hlk
    exact H.dist j k d t z d' t' z' hj hk hlj hlk hne
theorem outS_mem {G : Nat → Nat} {k : Nat} {r : List It} {p : Nat × Value} (hp : p ∈ outS G k r) : ∃ (j : Nat) (it : It) (d : Nat), r[j]? = some it ∧ it.dst = some d ∧ p = (d, it.out (G (k + j))) := by
  induction r generalizing k with
  | nil => cases hp
  | cons it r ih =>
    have go : p ∈ outS G (k + 1) r → ∃ (j : Nat) (jt : It) (d : Nat), (it :: r)[j]? = some jt ∧ jt.dst = some d ∧ p = (d, jt.out (G (k + j))) := fun hp => by
      obtain ⟨j, it', d, h1, h2, rfl⟩ := ih hp
      exact ⟨j + 1, it', d, h1, h2, by rw [show k + (j + 1) = k + 1 + j by omega]⟩
    unfold outS at hp
    cases hd : it.dst with
    | none => rw [hd] at hp; exact go hp
    | some d =>
      rw [hd] at hp
      rcases List.mem_cons.1 hp with rfl | hp
      · exact ⟨0, it, d, rfl, hd, rfl⟩
      · exact go hp
theorem endB_spec {k : Nat} {cs : Array Value} (r : List It) : (∃ (j g : Nat) (t : Tid) (cs' c : Array Value) (ps : List Nat), r[j]? = some (.sto k g t cs' c ps) ∧ endB r k cs = c) ∨ ((∀ (j g : Nat) (t : Tid) (cs' c : Array Value) (ps : List Nat), r[j]? ≠ some (.sto k g t cs' c ps)) ∧ endB r k cs = cs) := by
  induction r with
  | nil => exact .inr ⟨(fun j g t cs' c ps hj => by cases hj), rfl⟩
  | cons it r ih =>
    have go : (∀ g t cs' c ps, it ≠ .sto k g t cs' c ps) → endB (it :: r) k cs = endB r k cs → (∃ (j g : Nat) (t : Tid) (cs' c : Array Value) (ps : List Nat), (it :: r)[j]? = some (.sto k g t cs' c ps) ∧ endB (it :: r) k cs = c) ∨ ((∀ (j g : Nat) (t : Tid) (cs' c : Array Value) (ps : List Nat), (it :: r)[j]? ≠ some (.sto k g t cs' c ps)) ∧ endB (it :: r) k cs = cs) := fun hne he => by
      rw [he]
      rcases ih with ⟨j, g, t, cs', c, ps, h1, h2⟩ | ⟨h1, h2⟩
      · exact .inl ⟨j + 1, g, t, cs', c, ps, h1, h2⟩
      · refine .inr ⟨fun j g t cs' c ps hj => ?_, h2⟩
        cases j with
        | zero => exact hne g t cs' c ps (Option.some.inj hj)
        | succ j => exact h1 j g t cs' c ps hj
    cases it with
    | val d v ps hs => exact go (fun _ _ _ _ _ e1 => by cases e1) rfl
    | off d ps => exact go (fun _ _ _ _ _ e1 => by cases e1) rfl
    | new d t z => exact go (fun _ _ _ _ _ e1 => by cases e1) rfl
    | ston j d t z c ps => exact go (fun _ _ _ _ _ e1 => by cases e1) rfl
    | sto k' g t cs' c ps =>
      cases hb : Nat.beq k' k with
      | true =>
        have hk := Nat.eq_of_beq_eq_true hb
        subst hk
        refine .inl ⟨0, g, t, cs', c, ps, rfl, ?_⟩
        unfold endB
        rw [hb]
        rfl
      | false =>
        refine go (fun _ _ _ _ _ e1 => ?_) ?_
        · injection e1 with e1
          rw [e1, Nat.beq_refl] at hb
          cases hb
        · show (bif Nat.beq k' k then c else endB r k cs) = _
          rw [hb]
          rfl
theorem endN_spec {k : Nat} {cs : Array Value} (r : List It) : (∃ (j g : Nat) (t : TypeId) (cs' c : Array Value) (ps : List Nat), r[j]? = some (.ston k g t cs' c ps) ∧ endN r k cs = c) ∨ ((∀ (j g : Nat) (t : TypeId) (cs' c : Array Value) (ps : List Nat), r[j]? ≠ some (.ston k g t cs' c ps)) ∧ endN r k cs = cs) := by
  induction r with
  | nil => exact .inr ⟨(fun j g t cs' c ps hj => by cases hj), rfl⟩
  | cons it r ih =>
    have go : (∀ g t cs' c ps, it ≠ .ston k g t cs' c ps) → endN (it :: r) k cs = endN r k cs → (∃ (j g : Nat) (t : TypeId) (cs' c : Array Value) (ps : List Nat), (it :: r)[j]? = some (.ston k g t cs' c ps) ∧ endN (it :: r) k cs = c) ∨ ((∀ (j g : Nat) (t : TypeId) (cs' c : Array Value) (ps : List Nat), (it :: r)[j]? ≠ some (.ston k g t cs' c ps)) ∧ endN (it :: r) k cs = cs) := fun hne he => by
      rw [he]
      rcases ih with ⟨j, g, t, cs', c, ps, h1, h2⟩ | ⟨h1, h2⟩
      · exact .inl ⟨j + 1, g, t, cs', c, ps, h1, h2⟩
      · refine .inr ⟨fun j g t cs' c ps hj => ?_, h2⟩
        cases j with
        | zero => exact hne g t cs' c ps (Option.some.inj hj)
        | succ j => exact h1 j g t cs' c ps hj
    cases it with
    | val d v ps hs => exact go (fun _ _ _ _ _ e1 => by cases e1) rfl
    | off d ps => exact go (fun _ _ _ _ _ e1 => by cases e1) rfl
    | new d t z => exact go (fun _ _ _ _ _ e1 => by cases e1) rfl
    | sto j d t z c ps => exact go (fun _ _ _ _ _ e1 => by cases e1) rfl
    | ston k' g t cs' c ps =>
      cases hb : Nat.beq k' k with
      | true =>
        have hk := Nat.eq_of_beq_eq_true hb
        subst hk
        refine .inl ⟨0, g, t, cs', c, ps, rfl, ?_⟩
        unfold endN
        rw [hb]
        rfl
      | false =>
        refine go (fun _ _ _ _ _ e1 => ?_) ?_
        · injection e1 with e1
          rw [e1, Nat.beq_refl] at hb
          cases hb
        · show (bif Nat.beq k' k then c else endN r k cs) = _
          rw [hb]
          rfl
theorem heapS_mem {k : Nat} {r : Hep} {p : Nat × Tid × Array Value} (hp : p ∈ heapS plan k r) : ∃ (j : Nat) (x : Nat × Tid × Array Value), r[j]? = some x ∧ p = (x.1, x.2.1, endB plan (k + j) x.2.2) := by
  induction r generalizing k with
  | nil => cases hp
  | cons x r ih =>
    rcases List.mem_cons.1 hp with rfl | hp
    · exact ⟨0, x, rfl, rfl⟩
    · obtain ⟨j, y, h1, rfl⟩ := ih hp
      exact ⟨j + 1, y, h1, by rw [show k + (j + 1) = k + 1 + j by omega]⟩
theorem heapS_pw {k : Nat} {r : Hep} (hp : r.Pairwise (fun p q => p.1 ≠ q.1)) : (heapS plan k r).Pairwise (fun p q => p.1 ≠ q.1) := by
  induction r generalizing k with
  | nil => exact List.Pairwise.nil
  | cons x r ih =>
    obtain ⟨h1, h2⟩ := List.pairwise_cons.1 hp
    refine List.pairwise_cons.2 ⟨fun p hp => ?_, ih h2⟩
    obtain ⟨j, y, hj, rfl⟩ := heapS_mem hp
    exact h1 y (List.mem_iff_getElem?.2 ⟨j, hj⟩)
theorem newS_mem {G : Nat → Nat} {k : Nat} {r : List It} {p : Nat × Tid × Array Value} (hp : p ∈ newS plan G k r) : ∃ (j d : Nat) (t : TypeId) (z : Array Value), r[j]? = some (.new d t z) ∧ p = (G (k + j), .ty t, endN plan (k + j) z) := by
  induction r generalizing k with
  | nil => cases hp
  | cons it r ih =>
    have go : p ∈ newS plan G (k + 1) r → ∃ (j d : Nat) (t : TypeId) (z : Array Value), (it :: r)[j]? = some (.new d t z) ∧ p = (G (k + j), .ty t, endN plan (k + j) z) := fun hp => by
      obtain ⟨j, d, t, z, h1, rfl⟩ := ih hp
      exact ⟨j + 1, d, t, z, h1, by rw [show k + (j + 1) = k + 1 + j by omega]⟩
    cases it with
    | val d v ps hs => exact go hp
    | off d ps => exact go hp
    | sto k g t cs c ps => exact go hp
    | ston k g t cs c ps => exact go hp
    | new d t z =>
      rcases List.mem_cons.1 hp with rfl | hp
      · exact ⟨0, d, t, z, rfl, rfl⟩
      · exact go hp
theorem newS_pw {G : Nat → Nat} {k : Nat} {r : List It} (hd : ∀ (i j d : Nat) (t : TypeId) (z : Array Value) (d' : Nat) (t' : TypeId) (z' : Array Value), r[i]? = some (.new d t z) → r[j]? = some (.new d' t' z') → i ≠ j → G (k + i) ≠ G (k + j)) : (newS plan G k r).Pairwise (fun p q => p.1 ≠ q.1) := by
  induction r generalizing k with
  | nil => exact List.Pairwise.nil
  | cons it r ih =>
    have go : (newS plan G (k + 1) r).Pairwise (fun p q => p.1 ≠ q.1) := ih fun i j d t z d' t' z' h1 h2 hne => by
      have := hd (i + 1) (j + 1) d t z d' t' z' h1 h2 (by omega)
      rw [show k + 1 + i = k + (i + 1) by omega, show k + 1 + j = k + (j + 1) by omega]
      exact this
    cases it with
    | val d v ps hs => exact go
    | off d ps => exact go
    | sto k g t cs c ps => exact go
    | ston k g t cs c ps => exact go
    | new d t z =>
      refine List.pairwise_cons.2 ⟨fun p hp => ?_, go⟩
      obtain ⟨j, d', t', z', h1, rfl⟩ := newS_mem hp
      have := hd 0 (j + 1) d t z d' t' z' rfl h1 (by omega)
      rw [show k + 1 + j = k + (j + 1) by omega]
      exact this
theorem MidS.all {l : Array Bool} {G : Nat → Nat} (H : MidS plan n w0 e h l G a w) (hl : ∀ i, i < plan.length → l.getD i false = true) : St n w0 a w (outS G 0 plan ++ e) (newS plan G 0 plan ++ heapS plan 0 h) := by
  have lt : ∀ {j : Nat} {it : It}, plan[j]? = some it → l.getD j false = true := fun hj => hl _ (List.getElem?_eq_some_iff.1 hj).1
  refine ⟨H.size, H.defers, fun p hp => ?_, H.below, fun p hp => ?_, fun p hp => ?_, List.pairwise_append.2 ⟨newS_pw fun i j d t z d' t' z' h1 h2 hne => ?_, heapS_pw H.apart, fun p hp q hq => ?_⟩⟩
  · rcases List.mem_append.1 hp with hp | hp
    · obtain ⟨j, it, d, h1, h2, rfl⟩ := outS_mem hp
      rw [Nat.zero_add]
      exact H.vals j it d h1 h2 (lt h1)
    · exact H.env p hp
  · rcases List.mem_append.1 hp with hp | hp
    · obtain ⟨j, d, t, z, h1, rfl⟩ := newS_mem hp
      rw [Nat.zero_add]
      rcases endN_spec (k := j) (cs := z) plan with ⟨i, d', t', z', c, ps, h2, h3⟩ | ⟨h2, h3⟩
      · rw [h3]
        exact H.newB j d t z i d' t' z' c ps h1 (lt h1) h2 (lt h2)
      · rw [h3]
        exact H.newA j d t z h1 (lt h1) fun i d' t' z' c ps hi _ => h2 i d' t' z' c ps hi
    · obtain ⟨k, x, h1, rfl⟩ := heapS_mem hp
      rw [Nat.zero_add]
      rcases endB_spec (k := k) (cs := x.2.2) plan with ⟨i, g, t', cs', c, ps, h2, h3⟩ | ⟨h2, h3⟩
      · rw [h3]
        exact H.baseB k x i g t' cs' c ps h1 h2 (lt h2)
      · rw [h3]
        exact H.baseA k x h1 fun i g t' cs' c ps hi _ => h2 i g t' cs' c ps hi
  · rcases List.mem_append.1 hp with hp | hp
    · obtain ⟨j, d, t, z, h1, rfl⟩ := newS_mem hp
      rw [Nat.zero_add]
      exact (H.news j d t z h1 (lt h1)).1
    · obtain ⟨k, x, h1, rfl⟩ := heapS_mem hp
      exact (H.own x (List.mem_iff_getElem?.2 ⟨k, h1⟩)).1
  · rw [Nat.zero_add, Nat.zero_add]
    exact H.dist i j d t z d' t' z' h1 h2 (lt h1) (lt h2) hne
  · obtain ⟨j, d, t, z, h1, rfl⟩ := newS_mem hp
    obtain ⟨k, x, h2, rfl⟩ := heapS_mem hq
    rw [Nat.zero_add]
    exact Ne.symm ((H.news j d t z h1 (lt h1)).2.2 x (List.mem_iff_getElem?.2 ⟨k, h2⟩))
theorem depS_mem {ps : List Nat} {p : Nat × Value} (hp : p ∈ depS plan ps) : ∃ j ∈ ps, ∃ (it : It) (d : Nat), plan[j]? = some it ∧ it.dst = some d ∧ ∀ g, p = (d, it.out g) := by
  induction ps with
  | nil => cases hp
  | cons k r ih =>
    have go : p ∈ depS plan r → ∃ j ∈ k :: r, ∃ (it : It) (d : Nat), plan[j]? = some it ∧ it.dst = some d ∧ ∀ g, p = (d, it.out g) := fun hp => by
      obtain ⟨j, hj, it, d, h1, h2, h3⟩ := ih hp
      exact ⟨j, List.mem_cons_of_mem _ hj, it, d, h1, h2, h3⟩
    unfold depS at hp
    cases hk : plan[k]? with
    | none => rw [hk] at hp; exact go hp
    | some it =>
      rw [hk] at hp
      cases it with
      | val d v qs hs =>
        rcases List.mem_cons.1 hp with rfl | hp
        · exact ⟨k, List.mem_cons_self, _, d, hk, rfl, fun _ => rfl⟩
        · exact go hp
      | off d qs =>
        rcases List.mem_cons.1 hp with rfl | hp
        · exact ⟨k, List.mem_cons_self, _, d, hk, rfl, fun _ => rfl⟩
        · exact go hp
      | new d t z => exact go hp
      | sto a b c d e f => exact go hp
      | ston a b c d e f => exact go hp
/-- What one hangs on: slots, and rows that nobody has written yet. -/
theorem MidS.part {l : Array Bool} {G : Nat → Nat} (H : MidS plan n w0 e h l G a w) {ps hs : List Nat} (hp : ∀ j ∈ ps, l.getD j false = true) (hr : rises hs = true) (hno : ∀ k ∈ hs, ∀ j g t cs c qs, plan[j]? = some (.sto k g t cs c qs) → ¬ l.getD j false = true) : St n w0 a w (depS plan ps ++ e) (picks h hs) := by
  refine ⟨H.size, H.defers, fun p hq => ?_, H.below, fun p hq => ?_, fun p hq => ?_, picks_pw H.apart hr⟩
  · rcases List.mem_append.1 hq with hq | hq
    · obtain ⟨j, hj, it, d, h1, h2, h3⟩ := depS_mem hq
      rw [h3 (G j)]
      exact H.vals j it d h1 h2 (hp j hj)
    · exact H.env p hq
  · obtain ⟨k, hk, hx⟩ := picks_get hq
    exact H.baseA k p hx (hno k hk)
  · obtain ⟨k, hk, hx⟩ := picks_get hq
    exact (H.own p (List.mem_iff_getElem?.2 ⟨k, hx⟩)).1
end
end Go.Proofs.YtonhkclkddobhaaDoor
namespace Go.Proofs.YtonhkclkddobhaaDoor
set_option linter.unusedVariables false
set_option linter.unusedSimpArgs false
open Go Go.RowKit
/-- One operation: its slot, what holds of its value, which operations' values it hangs on. -/
structure Fct where
  d : Nat
  F : Value → World → Prop
  ps : List Nat
  /-- It need not hold any more once this operation has come. -/
  til : Option Nat := none
  /-- It writes on what an operation before it has made. -/
  own : Bool := false
/-- What is known where the values of some operations are there. -/
def Chain (plan : List Fct) (w : World) (K : Env → Prop) : List Nat → Env → Prop
  | [], e => K e
  | j :: r, e => match plan[j]? with
    | some it => ∀ v, it.F v w → Chain plan w K r ((it.d, v) :: e)
    | none => Chain plan w K r e
abbrev Rel := World → World → Prop
/-- How the world turns by it: R; by what writes: R'. -/
def Fct.rel (R R' : Rel) (it : Fct) : Rel := bif it.own then R' else R
def Fct.ob (P : Program) (R R' : Rel) (ops : Array Oper) (Q : Exit → Act → World → Prop) (n : Nat) (w0 : World) (e : Env) (h : Hep) (plan : List Fct) (o : Oper) (it : Fct) : Prop :=
  (∀ a w, Chain plan w (fun e' => St n w0 a w e' h → Region.wanted o (yielded ops a.tmps) = true ∧ o.wp P a w (fun a' w' => ∃ v, a' = a.put o.dst v ∧ it.rel R R' w w' ∧ it.F v w') Q) it.ps e) ∧ (∀ v w w', it.F v w → R w w' → it.F v w') ∧ (it.til = none → ∀ v w w', it.F v w → R' w w' → it.F v w')
def psOkF : List Nat → List Fct → Bool
  | m :: ms, it :: r => it.ps.all (fun j => Nat.testBit m j) && psOkF ms r
  | _, [] => true
  | [], _ :: _ => false
def dstOkF : List Oper → List Fct → Bool
  | o :: os, it :: r => (match o.dst with | some d => Nat.beq d it.d | none => false) && dstOkF os r
  | _, [] => true
  | [], _ :: _ => false
def headOkF (ms : List Nat) (m : Nat) : List Nat → Bool
  | [] => true
  | x :: _ => sub2 (Nat.shiftLeft 1 m - 1) (closeM ms m x)
/-- What one hangs on holds till it comes. -/
def tilOk (plan : List Fct) (i : Nat) (j : Nat) : Bool := match plan[j]? with
  | some jt => (match jt.til with | none => true | some k => Nat.beq k i)
  | none => true
/-- What holds for a while alone does not, or no more, when another one writes. -/
def ownOk (ms : List Nat) (plan : List Fct) (i : Nat) : Bool := (List.range plan.length).all fun j => match plan[j]? with
  | some jt => (match jt.til with | none => true | some k => Nat.beq k i || Nat.beq j i || Nat.testBit (closeM ms i (ms.getD i 0)) k || Nat.testBit (closeM ms j (ms.getD j 0)) i)
  | none => true
def lastOk (ms : List Nat) (plan : List Fct) : Bool := (List.range plan.length).all fun i => match plan[i]? with
  | some it => it.ps.all (tilOk plan i) && (!it.own || ownOk ms plan i)
  | none => true
def planOkF (ops : Array Oper) (n : Nat) (e : Env) (plan : List Fct) (ms : List Nat) : Bool :=
  Nat.ble plan.length ops.size && downs 0 ms && psOkF ms plan && dstOkF ops.toList plan && distinct (plan.map (·.d)) && plan.all (fun it => Nat.blt it.d n && e.all (fun p => !Nat.beq p.1 it.d)) && lineUp ms plan.length plan.length (ms.drop plan.length) && headOkF ms plan.length (ms.drop plan.length) && lastOk ms plan
section
variable {P : Program} {n : Nat} {w0 w w' : World} {a : Act} {e : Env} {h : Hep} {Q : Exit → Act → World → Prop} {ops : Array Oper} {plan : List Fct} {ms : List Nat} {rest : List Oper} {o : Oper} {R R' : Rel}
structure MidF (plan : List Fct) (n : Nat) (w0 : World) (e : Env) (h : Hep) (l : Array Bool) (a : Act) (w : World) : Prop where
  base : St n w0 a w e h
  vals : ∀ (j : Nat) (it : Fct), plan[j]? = some it → l.getD j false = true → (∀ k, it.til = some k → ¬ l.getD k false = true) → ∃ v, a.tmps[it.d]? = some v ∧ it.F v w
theorem Chain.get {K : Env → Prop} {ps : List Nat} (hv : ∀ j ∈ ps, ∀ (it : Fct), plan[j]? = some it → ∃ v, a.tmps[it.d]? = some v ∧ it.F v w) : ∀ {e : Env}, Chain plan w K ps e → St n w0 a w e h → ∃ e', K e' ∧ St n w0 a w e' h := by
  induction ps with
  | nil => intro e hc he; exact ⟨e, hc, he⟩
  | cons j r ih =>
    intro e hc he
    unfold Chain at hc
    have hr : ∀ j ∈ r, ∀ (it : Fct), plan[j]? = some it → ∃ v, a.tmps[it.d]? = some v ∧ it.F v w := fun k hk => hv k (List.mem_cons_of_mem _ hk)
    cases hj : plan[j]? with
    | none =>
      rw [hj] at hc
      exact ih hr hc he
    | some it =>
      rw [hj] at hc
      obtain ⟨v, h1, h2⟩ := hv j List.mem_cons_self it hj
      refine ih hr (hc v h2) ⟨he.size, he.defers, fun p hp => ?_, he.below, he.heap, he.own, he.apart⟩
      rcases List.mem_cons.1 hp with rfl | hp
      · exact h1
      · exact he.env p hp
theorem MidF.put {l : Array Bool} (H : MidF plan n w0 e h l a w) {i : Nat} {it : Fct} {v : Value} (hi : plan[i]? = some it) (hlt : it.d < n) (he : ∀ p ∈ e, p.1 ≠ it.d)
    (hd : ∀ (j : Nat) (jt : Fct), plan[j]? = some jt → j ≠ i → jt.d ≠ it.d)
    (hst : ∀ (j : Nat) (jt : Fct), plan[j]? = some jt → j ≠ i → l.getD j false = true → (∀ k, jt.til = some k → ¬ (l.setIfInBounds i true).getD k false = true) → ∀ (v : Value), jt.F v w → jt.F v w')
    (hb : St n w0 a w' e h) (hF : it.F v w') : MidF plan n w0 e h (l.setIfInBounds i true) (a.put (some it.d) v) w' := by
  have hlt' : it.d < a.tmps.size := by rw [H.base.size]; exact hlt
  have keep : ∀ k x, k ≠ it.d → a.tmps[k]? = some x → (a.put (some it.d) v).tmps[k]? = some x := fun k x hne hx => by
    show (a.tmps.setIfInBounds it.d v)[k]? = some x
    rw [Array.getElem?_setIfInBounds_ne (Ne.symm hne)]
    exact hx
  refine ⟨⟨by simp [Act.put, H.base.size], H.base.defers, fun p hp => keep _ _ (he p hp) (H.base.env p hp), hb.below, hb.heap, hb.own, hb.apart⟩, fun j jt hj hl ht => ?_⟩
  by_cases hji : j = i
  · subst hji
    rw [hi] at hj
    injection hj with hj
    subst hj
    refine ⟨v, ?_, hF⟩
    show (a.tmps.setIfInBounds it.d v)[it.d]? = some v
    simp [hlt']
  · have hl' := listed_set hl hji
    obtain ⟨u, h1, h2⟩ := H.vals j jt hj hl' (fun k hk h3 => ht k hk (getD_set_true h3))
    exact ⟨u, keep _ _ (hd j jt hj hji) h1, hst j jt hj hji hl' ht _ h2⟩
theorem dstOkF_get {os : List Oper} {r : List Fct} (hd : dstOkF os r = true) : ∀ (j : Nat) (o : Oper) (it : Fct), os[j]? = some o → r[j]? = some it → o.dst = some it.d := by
  induction os generalizing r with
  | nil => intro j o it h1; cases h1
  | cons o0 os ih =>
    cases r with
    | nil => intro j o it _ h2; cases h2
    | cons it0 r =>
      intro j o it h1 h2
      unfold dstOkF at hd
      rw [Bool.and_eq_true] at hd
      cases j with
      | zero =>
        injection h1 with h1
        injection h2 with h2
        subst h1 h2
        have := hd.1
        cases hdst : o0.dst with
        | none => rw [hdst] at this; cases this
        | some d =>
          rw [hdst] at this
          rw [Nat.eq_of_beq_eq_true this]
      | succ j => exact ih hd.2 j o it h1 h2
theorem psOkF_get {l : List Nat} {r : List Fct} (hp : psOkF l r = true) : ∀ (j m : Nat) (it : Fct), l[j]? = some m → r[j]? = some it → ∀ k ∈ it.ps, m.testBit k = true := by
  induction l generalizing r with
  | nil => intro j m it h1; cases h1
  | cons m0 l ih =>
    cases r with
    | nil => intro j m it _ h2; cases h2
    | cons it0 r =>
      intro j m it h1 h2 k hk
      unfold psOkF at hp
      rw [Bool.and_eq_true] at hp
      cases j with
      | zero =>
        injection h1 with h1
        injection h2 with h2
        subst h1 h2
        exact List.all_eq_true.1 hp.1 k hk
      | succ j => exact ih hp.2 j m it h1 h2 k hk
def Dist (plan : List Fct) (nw : List Nat) (l : Array Bool) (a : Act) : Prop := ∀ (i j : Nat) (it jt : Fct), plan[i]? = some it → plan[j]? = some jt → i ≠ j → i ∈ nw → j ∈ nw → l.getD i false = true → l.getD j false = true → a.tmps[it.d]? ≠ a.tmps[jt.d]?
theorem Dist.put {nw : List Nat} {l : Array Bool} (D : Dist plan nw l a) {i : Nat} {it : Fct} {v : Value} (hi : plan[i]? = some it) (hd : ∀ (j : Nat) (jt : Fct), plan[j]? = some jt → j ≠ i → jt.d ≠ it.d) (hlt : it.d < a.tmps.size)
    (hv : i ∈ nw → ∀ (j : Nat) (jt : Fct), plan[j]? = some jt → j ≠ i → j ∈ nw → l.getD j false = true → a.tmps[jt.d]? ≠ some v) : Dist plan nw (l.setIfInBounds i true) (a.put (some it.d) v) := by
  have hat : ∀ k, (a.put (some it.d) v).tmps[k]? = if it.d = k then some v else a.tmps[k]? := fun k => by
    show (a.tmps.setIfInBounds it.d v)[k]? = _
    rw [Array.getElem?_setIfInBounds]
    by_cases hk : it.d = k
    · rw [if_pos hk, if_pos hk, if_pos hlt]
    · rw [if_neg hk, if_neg hk]
  intro j k jt kt hj hk hne hjn hkn hlj hlk
  rw [hat, hat]
  by_cases h1 : j = i
  · subst h1
    rw [hi] at hj
    injection hj with hj
    subst hj
    rw [if_pos rfl, if_neg (Ne.symm (hd k kt hk (Ne.symm hne)))]
    exact Ne.symm (hv hjn k kt hk (Ne.symm hne) hkn (listed_set hlk (Ne.symm hne)))
  · by_cases h2 : k = i
    · subst h2
      rw [hi] at hk
      injection hk with hk
      subst hk
      rw [if_pos rfl, if_neg (Ne.symm (hd j jt hj hne))]
      exact hv hkn j jt hj hne hjn (listed_set hlj hne)
    · rw [if_neg (Ne.symm (hd j jt hj h1)), if_neg (Ne.symm (hd k kt hk h2))]
      exact D j k jt kt hj hk hne hjn hkn (listed_set hlj h1) (listed_set hlk h2)
theorem Chain.imp {w : World} {K K' : Env → Prop} (h : ∀ e, K e → K' e) : ∀ {js : List Nat} {e : Env}, Chain plan w K js e → Chain plan w K' js e
  | [], e, hc => h e hc
  | j :: r, e, hc => by
    unfold Chain at hc ⊢
    cases hj : plan[j]? with
    | none =>
      rw [hj] at hc
      exact Chain.imp h hc
    | some it =>
      rw [hj] at hc
      exact fun v hv => Chain.imp h (hc v hv)
end
/-- What was there keeps its cells; what is told whole (h) stays as it was. -/
structure Grow (B : Nat) (h : Hep) (w w' : World) : Prop where
  below : Below B w w'
  cells : ∀ p : Addr, p.block < w.heap.size → w'.cell? p = w.cell? p
  objs : ∀ (g : Nat) (C : Array Value) (t : TypeId) (fr : Nat × Nat), w.heap[g]? = some (.cells C t fr) → ∃ fr', w'.heap[g]? = some (.cells C t fr')
  blks : ∀ x ∈ h, x.1 < w.heap.size → w'.heap[x.1]? = w.heap[x.1]?
theorem gro {B : Nat} {h : Hep} {w w' : World} (hb : Below w.heap.size w w') (hB : B ≤ w.heap.size) : Grow B h w w' :=
  ⟨hb.mono hB, fun p hp => hb.cell hp, fun g C t fr hg => ⟨fr, (hb.block g (Array.getElem?_eq_some_iff.1 hg).1).trans hg⟩, fun x _ hx => hb.block x.1 hx⟩
section
variable {P : Program} {n : Nat} {w0 w w' : World} {a : Act} {e : Env} {h : Hep} {Q : Exit → Act → World → Prop} {ops : Array Oper} {rest : List Oper} {o : Oper}
/-- A new variable. -/
def NewF (B : Nat) (h : Hep) (t : Tid) (z : Array Value) (v : Value) (w : World) : Prop := ∃ g, v = .pointer (some ⟨g, 0, none⟩) ∧ Blk w g t z ∧ B ≤ g ∧ ∀ p ∈ h, p.1 ≠ g
theorem St.add (H : St n w0 a w e h) {g : Nat} {t : Tid} {z : Array Value} (hb : Blk w g t z) (ho : w0.heap.size ≤ g) (hn : ∀ p ∈ h, p.1 ≠ g) : St n w0 a w e ((g, t, z) :: h) := by
  refine ⟨H.size, H.defers, H.env, H.below, fun p hp => ?_, fun p hp => ?_, List.pairwise_cons.2 ⟨fun p hp => Ne.symm (hn p hp), H.apart⟩⟩
  · rcases List.mem_cons.1 hp with rfl | hp
    · exact hb
    · exact H.heap p hp
  · rcases List.mem_cons.1 hp with rfl | hp
    · exact ho
    · exact H.own p hp
/-- What was there when this began. -/
theorem blk_old {g : Nat} {t : Tid} {cs : Array Value} (hb : Blk w0 g t cs) (H : St n w0 a w e h) : Blk w g t cs := hb.below H.below hb.lt
theorem does_loadOld {t : TypeId} {x : Operand} {g : Nat} {t' : TypeId} {cs : Array Value} {d : TypeDesc} (ho : o.op = .load t x) (hx : sev e x = some (.pointer (some ⟨g, 0, none⟩))) (hb : Blk w0 g t' cs)
    (hu : P.underlying t = some d) (hd : (match d with | .struct _ | .array _ _ => true | _ => false) = true) (hi : (P.info? t).map (·.size) = some cs.size) : Does P Q n w0 e h o (.agg cs) := fun a w H =>
  wp_load_row t x ho g (H.ev hx) t' cs (0, 0) d (blk_old hb H) hu hd hi ⟨rfl, Below.refl _ _⟩
theorem St.blk (H : St n w0 a w e h) {k g : Nat} {t : Tid} {cs : Array Value} (hk : h[k]? = some (g, t, cs)) : Blk w g t cs := H.heap (g, t, cs) (List.mem_iff_getElem?.2 ⟨k, hk⟩)
/-- What was there is there; what this call made is new to what it begins with now. -/
theorem St.rebase (H : St n w0 a w e h) : St n w a w e [] := ⟨H.size, H.defers, H.env, Below.refl _ _, (fun p hp => by cases hp), (fun p hp => by cases hp), List.Pairwise.nil⟩
/-- A slice of what a pointer leads to, or of a slice. -/
theorem does_slice {t : TypeId} {x : Operand} {lo hi : Option Operand} {u v : Value} {vl vh : Option Value} (ho : o.op = .slice t x lo hi none) (hx : sev e x = some u) (hl : lo.map (sev e) = vl.map some) (hh : hi.map (sev e) = vh.map some)
    (hv : ∀ W, (Instr.sliceAt t u vl vh none).run P W = .ok v W) : Does P Q n w0 e h o v := does_run fun a w H => by
  unfold execOp
  have el : lo.map a.eval = vl := by
    cases lo with
    | none => cases vl with
      | none => rfl
      | some _ => cases hl
    | some x => cases vl with
      | none => cases hl
      | some y => injection hl with hl; exact congrArg some (H.ev hl)
  have eh : hi.map a.eval = vh := by
    cases hi with
    | none => cases vh with
      | none => rfl
      | some _ => cases hh
    | some x => cases vh with
      | none => cases hh
      | some y => injection hh with hh; exact congrArg some (H.ev hh)
  simp only [ho, H.ev hx, el, eh, Option.map_none, Sem.run_bind, hv, Result.andThen_ok, Sem.run_pure]
theorem does_len {x : Operand} {t el : TypeId} {A : Option Addr} {k c : Nat} (hu : P.underlying t = some (.slice el)) (ho : o.op = .call { callee := .builtin .len, args := #[x], argTypes := #[t] }) (hx : sev e x = some (.slice A k c)) : Does P Q n w0 e h o (.int .i64 (k : Int)) := does_run fun a w H => by
  simp [execOp, ho, resolve, invoke, builtin, H.ev hx, Builtin.len_, Builtin.lenOf, goInt, run_underlying hu, Result.andThen]
end
end Go.Proofs.YtonhkclkddobhaaDoor
namespace Go.Proofs.YtonhkclkddobhaaDoor
set_option linter.unusedVariables false
set_option linter.unusedSimpArgs false
open Go Go.RowKit
/-- What writes hangs on r. -/
def ownJ (ms : List Nat) (plan : List Fct) (r : Nat) : Bool := (List.range plan.length).all fun j => match plan[j]? with
  | some jt => !jt.own || (Nat.beq j r || Nat.testBit (closeM ms j (ms.getD j 0)) r)
  | none => true
/-- An operation is wanted and comes to that, or it is off and sets nothing. -/
def ObJ (P : Program) (ops : Array Oper) (Q : Exit → Act → World → Prop) (o : Oper) (a : Act) (w : World) (Post : Act → World → Prop) : Prop := (Region.wanted o (yielded ops a.tmps) = true ∧ o.wp P a w Post Q) ∨ (Region.wanted o (yielded ops a.tmps) = false ∧ Post (a.put o.dst undef) w)
/-- As ObsF; an operation that comes ahead of all that write may ask for J. -/
def ObsJ (P : Program) (R R' : Rel) (J : World → Prop) (ms : List Nat) (ops : Array Oper) (Q : Exit → Act → World → Prop) (n : Nat) (w0 : World) (e : Env) (h : Hep) (plan : List Fct) : Nat → List Oper → List Fct → Prop
  | k, o :: os, it :: t => ((∀ a w, Chain plan w (fun e' => St n w0 a w e' h → (ownJ ms plan k = true → J w) → ObJ P ops Q o a w (fun a' w' => ∃ v, a' = a.put o.dst v ∧ it.rel R R' w w' ∧ it.F v w')) it.ps e) ∧ (∀ v w w', it.F v w → R w w' → it.F v w') ∧ (it.til = none → ∀ v w w', it.F v w → R' w w' → it.F v w')) ∧ ObsJ P R R' J ms ops Q n w0 e h plan (k + 1) os t
  | _, _, _ => True
section
variable {P : Program} {n : Nat} {w0 w w' : World} {a : Act} {e : Env} {h : Hep} {Q : Exit → Act → World → Prop} {ops : Array Oper} {plan : List Fct} {ms : List Nat} {rest : List Oper} {o : Oper} {R R' : Rel}
structure MidJ (J : World → Prop) (plan : List Fct) (n : Nat) (w0 : World) (e : Env) (h : Hep) (l : Array Bool) (a : Act) (w : World) : Prop where
  mid : MidF plan n w0 e h l a w
  jj : (∀ (j : Nat) (it : Fct), plan[j]? = some it → it.own = true → ¬ l.getD j false = true) → J w
theorem ObsJ_get {J : World → Prop} {os : List Oper} {t : List Fct} {k : Nat} (ho : ObsJ P R R' J ms ops Q n w0 e h plan k os t) : ∀ (j : Nat) (o : Oper) (it : Fct), os[j]? = some o → t[j]? = some it → (∀ a w, Chain plan w (fun e' => St n w0 a w e' h → (ownJ ms plan (k + j) = true → J w) → ObJ P ops Q o a w (fun a' w' => ∃ v, a' = a.put o.dst v ∧ it.rel R R' w w' ∧ it.F v w')) it.ps e) ∧ (∀ v w w', it.F v w → R w w' → it.F v w') ∧ (it.til = none → ∀ v w w', it.F v w → R' w w' → it.F v w') := by
  induction os generalizing t k with
  | nil => intro j o it h1; cases h1
  | cons o0 os ih =>
    cases t with
    | nil => intro j o it _ h2; cases h2
    | cons it0 t =>
      intro j o it h1 h2
      obtain ⟨ho1, ho2⟩ := ho
      cases j with
      | zero =>
        injection h1 with h1
        injection h2 with h2
        subst h1 h2
        exact ho1
      | succ j =>
        have := ih ho2 j o it h1 h2
        rw [show k + 1 + j = k + (j + 1) by omega] at this
        exact this
theorem any_planJ {J : World → Prop} (hJ : ∀ w w', J w → R w w' → J w') (hR : ∀ a w w', St n w0 a w e h → R w w' → St n w0 a w' e h) (hR' : ∀ a w w', St n w0 a w e h → R' w w' → St n w0 a w' e h) (hm : masks ops = ms) (hk : planOkF ops n e plan ms = true) (ho : ObsJ P R R' J ms ops Q n w0 e h plan 0 ops.toList plan)
    (tail : ∀ a w, (∀ (j : Nat) (it : Fct), plan[j]? = some it → it.til = none → ∃ v, a.tmps[it.d]? = some v ∧ it.F v w) → St n w0 a w e h → ((∀ (j : Nat) (it : Fct), plan[j]? = some it → it.own = false) → J w) → wpList P ops Q (ops.toList.drop plan.length) a w) :
    ∀ (fuel : Nat) (l : Array Bool) (a : Act) (w : World), l.size = ops.size → Down ops l → (∀ i, plan.length ≤ i → ¬ l.getD i false = true) → ops.size - plan.length + left l plan.length ≤ fuel → MidJ J plan n w0 e h l a w → wpAny P .any ops Q fuel l a w := by
  unfold planOkF at hk
  simp only [Bool.and_eq_true] at hk
  obtain ⟨⟨⟨⟨⟨⟨⟨⟨k1, k2⟩, k3⟩, k4⟩, k5⟩, k6⟩, k7⟩, k8⟩, k9⟩ := hk
  have hlen : plan.length ≤ ops.size := Nat.le_of_ble_eq_true k1
  have hmsl : ms.length = ops.size := by rw [← hm]; simp [masks]
  have after_all : ∀ (l : Array Bool) (i : Nat), l.size = ops.size → Down ops l → (∀ i, plan.length ≤ i → ¬ l.getD i false = true) → i ∈ Region.ready .any ops l → plan.length ≤ i → ∀ j, j < plan.length → l.getD j false = true := by
    intro l i hs hd hB hr hge
    obtain ⟨_, o, hoo, _⟩ := mem_ready.1 hr
    have hilt : i < ops.size := (Array.getElem?_eq_some_iff.1 hoo).1
    have hg := masks_get hm hoo
    have e2 : ms.getD i 0 = maskOf (waits o) := by simp [hg]
    have hlist : ∀ j, (closeM ms i (maskOf (waits o))).testBit j = true → l.getD j false = true := fun j hc => close_listed hm hd hs i (maskOf (waits o)) (fun j hj => ready_waits hm hr j (by rw [e2]; exact hj)) j hc
    have hg2 : (ms.drop plan.length)[i - plan.length]? = some (maskOf (waits o)) := by
      rw [List.getElem?_drop, show plan.length + (i - plan.length) = i by omega]
      exact hg
    have him : i = plan.length := by
      apply Nat.le_antisymm _ hge
      apply Nat.le_of_not_lt
      intro hlt
      have hc := lineUp_get (Nat.le_refl _) k7 (i - plan.length) _ hg2 plan.length (Nat.le_refl _) (by omega)
      rw [show plan.length + (i - plan.length) = i by omega] at hc
      exact hB plan.length (Nat.le_refl _) (hlist _ hc)
    subst him
    have hdr : ms.drop plan.length = maskOf (waits o) :: ms.drop (plan.length + 1) := by
      have hlt2 : plan.length < ms.length := by omega
      rw [List.drop_eq_getElem_cons hlt2]
      congr 1
      rw [List.getElem?_eq_getElem hlt2] at hg
      exact Option.some.inj hg
    rw [hdr] at k8
    unfold headOkF at k8
    intro j hj
    have hbit : (Nat.shiftLeft 1 plan.length - 1).testBit j = true := by rw [low_bit]; exact decide_eq_true hj
    exact hlist j (sub2_get k8 hbit)
  have fin : ∀ (fuel : Nat) (l : Array Bool) (a : Act) (w : World), l.size = ops.size → (∀ i, plan.length ≤ i → ¬ l.getD i false = true) → (∀ j, j < plan.length → l.getD j false = true) → ops.size - plan.length ≤ fuel → MidJ J plan n w0 e h l a w → wpAny P .any ops Q fuel l a w := by
    intro fuel l a w hs hB hall hf HJ
    have H := HJ.mid
    refine any_tail hm k2 k7 fuel plan.length l a w (Nat.le_refl _) hlen hf hs (fun i hi => ⟨fun h1 => ?_, fun h1 => hall i h1⟩) (tail a w (fun j it hj ht => H.vals j it hj (hall j (List.getElem?_eq_some_iff.1 hj).1) (fun k hk => by rw [ht] at hk; cases hk)) H.base (fun hno => HJ.jj fun j it hj hown => by rw [hno j it hj] at hown; cases hown))
    exact Classical.byContradiction fun hn => hB i (by omega) h1
  intro fuel
  induction fuel with
  | zero =>
    intro l a w hs hd hB hf HJ
    exact fin 0 l a w hs hB (left_zero (by omega)) (by omega) HJ
  | succ fuel ih =>
    intro l a w hs hd hB hf HJ
    have H := HJ.mid
    by_cases hall : ∀ j, j < plan.length → l.getD j false = true
    · exact fin _ l a w hs hB hall (by omega) HJ
    have hex : ∃ i, i < plan.length ∧ ¬ l.getD i false = true := Classical.byContradiction fun hn => hall fun j hj => Classical.byContradiction fun hu => hn ⟨j, hj, hu⟩
    obtain ⟨i0, hi0, hu0, hlow⟩ := first_left _ hex
    refine ⟨fun hnil => ?_, fun i hr => ?_⟩
    · exfalso
      have hlt : i0 < ops.size := by omega
      have hin : i0 ∈ Region.ready .any ops l := by
        refine mem_ready.2 ⟨?_, ops[i0], Array.getElem?_eq_getElem hlt, fun x hx hb => hlow _ ?_⟩
        · have hl2 : i0 < l.size := by omega
          simp [Array.getElem?_eq_getElem hl2] at hu0 ⊢
          exact hu0
        · have hg := masks_get hm (Array.getElem?_eq_getElem hlt)
          have hx2 : (maskOf (waits ops[i0])).testBit x.on = true := maskOf_bit.2 (mem_waits.2 ⟨x, hx, hb, rfl⟩)
          have := downs_get k2 i0 _ hg x.on hx2
          omega
      rw [hnil] at hin
      cases hin
    · have hu := not_listed hr
      have hilt : i < plan.length := by
        apply Nat.lt_of_not_le
        intro hge
        exact hu0 (after_all l i hs hd hB hr hge i0 hi0)
      have hios : i < ops.size := by omega
      have hit : plan[i]? = some plan[i] := List.getElem?_eq_getElem hilt
      have hoi : ops[i]? = some ops[i] := Array.getElem?_eq_getElem hios
      have hoi2 : ops.toList[i]? = some ops[i] := by simp [hios]
      have hob := ObsJ_get ho i _ _ hoi2 hit
      rw [Nat.zero_add] at hob
      have hdst := dstOkF_get k4 i _ _ hoi2 hit
      have hg := masks_get hm hoi
      have e2 : ms.getD i 0 = maskOf (waits ops[i]) := by simp [hg]
      have hps : ∀ j ∈ plan[i].ps, l.getD j false = true := fun j hj => ready_waits hm hr j (by rw [e2]; exact psOkF_get k3 i _ _ hg hit j hj)
      have h6 := List.all_eq_true.1 k6 _ (List.getElem_mem hilt)
      rw [Bool.and_eq_true] at h6
      have hdn : plan[i].d < n := by
        have := h6.1
        rw [Nat.blt_eq] at this
        exact this
      have hen : ∀ p ∈ e, p.1 ≠ plan[i].d := fun p hp e1 => by
        have := List.all_eq_true.1 h6.2 p hp
        rw [e1, Nat.beq_refl] at this
        cases this
      have hdd : ∀ j jt, plan[j]? = some jt → j ≠ i → jt.d ≠ plan[i].d := fun j jt hj hne =>
        distinct_get k5 j i jt.d plan[i].d (by rw [List.getElem?_map, hj]; rfl) (by rw [List.getElem?_map, hit]; rfl) hne
      have hs2 : (l.setIfInBounds i true).size = ops.size := by simpa using hs
      have hd2 := down_set hd hr
      have hB2 : ∀ j, plan.length ≤ j → ¬ (l.setIfInBounds i true).getD j false = true := fun j hj hl => hB j hj (listed_set hl (by omega))
      have hf2 : ops.size - plan.length + left (l.setIfInBounds i true) plan.length ≤ fuel := by
        have := left_set (l := l) (i := i) (by omega) hu plan.length hilt
        omega
      unfold wpOp
      rw [hoi]
      dsimp only
      have hin := List.all_eq_true.1 k9 i (List.mem_range.2 hilt)
      rw [hit] at hin
      simp only [Bool.and_eq_true] at hin
      obtain ⟨hin1, hin2⟩ := hin
      obtain ⟨e', hob2, hst⟩ := Chain.get (fun j hj it hjt => H.vals j it hjt (hps j hj) (fun k hk hl => by
        have := List.all_eq_true.1 hin1 j hj
        unfold tilOk at this
        rw [hjt] at this
        simp only [hk] at this
        rw [Nat.eq_of_beq_eq_true this] at hl
        exact hu hl)) (hob.1 a w) H.base
      have hob3 := hob2 hst (fun hoj => HJ.jj (fun j jt hj hown hl => by
        have hjp : j < plan.length := (List.getElem?_eq_some_iff.1 hj).1
        have hc := List.all_eq_true.1 hoj j (List.mem_range.2 hjp)
        rw [hj] at hc
        simp only [hown, Bool.not_true, Bool.false_or, Bool.or_eq_true] at hc
        rcases hc with hc | hc
        · rw [Nat.eq_of_beq_eq_true hc] at hl
          exact hu hl
        · have hjo : j < ops.size := by omega
          have hgj := masks_get hm (Array.getElem?_eq_getElem hjo)
          have e3 : ms.getD j 0 = maskOf (waits ops[j]) := by simp [hgj]
          refine hu (close_listed hm hd hs j _ (fun m hm2 => ?_) i hc)
          rw [e3, maskOf_bit, mem_waits] at hm2
          obtain ⟨x, hx, hb3, rfl⟩ := hm2
          exact hd j _ (Array.getElem?_eq_getElem hjo) hl x hx hb3))
      have fin : ∀ a' w', (∃ v, a' = a.put ops[i].dst v ∧ plan[i].rel R R' w w' ∧ plan[i].F v w') → wpAny P .any ops Q fuel (l.setIfInBounds i true) a' w' := ?_
      · rcases hob3 with ⟨hw, hwp2⟩ | ⟨hw, hp⟩
        · rw [hw, if_pos rfl]
          exact .inl (Oper.wp_mono fin hwp2)
        · rw [hw, if_neg (by decide)]
          exact fin _ _ hp
      intro a' w' hx
      obtain ⟨v, rfl, hb, hF⟩ := hx
      rw [hdst]
      have stab : ∀ (j : Nat) (jt : Fct), plan[j]? = some jt → (∀ v w w', jt.F v w → R w w' → jt.F v w') ∧ (jt.til = none → ∀ v w w', jt.F v w → R' w w' → jt.F v w') := fun j jt hj => by
        have hjl : j < ops.size := by have := (List.getElem?_eq_some_iff.1 hj).1; omega
        exact (ObsJ_get ho j ops[j] jt (by simp [hjl]) hj).2
      have hil : i < l.size := by omega
      cases hown : plan[i].own with
      | false =>
        unfold Fct.rel at hb
        rw [hown] at hb
        exact ih _ _ _ hs2 hd2 hB2 hf2 ⟨H.put hit hdn hen hdd (fun j jt hj _ _ _ v hv => (stab j jt hj).1 v w w' hv hb) (hR _ _ _ H.base hb) hF, fun hn => hJ _ _ (HJ.jj fun j jt hj hown hl => hn j jt hj hown (getD_set_true hl)) hb⟩
      | true =>
        unfold Fct.rel at hb
        rw [hown] at hb
        rw [hown] at hin2
        have hin2 : ownOk ms plan i = true := by simpa using hin2
        refine ih _ _ _ hs2 hd2 hB2 hf2 ⟨H.put hit hdn hen hdd (fun j jt hj hne hl ht v hv => ?_) (hR' _ _ _ H.base hb) hF, fun hn => ?_⟩
        rotate_left
        · exact absurd (by simp [hil]) (hn i _ hit hown)
        cases htil : jt.til with
        | none => exact (stab j jt hj).2 htil v w w' hv hb
        | some k =>
          exfalso
          have hnk := ht k htil
          have hjp : j < plan.length := (List.getElem?_eq_some_iff.1 hj).1
          have hc := List.all_eq_true.1 hin2 j (List.mem_range.2 hjp)
          rw [hj] at hc
          simp only [htil, Bool.or_eq_true] at hc
          rcases hc with ((hc | hc) | hc) | hc
          · rw [Nat.eq_of_beq_eq_true hc] at hnk
            exact hnk (by simp [show i < l.size by omega])
          · exact hne (Nat.eq_of_beq_eq_true hc)
          · exact hnk (getD_set_true (close_listed hm hd hs i _ (ready_waits hm hr) k hc))
          · have hjo : j < ops.size := by omega
            have hgj := masks_get hm (Array.getElem?_eq_getElem hjo)
            have e3 : ms.getD j 0 = maskOf (waits ops[j]) := by simp [hgj]
            refine hu (close_listed hm hd hs j _ (fun m hm2 => ?_) i hc)
            rw [e3, maskOf_bit, mem_waits] at hm2
            obtain ⟨x, hx, hb3, rfl⟩ := hm2
            exact hd j _ (Array.getElem?_eq_getElem hjo) hl x hx hb3
end
end Go.Proofs.YtonhkclkddobhaaDoor
namespace Go.Proofs.YtonhkclkddobhaaDoor
set_option linter.unusedVariables false
set_option linter.unusedSimpArgs false
open Go Go.RowKit
def oldOk (plan : List Fct) (x : Nat × Value × Nat) : Bool := match plan[x.2.2]? with
  | some it => Nat.beq it.d x.1
  | none => false
section
variable {P : Program} {n : Nat} {w0 w w' : World} {a : Act} {e : Env} {h : Hep} {Q : Exit → Act → World → Prop} {ops : Array Oper} {plan : List Fct} {ms : List Nat} {rest : List Oper} {o : Oper} {R R' : Rel}
structure MidO (olds : List (Nat × Value × Nat)) (plan : List Fct) (n : Nat) (w0 : World) (e : Env) (h : Hep) (l : Array Bool) (a : Act) (w : World) : Prop extends MidF plan n w0 e h l a w where
  old : ∀ x ∈ olds, ¬ l.getD x.2.2 false = true → a.tmps[x.1]? = some x.2.1
theorem MidO.put {olds : List (Nat × Value × Nat)} (hold : olds.all (oldOk plan) = true) {l : Array Bool} (H : MidO olds plan n w0 e h l a w) {i : Nat} {it : Fct} {v : Value} (hi : plan[i]? = some it) (hlt : it.d < n) (he : ∀ p ∈ e, p.1 ≠ it.d)
    (hd : ∀ (j : Nat) (jt : Fct), plan[j]? = some jt → j ≠ i → jt.d ≠ it.d) (hil : i < l.size)
    (hst : ∀ (j : Nat) (jt : Fct), plan[j]? = some jt → j ≠ i → l.getD j false = true → (∀ k, jt.til = some k → ¬ (l.setIfInBounds i true).getD k false = true) → ∀ (v : Value), jt.F v w → jt.F v w')
    (hb : St n w0 a w' e h) (hF : it.F v w') : MidO olds plan n w0 e h (l.setIfInBounds i true) (a.put (some it.d) v) w' := by
  refine ⟨H.toMidF.put hi hlt he hd hst hb hF, fun x hx hl => ?_⟩
  have h1 := List.all_eq_true.1 hold x hx
  have hne : x.2.2 ≠ i := fun e1 => hl (by rw [e1]; simp [hil])
  have h2 : ¬ l.getD x.2.2 false = true := fun h2 => hl (getD_set_true h2)
  have h3 : x.1 ≠ it.d := by
    unfold oldOk at h1
    cases hj : plan[x.2.2]? with
    | none => rw [hj] at h1; cases h1
    | some jt =>
      rw [hj] at h1
      rw [← Nat.eq_of_beq_eq_true h1]
      exact hd _ jt hj hne
  show (a.tmps.setIfInBounds it.d v)[x.1]? = _
  rw [Array.getElem?_setIfInBounds_ne (Ne.symm h3)]
  exact H.old x hx h2
end
end Go.Proofs.YtonhkclkddobhaaDoor
namespace Go.Proofs.YtonhkclkddobhaaDoor
set_option linter.unusedVariables false
set_option linter.unusedSimpArgs false
open Go Go.RowKit
section
variable {P : Program} {n : Nat} {w0 w w' : World} {a : Act} {e : Env} {h : Hep} {Q : Exit → Act → World → Prop} {ops : Array Oper} {plan : List It} {ms : List Nat} {rest : List Oper} {o : Oper}
structure MidSO (olds : List (Nat × Value × Nat)) (plan : List It) (n : Nat) (w0 : World) (e : Env) (h : Hep) (l : Array Bool) (G : Nat → Nat) (a : Act) (w : World) : Prop extends MidS plan n w0 e h l G a w where
  old : ∀ x ∈ olds, ¬ l.getD x.2.2 false = true → a.tmps[x.1]? = some x.2.1
theorem St.olds {d oe : Env} (H : St n w0 a w (d ++ e) h) (ho : ∀ p ∈ oe, a.tmps[p.1]? = some p.2) : St n w0 a w (d ++ (oe ++ e)) h := by
  refine ⟨H.size, H.defers, fun p hp => ?_, H.below, H.heap, H.own, H.apart⟩
  rcases List.mem_append.1 hp with hp | hp
  · exact H.env p (List.mem_append_left _ hp)
  · rcases List.mem_append.1 hp with hp | hp
    · exact ho p hp
    · exact H.env p (List.mem_append_right _ hp)
end
end Go.Proofs.YtonhkclkddobhaaDoor
namespace Go.Proofs.YtonhkclkddobhaaDoor
set_option linter.unusedVariables false
set_option linter.unusedSimpArgs false
open Go Go.RowKit
def wc (x : UInt32) : Value := .int .u32 (x.toNat : Int)
/-- n bytes. -/
def rb (n : Nat) (f : Nat → UInt8) : List UInt8 := (List.range n).map f
theorem rb_len (n : Nat) (f : Nat → UInt8) : (rb n f).length = n := by simp [rb]
theorem rb_get {n i : Nat} (h : i < n) (f : Nat → UInt8) : (rb n f)[i]? = some (f i) := by simp [rb, h]
theorem rb_ext {n : Nat} {f g : Nat → UInt8} (h : ∀ i, i < n → f i = g i) : rb n f = rb n g := List.map_congr_left fun i hi => h i (List.mem_range.1 hi)
section
variable {P : Program} {t : TypeId}
end
end Go.Proofs.YtonhkclkddobhaaDoor
namespace Go.Proofs.YtonhkclkddobhaaDoor
set_option linter.unusedVariables false
set_option linter.unusedSimpArgs false
set_option maxRecDepth 100000
open Go Go.RowKit
def BF (l : List UInt8) (v : Value) (w : World) : Prop := ∃ A n c, v = .slice A n c ∧ BS w w.heap.size A n c l
section
variable {B : Nat} {h : Hep}
theorem BF.grow {l : List UInt8} : ∀ (v : Value) (w w' : World), BF l v w → Grow B h w w' → BF l v w' := fun v w w' ⟨A, n, c, e, h⟩ hb => ⟨A, n, c, e, (h.keep hb.cells).more hb.below.size⟩
end
theorem BF.below {l : List UInt8} {v : Value} {w w' : World} (hv : BF l v w) (hb : Below w.heap.size w w') : BF l v w' := BF.grow (B := 0) (h := []) _ _ _ hv (gro hb (Nat.zero_le _))
theorem BF.nil (w : World) : BF [] (.slice none 0 0) w := ⟨_, _, _, rfl, BS.nil _ _⟩
/-- Nothing that was there is touched. -/
abbrev SB : Rel := fun w w' => Below w.heap.size w w'
/-- One block alone of the call's own bytes is written on. -/
def WR (B : Nat) (h : Hep) : Rel := fun w w' => ∃ row, w.grownBy w' row ∧ ∀ g, row = some g → B ≤ g ∧ (∀ p ∈ h, p.1 ≠ g) ∧ ∃ cur, w.heap[g]? = some (.cells cur 5 (0, 0))
/-- Bytes of the call's own, apart from what is told. -/
def OF (B : Nat) (h : Hep) (l : List UInt8) (v : Value) (w : World) : Prop := OwnB w B 5 v l ∧ ∀ g, v.ownBlock = some g → ∀ p ∈ h, p.1 ≠ g
/-- A row of which the first n cells are these; all of it is the slice's. -/
structure UC (cur : Array Value) (n cap : Nat) (l : List Value) : Prop where
  le : n ≤ cap
  max : cap ≤ maxLen
  size : cur.size = cap
  take : cur.toList.take n = l
  len : l.length = n
theorem UC.at_ {cur : Array Value} {n cap : Nat} {l : List Value} (h : UC cur n cap l) {j : Nat} {u : Value} (hj : l[j]? = some u) : cur[j]? = some u := by
  rw [← h.take, List.getElem?_take] at hj
  split at hj
  · rw [← Array.getElem?_toList]
    exact hj
  · cases hj
section
variable {P : Program} {n : Nat} {w0 w w' : World} {a : Act} {e : Env} {h : Hep} {Q : Exit → Act → World → Prop} {ops : Array Oper} {o : Oper}
theorem sb_st : ∀ (a : Act) (w w' : World), St n w0 a w e h → SB w w' → St n w0 a w' e h := fun _ _ _ H hb => H.call hb
theorem wr_st : ∀ (a : Act) (w w' : World), St n w0 a w e h → WR w0.heap.size h w w' → St n w0 a w' e h := fun a w w' H ⟨row, hg, hr⟩ =>
  ⟨H.size, H.defers, H.env, H.below.grown hg H.below.size (fun g hg' => (hr g hg').1), fun p hp => (H.heap p hp).as (hg.block p.1 (H.heap p hp).lt (fun e => (hr p.1 e.symm).2.1 p hp rfl)), H.own, H.apart⟩
abbrev ObS (P : Program) (ops : Array Oper) (Q : Exit → Act → World → Prop) (o : Oper) (a : Act) (w : World) (F : Value → World → Prop) : Prop :=
  Region.wanted o (yielded ops a.tmps) = true ∧ o.wp P a w (fun a' w' => ∃ v, a' = a.put o.dst v ∧ SB w w' ∧ F v w') Q
theorem ob_runR {R : Rel} {F : Value → World → Prop} (H : St n w0 a w e h) (hw : ∀ a w, St n w0 a w e h → Region.wanted o (yielded ops a.tmps) = true) (hr : ∃ v w', (execOp a.eval o).run P w = .ok (.value v) w' ∧ R w w' ∧ F v w') :
    Region.wanted o (yielded ops a.tmps) = true ∧ o.wp P a w (fun a' w' => ∃ v, a' = a.put o.dst v ∧ R w w' ∧ F v w') Q := by
  refine ⟨hw a w H, ?_⟩
  obtain ⟨v, w', h1, h2, h3⟩ := hr
  unfold Oper.wp
  rw [h1]
  exact ⟨v, rfl, h2, h3⟩
theorem ob_callS {f : FuncId} {args : List Operand} {tys : Array TypeId} {vs : List Value} {F : Value → World → Prop} (H : St n w0 a w e h) (hw : ∀ a w, St n w0 a w e h → Region.wanted o (yielded ops a.tmps) = true)
    (ho : o.op = .call { callee := .value (.func f), args := args.toArray, argTypes := tys }) (hf : Ours P f) (hx : sevs e args = some vs)
    (hc : Calls P f vs.toArray w (fun r W' => ∃ v, r = .returned v ∧ Below w.heap.size w W' ∧ F v W')) : ObS P ops Q o a w F := by
  refine ⟨hw a w H, ?_⟩
  unfold Oper.wp
  rw [run_call ho hf rfl, H.evs hx, Oper.upon_enter]
  refine hc.mono ?_
  rintro r W' ⟨v, rfl, hb, hF⟩
  exact ⟨v, rfl, hb, hF⟩
theorem ob_calS {f : FuncId} {args : List Operand} {tys : Array TypeId} {vs : List Value} {V : Value} (H : St n w0 a w e h) (hw : ∀ a w, St n w0 a w e h → Region.wanted o (yielded ops a.tmps) = true)
    (ho : o.op = .call { callee := .value (.func f), args := args.toArray, argTypes := tys }) (hf : Ours P f) (hx : sevs e args = some vs)
    (hc : Calls P f vs.toArray w (fun r W' => r = .returned V ∧ Below w.heap.size w W')) : ObS P ops Q o a w (fun v _ => v = V) :=
  ob_callS H hw ho hf hx (hc.mono fun r W' ⟨h1, h2⟩ => ⟨V, h1, h2, rfl⟩)
end
section
variable {n : Nat} {w0 w w' : World} {a : Act} {e : Env} {h : Hep} {Q : Exit → Act → World → Prop} {ops : Array Oper} {o : Oper}
theorem u8_info : (Tryd.prog.info? 5).map (fun i => (i.zero, i.size, i.bytes)) = some (some (.int .u8 0), 1, 1) := by kernel_rfl
theorem grown_none {w w' : World} (h : w.grownBy w' none) : SB w w' := (Below.refl _ _).grown h (Nat.le_refl _) (fun g e => by cases e)
theorem of_after {B : Nat} {h : Hep} {l : List UInt8} {v v' : Value} {w w' : World} (H : St n w0 a w e h) (hv : ∀ g, v.ownBlock = some g → ∀ p ∈ h, p.1 ≠ g) (h2 : v'.ownBlock = v.ownBlock ∨ v'.ownBlock = some w.heap.size) (ho : OwnB w' B 5 v' l) : OF B h l v' w' := by
  refine ⟨ho, fun g hg p hp => ?_⟩
  rcases h2 with h2 | h2
  · exact hv g (h2 ▸ hg) p hp
  · rw [h2] at hg
    injection hg with hg
    subst hg
    exact Nat.ne_of_lt (H.heap p hp).lt
/-- 'append(v, x...)', v the call's own. -/
theorem ob_appW {x y : Operand} {v u : Value} {l m : List UInt8} (H : St n w0 a w e h) (hw : ∀ a w, St n w0 a w e h → Region.wanted o (yielded ops a.tmps) = true) (ho : o.op = .call { callee := .builtin .append, args := #[x, y], argTypes := #[23, 23] })
    (hx : sev e x = some v) (hy : sev e y = some u) (hv : OF w0.heap.size h l v w) (hu : BF m u w) (hs : l.length + m.length ≤ 1000000) :
    Region.wanted o (yielded ops a.tmps) = true ∧ o.wp Tryd.prog a w (fun a' w' => ∃ v, a' = a.put o.dst v ∧ WR w0.heap.size h w w' ∧ OF w0.heap.size h (l ++ m) v w') Q := by
  refine ob_runR H hw ?_
  obtain ⟨A, k, c, rfl, hr⟩ := hu
  have hk := hr.len
  obtain ⟨hown, hap⟩ := hv
  obtain ⟨v', w', h1, h2, h3, h4⟩ := run_app_own (P := Tryd.prog) (w := w) 23 o.type 5 Tryd.underlying23 u8_info w0.heap.size v l hown _ k c A m hr (by omega) H.below.size
  refine ⟨v', w', ?_, ⟨_, h3, fun g hg => ⟨(hown.own hg).1, fun p hp => hap g hg p hp, ?_⟩⟩, of_after H hap h4 h2⟩
  · simp [execOp, ho, resolve, invoke, builtin, H.ev hx, H.ev hy, h1, Result.andThen]
  · rcases hown.2 with ⟨rfl, _⟩ | ⟨g', cap, cur, rfl, _, hh, _⟩
    · cases hg
    · injection hg with hg
      subst hg
      exact ⟨cur, hh⟩
end
theorem BF.sb {l : List UInt8} : ∀ (v : Value) (w w' : World), BF l v w → SB w w' → BF l v w' := fun v w w' h hb => BF.below h hb
theorem NewF.sb {B : Nat} {h : Hep} {t : TypeId} {z : Array Value} : ∀ (v : Value) (w w' : World), NewF B h t z v w → SB w w' → NewF B h t z v w' := fun v w w' ⟨g, e, hb, h1, h2⟩ hs => ⟨g, e, hb.below hs hb.lt, h1, h2⟩
theorem OF.sb {B : Nat} {h : Hep} {l : List UInt8} : ∀ (v : Value) (w w' : World), OF B h l v w → SB w w' → OF B h l v w' := fun v w w' ⟨ho, ha⟩ hb => by
  refine ⟨⟨ho.1, ho.2.imp id ?_⟩, ha⟩
  rintro ⟨g, cap, cur, rfl, h1, hh, r⟩
  exact ⟨g, cap, cur, rfl, h1, (hb.block g (Array.getElem?_eq_some_iff.1 hh).1).trans hh, r⟩
theorem OF.bf {B : Nat} {h : Hep} {l : List UInt8} {v : Value} {w : World} (hv : OF B h l v w) : BF l v w := by
  obtain ⟨A, n, c, e, hb, _⟩ := hv.1.form
  exact ⟨A, n, c, e, hb⟩
section
variable {n : Nat} {w0 w w' : World} {a : Act} {e : Env} {h : Hep}
theorem bf_old {l : List UInt8} {v : Value} (hm : BF l v w0) (H : St n w0 a w e h) : BF l v w := BF.grow (B := 0) (h := []) _ _ _ hm (gro H.below (Nat.zero_le _))
end
structure Kn (w0 w : World) (h : Hep) : Prop where
  below : Below w0.heap.size w0 w
  heap : ∀ p ∈ h, Blk w p.1 p.2.1 p.2.2
  own : ∀ p ∈ h, w0.heap.size ≤ p.1
  apart : h.Pairwise (fun p q => p.1 ≠ q.1)
section
variable {P : Program} {n : Nat} {w0 w w' : World} {a : Act} {e : Env} {h h' : Hep} {Q : Exit → Act → World → Prop} {ops : Array Oper} {rest : List Oper} {o : Oper}
theorem St.kn (H : St n w0 a w e h) : Kn w0 w h := ⟨H.below, H.heap, H.own, H.apart⟩
theorem St.again {w1 : World} (H : St n w1 a w e h) (K : Kn w0 w' h') : St n w0 a w' e h' := ⟨H.size, H.defers, H.env, K.below, K.heap, K.own, K.apart⟩
theorem calls_kn {f : FuncId} {fn : Func} {c : Code} {vs : List Value} {R : Ending → World → Prop} (n : Nat) (hf : P.funcs[f]? = some fn) (hb : fn.body = some c) (hn : fn.ntmps = n) (hl : Nat.ble vs.length n = true)
    (K : Kn w0 w h) (hc : ∀ a W, St n w0 a W (fills 0 vs) h → c.wp P (bodyPost P fn R) a W) : Calls P f vs.toArray w R := by
  subst hn
  exact calls_of_wp hf hb (hc _ _ ((St.start vs _ w (Nat.le_of_ble_eq_true hl)).again K))
theorem end_none {fn : Func} {R : Ending → World → Prop} (hr : fn.results = #[]) (H : St n w0 a w e h) (hR : Kn w0 w h → R (.returned (.tuple #[])) w) : bodyPost P fn R .normal a w := by
  refine ⟨H.defers, .tuple #[], ?_, hR H.kn⟩
  simp [results, hr]
/-- A cell that was there at the beginning. -/
theorem does_loadCell {t : TypeId} {x : Operand} {g f : Nat} {v : Value} (ho : o.op = .load t x) (hx : sev e x = some (.pointer (some ⟨g, f, none⟩))) (hw : w0.cell? ⟨g, f, none⟩ = some v) (hg : g < w0.heap.size)
    (hv : ∀ W, W.cell? ⟨g, f, none⟩ = some v → (Instr.loadAt t (.pointer (some ⟨g, f, none⟩))).run P W = .ok v W) : Does P Q n w0 e h o v := does_run fun a w H => by
  unfold execOp
  have hc : w.cell? ⟨g, f, none⟩ = some v := (H.below.cell (p := ⟨g, f, none⟩) hg).trans hw
  simp only [ho, H.ev hx, Sem.run_bind, hv w hc, Result.andThen_ok, Sem.run_pure]
end
end Go.Proofs.YtonhkclkddobhaaDoor
namespace Go.Proofs.YtonhkclkddobhaaDoor
set_option linter.unusedVariables false
set_option linter.unusedSimpArgs false
open Go Go.RowKit
/-- Facts of a world, one behind the other. -/
def GS : List (World → Prop) → World → Prop
  | [], _ => True
  | F :: r, w => F w ∧ GS r w
/-- It lasts while nothing that was there is touched. -/
class Lasts (F : World → Prop) : Prop where
  lasts : ∀ w w', F w → Below w.heap.size w w' → F w'
class LastsL (G : List (World → Prop)) : Prop where
  all : ∀ w w', GS G w → Below w.heap.size w w' → GS G w'
instance : LastsL [] := ⟨fun _ _ _ _ => trivial⟩
instance {F : World → Prop} {G : List (World → Prop)} [h1 : Lasts F] [h2 : LastsL G] : LastsL (F :: G) := ⟨fun w w' h hb => ⟨h1.lasts w w' h.1 hb, h2.all w w' h.2 hb⟩⟩
instance {l : List UInt8} {v : Value} : Lasts (BF l v) := ⟨fun w w' h hb => BF.sb _ _ _ h hb⟩
instance {B : Nat} {h : Hep} {l : List UInt8} {v : Value} : Lasts (OF B h l v) := ⟨fun w w' h hb => OF.sb _ _ _ h hb⟩
/-- A list, picked: 1 stays, 0 goes; what is behind stays. -/
class KM {α : Type} (m : List Nat) (l : List α) (r : outParam (List α)) : Prop where
  sub : r.Sublist l
instance {α : Type} {l : List α} : KM [] l l := ⟨List.Sublist.refl _⟩
instance {α : Type} {m : List Nat} {x : α} {l r : List α} [h : KM m l r] : KM (1 :: m) (x :: l) (x :: r) := ⟨h.sub.cons_cons x⟩
instance {α : Type} {m : List Nat} {x : α} {l r : List α} [h : KM m l r] : KM (0 :: m) (x :: l) r := ⟨h.sub.cons x⟩
/-- One of a list told otherwise: its place is where the 1 is. -/
class SM {α : Type} (m : List Nat) (x : α) (y : outParam α) (l : List α) (r : outParam (List α)) : Prop where
  at_ : ∃ k, l[k]? = some y ∧ r = l.set k x
instance {α : Type} {x y : α} {l : List α} : SM [1] x y (y :: l) (x :: l) := ⟨0, rfl, rfl⟩
instance {α : Type} {m : List Nat} {x y z : α} {l r : List α} [h : SM m x y l r] : SM (0 :: m) x y (z :: l) (z :: r) := ⟨by
  obtain ⟨k, h1, h2⟩ := h.at_
  exact ⟨k + 1, h1, by rw [h2]; rfl⟩⟩
theorem GS.keep {l r : List (World → Prop)} (h : r.Sublist l) {w : World} (g : GS l w) : GS r w := by
  induction h with
  | slnil => exact g
  | cons x _ ih => exact ih g.2
  | cons_cons x _ ih => exact ⟨g.1, ih g.2⟩
theorem gs0 {w : World} : GS [] w := trivial
theorem gsC {F : World → Prop} {G : List (World → Prop)} {w : World} (h : F w) (g : GS G w) : GS (F :: G) w := ⟨h, g⟩
def lk : Env → Nat → Option Value
  | [], _ => none
  | (k', v) :: r, k => bif Nat.beq k' k then some v else lk r k
theorem lk_mem {e : Env} {k : Nat} {v : Value} (h : lk e k = some v) : (k, v) ∈ e := by
  induction e with
  | nil => cases h
  | cons p r ih =>
    obtain ⟨k', v'⟩ := p
    unfold lk at h
    cases hb : Nat.beq k' k with
    | true =>
      rw [hb] at h
      have hk := Nat.eq_of_beq_eq_true hb
      injection h with h
      subst h
      subst hk
      exact List.mem_cons_self
    | false =>
      rw [hb] at h
      exact List.mem_cons_of_mem _ (ih h)
def ev1 (e : Env) : Operand → Option Value
  | .tmp k => lk e k
  | .const v => some v
  | .global g => some (.pointer (some ⟨g, 0, none⟩))
  | .func f => some (.func (.func f) #[] #[])
/-- What an operation comes to that but hands on what it is given. -/
def simV (e : Env) : Op → Option Value
  | .move x => ev1 e x
  | .assign x => ev1 e x
  | .pick c x y => match ev1 e c with
    | some (.bool true) => ev1 e x
    | some (.bool false) => ev1 e y
    | _ => none
  | .extract x k => match ev1 e x with
    | some (.tuple vs) => vs[k]?
    | _ => none
  | .unOp .not _ x => match ev1 e x with
    | some (.bool b) => some (.bool (!b))
    | _ => none
  | _ => none
/-- Is it wanted? -/
def wantS (ops : Array Oper) (e : Env) (o : Oper) : Option Bool := match o.guard with
  | none => some true
  | some (j, b) => match ops[j]? with
    | some oj => match oj.dst with
      | some d => match lk e d with
        | some (.bool c) => some (c == b)
        | some (.tuple _) => some false
        | _ => none
      | none => none
    | none => none
/-- The slot that it sets, if that is new. -/
def dstS (n : Nat) (e : Env) (o : Oper) : Option Nat := match o.dst with
  | some d => bif Nat.blt d n && e.all (fun p => !Nat.beq p.1 d) then some d else none
  | none => none
def sim1 (n : Nat) (ops : Array Oper) (e : Env) (o : Oper) : Option (Nat × Value) := match dstS n e o with
  | some d => match wantS ops e o with
    | some true => match simV e o.op with
      | some v => some (d, v)
      | none => none
    | some false => some (d, undef)
    | none => none
  | none => none
def simN (n : Nat) (ops : Array Oper) : Nat → Env → List Oper → Option (Env × List Oper)
  | 0, e, l => some (e, l)
  | k + 1, e, o :: l => match sim1 n ops e o with
    | some (d, v) => simN n ops k ((d, v) :: e) l
    | none => none
  | _ + 1, _, [] => none
/-- The slot of one that is wanted. -/
def chk (n : Nat) (ops : Array Oper) (e : Env) (o : Oper) : Option Nat := match wantS ops e o with
  | some true => dstS n e o
  | _ => none
section
variable {P : Program} {n : Nat} {w0 w w' : World} {a : Act} {e e' : Env} {h h' : Hep} {G G' : List (World → Prop)} {Q : Exit → Act → World → Prop} {ops : Array Oper} {rest l : List Oper} {o : Oper}
theorem ev1_of (H : St n w0 a w e h) {x : Operand} {v : Value} (hv : ev1 e x = some v) : a.eval x = v := by
  cases x with
  | tmp k =>
    have := H.env _ (lk_mem hv)
    simp [Act.eval, this]
  | const u => exact Option.some.inj hv
  | global g => exact Option.some.inj hv
  | func f => exact Option.some.inj hv
theorem wantS_of (H : St n w0 a w e h) {b : Bool} (hw : wantS ops e o = some b) : Region.wanted o (yielded ops a.tmps) = b := by
  unfold wantS at hw
  split at hw
  · rename_i hg
    simp only [Region.wanted, hg]
    exact Option.some.inj hw
  · rename_i j c hg
    split at hw
    · rename_i oj hj
      split at hw
      · rename_i d hd
        split at hw
        · rename_i c2 hl
          have := H.env _ (lk_mem hl)
          simp [Region.wanted, hg, yielded, hj, hd, this]
          exact Option.some.inj hw
        · rename_i t hl
          have := H.env _ (lk_mem hl)
          simp [Region.wanted, hg, yielded, hj, hd, this]
          exact (Option.some.inj hw).symm
        · cases hw
      · cases hw
    · cases hw
theorem dstS_of {d : Nat} (hd : dstS n e o = some d) : o.dst = some d ∧ Nat.blt d n = true ∧ e.all (fun p => !Nat.beq p.1 d) = true := by
  unfold dstS at hd
  split at hd
  · rename_i d' h1
    cases hb : Nat.blt d' n && e.all (fun p => !Nat.beq p.1 d') with
    | true =>
      rw [hb] at hd
      injection hd with hd
      subst hd
      rw [Bool.and_eq_true] at hb
      exact ⟨h1, hb.1, hb.2⟩
    | false => rw [hb] at hd; cases hd
  · cases hd
theorem simV_of (H : St n w0 a w e h) {v : Value} (hv : simV e o.op = some v) : (execOp a.eval o).run P w = .ok (.value v) w := by
  unfold execOp
  unfold simV at hv
  split at hv
  · rename_i x ho
    simp only [ho, ev1_of H hv, Sem.run_pure]
  · rename_i x ho
    simp only [ho, ev1_of H hv, Sem.run_pure]
  · rename_i c x y ho
    split at hv
    · rename_i hc
      simp [ho, ev1_of H hc, ev1_of H hv, asBool]
    · rename_i hc
      simp [ho, ev1_of H hc, ev1_of H hv, asBool]
    · cases hv
  · rename_i x k ho
    split at hv
    · rename_i vs hx
      simp [ho, ev1_of H hx, Instr.extract, hv, Result.andThen]
    · cases hv
  · rename_i t x ho
    split at hv
    · rename_i b hx
      injection hv with hv
      subst hv
      simp [ho, ev1_of H hx, Op.unary, Result.andThen]
    · cases hv
  · cases hv
def Rn (P : Program) (n : Nat) (w0 : World) (Q : Exit → Act → World → Prop) (ops : Array Oper) (l : List Oper) (e : Env) (h : Hep) (G : List (World → Prop)) : Prop := ∀ a w, St n w0 a w e h → GS G w → wpList P ops Q l a w
theorem rgO (H : St n w0 a w e h) (g : GS G w) (r : Rn P n w0 Q ops l e h G) : wpList P ops Q l a w := r a w H g
theorem rgP {id : Nat} (H : St n w0 a w e h) (g : GS G w) (r : Rn P n w0 Q l.toArray l e h G) : (Code.region id l.toArray false).wp P Q a w := rg_plain (r a w H g)
theorem rZ (next : ∀ a w, St n w0 a w e h → GS G w → Q .normal a w) : Rn P n w0 Q ops [] e h G := fun a w H g => pl_end (next a w H g)
theorem rI (next : ∀ a w, St n w0 a w e h → GS G w → wpList P ops Q l a w) : Rn P n w0 Q ops l e h G := next
theorem rZ0 (next : ∀ a w, St n w0 a w e h → Q .normal a w) : Rn P n w0 Q ops [] e h G := fun a w H _ => pl_end (next a w H)
theorem rI0 (next : ∀ a w, St n w0 a w e h → wpList P ops Q l a w) : Rn P n w0 Q ops l e h G := fun a w H _ => next a w H
theorem rK (me mh mg : List Nat) [he : KM me e e'] [hh : KM mh h h'] [hg : KM mg G G'] (next : Rn P n w0 Q ops l e' h' G') : Rn P n w0 Q ops l e h G := fun a w H g =>
  next a w (H.sub (fun _ hp => he.sub.mem hp) (fun _ hp => hh.sub.mem hp) (H.apart.sublist hh.sub)) (GS.keep hg.sub g)
theorem step_of {K : Act → World → Prop} {F : Value → World → Prop} {d : Nat} (hdst : dstS n e o = some d) (H : St n w0 a w e h) (g : GS G w) [hL : LastsL G] (hw : o.wp P a w (fun a' w' => ∃ v, a' = a.put o.dst v ∧ Below w.heap.size w w' ∧ F v w') Q) (hK : ∀ v a' w', F v w' → St n w0 a' w' ((d, v) :: e) h → GS G w' → K a' w') : o.wp P a w K Q :=
  Oper.wp_mono (fun a' w' hx => by
    obtain ⟨v, rfl, hb, hF⟩ := hx
    obtain ⟨h1, h2, h3⟩ := dstS_of hdst
    refine hK v _ _ hF ?_ (hL.all _ _ g hb)
    rw [h1]
    exact (H.call hb).put v h2 h3) hw
theorem chk_of {d : Nat} (hk : chk n ops e o = some d) : wantS ops e o = some true ∧ dstS n e o = some d := by
  unfold chk at hk
  split at hk
  · rename_i hw
    exact ⟨hw, hk⟩
  · cases hk
/-- One operation whose answer is told by what holds of it. -/
theorem rO {F : Value → World → Prop} {d : Nat} (hk : chk n ops e o = some d) (hob : ∀ a w, St n w0 a w e h → GS G w → ObS P ops Q o a w F) [hL : LastsL G] (next : ∀ v, Rn P n w0 Q ops rest ((d, v) :: e) h (F v :: G)) : Rn P n w0 Q ops (o :: rest) e h G := fun a w H g =>
  wpList_step fun K hK => by
    obtain ⟨h1, h2⟩ := chk_of hk
    rw [wantS_of H h1, if_pos rfl]
    exact step_of h2 H g (hob a w H g).2 fun v a' w' hF H2 g2 => hK _ _ (next v a' w' H2 ⟨hF, g2⟩)
/-- .. whose answer is known. -/
theorem rOV {V : Value} {d : Nat} (hk : chk n ops e o = some d) (hob : ∀ a w, St n w0 a w e h → GS G w → ObS P ops Q o a w (fun v _ => v = V)) [hL : LastsL G] (next : Rn P n w0 Q ops rest ((d, V) :: e) h G) : Rn P n w0 Q ops (o :: rest) e h G := fun a w H g =>
  wpList_step fun K hK => by
    obtain ⟨h1, h2⟩ := chk_of hk
    rw [wantS_of H h1, if_pos rfl]
    exact step_of h2 H g (hob a w H g).2 fun v a' w' hF H2 g2 => hK _ _ (next a' w' (hF ▸ H2) g2)
theorem rV {V : Value} {d : Nat} (hk : chk n ops e o = some d) (hd : Does P Q n w0 e h o V) [hL : LastsL G] (next : Rn P n w0 Q ops rest ((d, V) :: e) h G) : Rn P n w0 Q ops (o :: rest) e h G := fun a w H g =>
  wpList_step fun K hK => by
    obtain ⟨h1, h2⟩ := chk_of hk
    rw [wantS_of H h1, if_pos rfl]
    exact step_of (F := fun v _ => v = V) h2 H g (Oper.wp_mono (fun a' w' hx => ⟨V, hx.1, hx.2, rfl⟩) (hd a w H)) fun v a' w' hF H2 g2 => hK _ _ (next a' w' (hF ▸ H2) g2)
/-- A call whose answer is told by what holds of it; whose answer is known. -/
theorem rC {F : Value → World → Prop} {d : Nat} {f : FuncId} {args : List Operand} {tys : Array TypeId} {vs : List Value} (hk : chk n ops e o = some d) (ho : o.op = .call { callee := .value (.func f), args := args.toArray, argTypes := tys }) (hf : Ours P f) (hx : sevs e args = some vs)
    (hc : ∀ a w, St n w0 a w e h → GS G w → Calls P f vs.toArray w (fun r W' => ∃ v, r = .returned v ∧ Below w.heap.size w W' ∧ F v W')) [hL : LastsL G] (next : ∀ v, Rn P n w0 Q ops rest ((d, v) :: e) h (F v :: G)) : Rn P n w0 Q ops (o :: rest) e h G :=
  rO hk (fun a w H g => ob_callS H (fun a w H => wantS_of H (chk_of hk).1) ho hf hx (hc a w H g)) next
theorem rCV {V : Value} {d : Nat} {f : FuncId} {args : List Operand} {tys : Array TypeId} {vs : List Value} (hk : chk n ops e o = some d) (ho : o.op = .call { callee := .value (.func f), args := args.toArray, argTypes := tys }) (hf : Ours P f) (hx : sevs e args = some vs)
    (hc : ∀ a w, St n w0 a w e h → GS G w → Calls P f vs.toArray w (fun r W' => r = .returned V ∧ Below w.heap.size w W')) [hL : LastsL G] (next : Rn P n w0 Q ops rest ((d, V) :: e) h G) : Rn P n w0 Q ops (o :: rest) e h G :=
  rOV hk (fun a w H g => ob_calS H (fun a w H => wantS_of H (chk_of hk).1) ho hf hx (hc a w H g)) next
/-- Several that are plain. -/
theorem rS : ∀ (k : Nat) {e e' : Env} {l l' : List Oper}, simN n ops k e l = some (e', l') → Rn P n w0 Q ops l' e' h G → Rn P n w0 Q ops l e h G
  | 0, e, e', l, l', hs, next => by
    injection hs with hs
    injection hs with h1 h2
    subst h1 h2
    exact next
  | k + 1, e, e', [], l', hs, next => by cases hs
  | k + 1, e, e', o :: l, l', hs, next => fun a w H g => wpList_step fun K hK => by
    unfold simN at hs
    cases h1 : sim1 n ops e o with
    | none => rw [h1] at hs; cases hs
    | some p =>
      obtain ⟨d, v⟩ := p
      rw [h1] at hs
      unfold sim1 at h1
      cases h2 : dstS n e o with
      | none => rw [h2] at h1; cases h1
      | some d' =>
        rw [h2] at h1
        obtain ⟨q1, q2, q3⟩ := dstS_of h2
        cases h3 : wantS ops e o with
        | none => rw [h3] at h1; cases h1
        | some b =>
          rw [h3] at h1
          rw [wantS_of H h3]
          cases b with
          | false =>
            injection h1 with h1
            injection h1 with h4 h5
            subst h4 h5
            rw [if_neg (by simp)]
            refine hK _ _ (rS k hs next _ _ ?_ g)
            rw [q1]
            exact H.put _ q2 q3
          | true =>
            cases h6 : simV e o.op with
            | none => simp only [h6] at h1; cases h1
            | some v' =>
              simp only [h6] at h1
              injection h1 with h1
              injection h1 with h4 h5
              subst h4 h5
              rw [if_pos rfl]
              unfold Oper.wp
              rw [simV_of H h6]
              refine hK _ _ (rS k hs next _ _ ?_ g)
              rw [q1]
              exact H.put _ q2 q3
/-- New variables. -/
theorem rA {d : Nat} {t : TypeId} {z : Array Value} (hk : chk n ops e o = some d) (ho : o.op = .alloc t) (hz : ∀ W, (Instr.alloc t true (.tuple #[])).run P W = .ok (.pointer (some ⟨W.heap.size, 0, none⟩)) (W.alloc (.cells z t))) [hL : LastsL G]
    (next : ∀ g : Nat, Rn P n w0 Q ops rest ((d, .pointer (some ⟨g, 0, none⟩)) :: e) ((g, .ty t, z) :: h) G) : Rn P n w0 Q ops (o :: rest) e h G := fun a w H g =>
  wpList_step fun K hK => by
    obtain ⟨h1, h2⟩ := chk_of hk
    obtain ⟨q1, q2, q3⟩ := dstS_of h2
    rw [wantS_of H h1, if_pos rfl]
    unfold Oper.wp
    rw [news_of ho hz a w]
    refine hK _ _ (next w.heap.size _ _ ?_ (hL.all _ _ g ((Below.refl _ _).alloc (Nat.le_refl _) _)))
    rw [q1]
    exact (H.alloc z t).put _ q2 q3
theorem rB {d : Nat} {t : TypeId} {x : Operand} {v : Value} {z : Array Value} (hk : chk n ops e o = some d) (ho : o.op = .box t x) (hx : ev1 e x = some v) (hr : ∀ W, (Instr.box t v).run P W = .ok (.pointer (some ⟨W.heap.size, 0, none⟩)) (W.alloc (.cells z t))) [hL : LastsL G]
    (next : ∀ g : Nat, Rn P n w0 Q ops rest ((d, .pointer (some ⟨g, 0, none⟩)) :: e) ((g, .ty t, z) :: h) G) : Rn P n w0 Q ops (o :: rest) e h G := fun a w H g =>
  wpList_step fun K hK => by
    obtain ⟨h1, h2⟩ := chk_of hk
    obtain ⟨q1, q2, q3⟩ := dstS_of h2
    rw [wantS_of H h1, if_pos rfl]
    unfold Oper.wp execOp
    simp only [ho, ev1_of H hx, Sem.run_bind, hr, Result.andThen_ok, Sem.run_pure]
    refine hK _ _ (next w.heap.size _ _ ?_ (hL.all _ _ g ((Below.refl _ _).alloc (Nat.le_refl _) _)))
    rw [q1]
    exact (H.alloc z t).put _ q2 q3
/-- What makes one block. -/
theorem rM {d : Nat} {F : Nat → Value} {t : TypeId} {z : Array Value} (hk : chk n ops e o = some d) (hm : ∀ a w, St n w0 a w e h → (execOp a.eval o).run P w = .ok (.value (F w.heap.size)) (w.alloc (.cells z t))) [hL : LastsL G]
    (next : ∀ g : Nat, Rn P n w0 Q ops rest ((d, F g) :: e) ((g, .ty t, z) :: h) G) : Rn P n w0 Q ops (o :: rest) e h G := fun a w H g =>
  wpList_step fun K hK => by
    obtain ⟨h1, h2⟩ := chk_of hk
    obtain ⟨q1, q2, q3⟩ := dstS_of h2
    rw [wantS_of H h1, if_pos rfl]
    unfold Oper.wp
    rw [hm a w H]
    refine hK _ _ (next w.heap.size _ _ ?_ (hL.all _ _ g ((Below.refl _ _).alloc (Nat.le_refl _) _)))
    rw [q1]
    exact (H.alloc z t).put _ q2 q3
/-- A store of a whole block; of a part of one. What was a fact is none any more. -/
theorem rW (m : List Nat) {t : TypeId} {x y : Operand} {g : Nat} {t' : TypeId} {cs c : Array Value} (hn : o.guard = none ∧ o.dst = none) (ho : o.op = .store t x y) (hx : ev1 e x = some (.pointer (some ⟨g, 0, none⟩))) (hy : ev1 e y = some (.agg c)) [hm : SM m (g, .ty t', c) (g, .ty t', cs) h h']
    (hi : (P.info? t).map (·.size) = some c.size) (hs : cs.size = c.size) (h1 : c.all (·.oneCell') = true) (next : Rn P n w0 Q ops rest e h' []) : Rn P n w0 Q ops (o :: rest) e h G := fun a w H _ => by
  obtain ⟨k, hk, rfl⟩ := hm.at_
  exact wpList_plain hn.1 fun K hK => wp_store_row t x y ho g c (ev1_of H hx) (ev1_of H hy) t' cs (H.heap _ (List.mem_iff_getElem?.2 ⟨k, hk⟩)) hi hs h1 (hK _ _ (next _ _ (by
    rw [hn.2]
    exact H.setRow hk c) trivial))
theorem rX (m : List Nat) {t : TypeId} {x y : Operand} {g f : Nat} {t' : Tid} {cs c : Array Value} {v : Value} {vs : List Value} (hn : o.guard = none ∧ o.dst = none) (ho : o.op = .store t x y) (hx : ev1 e x = some (.pointer (some ⟨g, f, none⟩))) (hy : ev1 e y = some v)
    (hr : ∀ W, Blk W g t' cs → (Instr.storeAt t (.pointer (some ⟨g, f, none⟩)) v).run P W = .ok () (W.setCells g f vs)) (hc : setV cs f vs = c) [hm : SM m (g, t', c) (g, t', cs) h h'] (next : Rn P n w0 Q ops rest e h' []) : Rn P n w0 Q ops (o :: rest) e h G := fun a w H _ => by
  obtain ⟨k, hk, rfl⟩ := hm.at_
  refine wpList_plain hn.1 fun K hK => ?_
  unfold Oper.wp execOp
  simp only [ho, ev1_of H hx, ev1_of H hy, Sem.run_bind, hr w (H.heap _ (List.mem_iff_getElem?.2 ⟨k, hk⟩)), Result.andThen_ok, Sem.run_pure]
  refine hK _ _ (next _ _ ?_ trivial)
  rw [hn.2]
  exact H.setCells hk f vs hc
end
end Go.Proofs.YtonhkclkddobhaaDoor
namespace Go.Proofs.YtonhkclkddobhaaDoor
set_option linter.unusedVariables false
set_option linter.unusedSimpArgs false
open Go Go.RowKit
/-- One operation: its slot, its value or what holds of it, which operations' values it hangs on. -/
inductive It2 where
  | v (d : Nat) (V : Value) (ps : List Nat)
  | f (d : Nat) (F : Value → World → Prop) (ps : List Nat)
  | u (d : Nat) (ps : List Nat)
def It2.fct : It2 → Fct
  | .v d V ps => ⟨d, fun u _ => u = V, ps, none, false⟩
  | .f d F ps => ⟨d, F, ps, none, false⟩
  | .u d ps => ⟨d, fun u _ => u = undef, ps, none, false⟩
def Chain2 (plan : List It2) (w : World) (K : Env → Prop) : List Nat → Env → Prop
  | [], e => K e
  | j :: r, e => match plan[j]? with
    | some (.v d V _) => Chain2 plan w K r ((d, V) :: e)
    | some (.f d F _) => ∀ v, F v w → Chain2 plan w K r ((d, v) :: e)
    | some (.u d _) => Chain2 plan w K r ((d, undef) :: e)
    | none => Chain2 plan w K r e
def Obs2 (P : Program) (ops : Array Oper) (Q : Exit → Act → World → Prop) (n : Nat) (w0 : World) (e : Env) (h : Hep) (G : List (World → Prop)) (plan : List It2) : List Oper → List It2 → Prop
  | o :: os, .v d V ps :: r => (∀ a w, Chain2 plan w (fun e' => St n w0 a w e' h → GS G w → ObS P ops Q o a w (fun u _ => u = V)) ps e) ∧ Obs2 P ops Q n w0 e h G plan os r
  | o :: os, .f d F ps :: r => ((∀ a w, Chain2 plan w (fun e' => St n w0 a w e' h → GS G w → ObS P ops Q o a w F) ps e) ∧ ∀ v, Lasts (F v)) ∧ Obs2 P ops Q n w0 e h G plan os r
  | o :: os, .u d ps :: r => (∀ a w, Chain2 plan w (fun e' => St n w0 a w e' h → GS G w → Region.wanted o (yielded ops a.tmps) = false) ps e) ∧ Obs2 P ops Q n w0 e h G plan os r
  | _, _ => True
def nxt2 : List It2 → (Env → List (World → Prop) → Prop) → Env → List (World → Prop) → Prop
  | [], K, e, G => K e G
  | .v d V _ :: r, K, e, G => nxt2 r K ((d, V) :: e) G
  | .f d F _ :: r, K, e, G => ∀ v, nxt2 r K ((d, v) :: e) (F v :: G)
  | .u d _ :: r, K, e, G => nxt2 r K ((d, undef) :: e) G
section
variable {P : Program} {n : Nat} {w0 w w' : World} {a : Act} {e e' : Env} {h h' : Hep} {G G' : List (World → Prop)} {Q : Exit → Act → World → Prop} {ops : Array Oper} {rest l : List Oper} {o : Oper} {plan : List It2}
theorem Chain2.out {K : Env → Prop} : ∀ {ps : List Nat} {e : Env}, Chain2 plan w K ps e → Chain (plan.map It2.fct) w K ps e
  | [], e, hc => hc
  | j :: r, e, hc => by
    unfold Chain2 at hc
    unfold Chain
    rw [List.getElem?_map]
    cases hj : plan[j]? with
    | none =>
      rw [hj] at hc
      exact Chain2.out hc
    | some it =>
      rw [hj] at hc
      cases it with
      | v d V ps =>
        intro v hv
        have hv : v = V := hv
        subst hv
        exact Chain2.out hc
      | f d F ps => exact fun v hv => Chain2.out (hc v hv)
      | u d ps =>
        intro v hv
        have hv : v = undef := hv
        subst hv
        exact Chain2.out hc
theorem Chain.mapK {K K' : Env → Prop} {w : World} {pl : List Fct} (hk : ∀ e, K e → K' e) : ∀ {ps : List Nat} {e : Env}, Chain pl w K ps e → Chain pl w K' ps e := fun {ps e} hc => Chain.imp hk hc
theorem Obs2.out {ms : List Nat} : ∀ (k : Nat) {os : List Oper} {t : List It2}, (∀ i, ownJ ms (plan.map It2.fct) i = true) → Obs2 P ops Q n w0 e h G plan os t → ObsJ P (fun w w' => Below w.heap.size w w') (fun w w' => Below w.heap.size w w') (GS G) ms ops Q n w0 e h (plan.map It2.fct) k os (t.map It2.fct)
  | k, [], t, hn, ho => by cases t <;> trivial
  | k, o :: os, [], hn, ho => trivial
  | k, o :: os, .v d V ps :: t, hn, ho => ⟨⟨fun a w => Chain.mapK (fun e' hx H hJ => .inl (hx H (hJ (hn k)))) (Chain2.out (ho.1 a w)), fun v w w' hv _ => hv, fun _ v w w' hv _ => hv⟩, Obs2.out (k + 1) hn ho.2⟩
  | k, o :: os, .f d F ps :: t, hn, ho => ⟨⟨fun a w => Chain.mapK (fun e' hx H hJ => .inl (hx H (hJ (hn k)))) (Chain2.out (ho.1.1 a w)), fun v w w' hv hb => (ho.1.2 v).lasts _ _ hv hb, fun _ v w w' hv hb => (ho.1.2 v).lasts _ _ hv hb⟩, Obs2.out (k + 1) hn ho.2⟩
  | k, o :: os, .u d ps :: t, hn, ho => ⟨⟨fun a w => Chain.mapK (fun e' hx H hJ => .inr ⟨hx H (hJ (hn k)), undef, rfl, Below.refl _ _, rfl⟩) (Chain2.out (ho.1 a w)), fun v w w' hv _ => hv, fun _ v w w' hv _ => hv⟩, Obs2.out (k + 1) hn ho.2⟩
theorem no_own (ms : List Nat) (plan : List It2) (i : Nat) : ownJ ms (plan.map It2.fct) i = true := by
  unfold ownJ
  rw [List.all_eq_true]
  intro j _
  rw [List.getElem?_map]
  cases plan[j]? with
  | none => rfl
  | some it => cases it <;> rfl
/-- What follows, told by the values of all. -/
theorem nxt2_of {K : Env → List (World → Prop) → Prop} (a : Act) (w : World) : ∀ {t : List It2} {e : Env} {G : List (World → Prop)}, nxt2 t K e G → St n w0 a w e h → GS G w → (∀ it ∈ t, ∃ v, a.tmps[it.fct.d]? = some v ∧ it.fct.F v w) → ∃ e' G', K e' G' ∧ St n w0 a w e' h ∧ GS G' w
  | [], e, G, hx, H, g, hv => ⟨e, G, hx, H, g⟩
  | .v d V ps :: t, e, G, hx, H, g, hv => by
    obtain ⟨v, h1, h2⟩ := hv _ List.mem_cons_self
    have h2 : v = V := h2
    subst h2
    refine nxt2_of a w (t := t) hx ⟨H.size, H.defers, fun p hp => ?_, H.below, H.heap, H.own, H.apart⟩ g fun it hi => hv it (List.mem_cons_of_mem _ hi)
    rcases List.mem_cons.1 hp with rfl | hp
    · exact h1
    · exact H.env p hp
  | .f d F ps :: t, e, G, hx, H, g, hv => by
    obtain ⟨v, h1, h2⟩ := hv _ List.mem_cons_self
    refine nxt2_of a w (t := t) (hx v) ⟨H.size, H.defers, fun p hp => ?_, H.below, H.heap, H.own, H.apart⟩ ⟨h2, g⟩ fun it hi => hv it (List.mem_cons_of_mem _ hi)
    rcases List.mem_cons.1 hp with rfl | hp
    · exact h1
    · exact H.env p hp
  | .u d ps :: t, e, G, hx, H, g, hv => by
    obtain ⟨v, h1, h2⟩ := hv _ List.mem_cons_self
    have h2 : v = undef := h2
    subst h2
    refine nxt2_of a w (t := t) hx ⟨H.size, H.defers, fun p hp => ?_, H.below, H.heap, H.own, H.apart⟩ g fun it hi => hv it (List.mem_cons_of_mem _ hi)
    rcases List.mem_cons.1 hp with rfl | hp
    · exact h1
    · exact H.env p hp
/-- **The region.** -/
theorem d2 {id : Nat} (plan : List It2) (hf : P.follows .mixedOrders = true) (hk : planOkF ops n e (plan.map It2.fct) (masks ops) = true) (H : St n w0 a w e h) (g : GS G w) [hL : LastsL G] (ho : Obs2 P ops Q n w0 e h G plan ops.toList plan)
    (tail : nxt2 plan (fun e' G' => Rn P n w0 Q ops (ops.toList.drop plan.length) e' h G') e G) : (Code.region id ops true).wp P Q a w := by
  refine wp_region_any hf ?_
  have none_ : ∀ i, ¬ (Array.replicate ops.size false).getD i false = true := fun i hi => by
    by_cases h : i < ops.size
    · simp [h] at hi
    · simp [h] at hi
  have hlen : (plan.map It2.fct).length = plan.length := List.length_map _
  refine any_planJ (J := GS G) (fun w w' h hb => hL.all _ _ h hb) (fun a w w' H hb => H.call hb) (fun a w w' H hb => H.call hb) rfl hk (Obs2.out 0 (no_own _ _) ho) (fun a w hv hst hg => ?_) ops.size _ a w.drew (by simp) (fun i o _ hi => absurd hi (none_ i)) (fun i _ => none_ i) ?_ ⟨⟨H.drew, fun j _ _ hj => absurd hj (none_ j)⟩, fun _ => hL.all _ _ g (Below.refl _ _).drew⟩
  · obtain ⟨e', G', h1, h2, h3⟩ := nxt2_of a w tail hst (hg fun j it hj => by
      rw [List.getElem?_map] at hj
      obtain ⟨x, _, rfl⟩ := Option.map_eq_some_iff.1 hj
      cases x <;> rfl) fun it hi => by
        obtain ⟨j, hj⟩ := List.mem_iff_getElem?.1 hi
        exact hv j it.fct (by rw [List.getElem?_map, hj]; rfl) (by cases it <;> rfl)
    rw [hlen]
    exact h1 a w h2 h3
  · have := left_le (Array.replicate ops.size false) (plan.map It2.fct).length
    unfold planOkF at hk
    simp only [Bool.and_eq_true] at hk
    have := Nat.le_of_ble_eq_true hk.1.1.1.1.1.1.1.1
    omega
theorem sqR {id : Nat} {y : Code} (H : St n w0 a w e h) (g : GS G w) (hx : ∀ K : Act → World → Prop, (∀ a w, y.wp P Q a w → K a w) → Rn P n w0 (Exit.then K Q) l.toArray l e h G) : (Code.seq (.region id l.toArray false) y).wp P Q a w := wp_seq_k fun K hK => rgP H g (hx K hK)
theorem sqD {id : Nat} {y : Code} (plan : List It2) (hf : P.follows .mixedOrders = true) (hk : planOkF ops n e (plan.map It2.fct) (masks ops) = true) (H : St n w0 a w e h) (g : GS G w) [hL : LastsL G] (ho : ∀ K : Act → World → Prop, Obs2 P ops (Exit.then K Q) n w0 e h G plan ops.toList plan)
    (hx : ∀ K : Act → World → Prop, (∀ a w, y.wp P Q a w → K a w) → nxt2 plan (fun e' G' => Rn P n w0 (Exit.then K Q) ops (ops.toList.drop plan.length) e' h G') e G) : (Code.seq (.region id ops true) y).wp P Q a w := wp_seq_k fun K hK => d2 plan hf hk H g (ho K) (hx K hK)
theorem rN {y : Code} {K : Act → World → Prop} (hK : ∀ a w, y.wp P Q a w → K a w) (next : ∀ a w, St n w0 a w e h → GS G w → y.wp P Q a w) : Rn P n w0 (Exit.then K Q) ops [] e h G := fun a w H g => pl_end (hK a w (next a w H g))
theorem rN0 {y : Code} {K : Act → World → Prop} (hK : ∀ a w, y.wp P Q a w → K a w) (next : ∀ a w, St n w0 a w e h → y.wp P Q a w) : Rn P n w0 (Exit.then K Q) ops [] e h G := fun a w H _ => pl_end (hK a w (next a w H))
theorem cdT {c : Operand} {x y : Code} (H : St n w0 a w e h) (hc : sev e c = some (.bool true)) (next : y.wp P Q a w) : (Code.seq (.cond c .skip x) y).wp P Q a w := wp_seq (wp_cond_true (H.ev hc) (wp_skip next))
/-- What an operation of it comes to. -/
theorem oV {V : Value} (hw : wantS ops e o = some true) (hd : Does P Q n w0 e h o V) : ∀ a w, St n w0 a w e h → GS G w → ObS P ops Q o a w (fun u _ => u = V) := fun a w H _ => ⟨wantS_of H hw, Oper.wp_mono (fun a' w' hx => ⟨V, hx.1, hx.2, rfl⟩) (hd a w H)⟩
theorem oS {V : Value} (hw : wantS ops e o = some true) (hs : simV e o.op = some V) : ∀ a w, St n w0 a w e h → GS G w → ObS P ops Q o a w (fun u _ => u = V) := fun a w H _ => ⟨wantS_of H hw, by
  unfold Oper.wp
  rw [simV_of H hs]
  exact ⟨V, rfl, Below.refl _ _, rfl⟩⟩
instance {B : Nat} {h : Hep} {t : TypeId} {z : Array Value} {v : Value} : Lasts (NewF B h t z v) := ⟨fun w w' hv hb => NewF.sb _ _ _ hv hb⟩
end
end Go.Proofs.YtonhkclkddobhaaDoor
namespace Go.Proofs.YtonhkclkddobhaaDoor
set_option linter.unusedVariables false
set_option linter.unusedSimpArgs false
set_option maxRecDepth 100000
open Go Go.RowKit
def RF (L : List (List UInt8)) (v : Value) (w : World) : Prop := ∃ A n c, v = .slice A n c ∧ RS w w.heap.size A n c L
section
variable {n : Nat} {w0 w w' : World} {a : Act} {e : Env} {h : Hep} {Q : Exit → Act → World → Prop} {ops : Array Oper} {rest : List Oper} {o : Oper} {P : Program}
/-- One operation, in the text's order. -/
theorem pl_R {d : Nat} {R : Rel} {F : Value → World → Prop} (hR : ∀ (a : Act) (w w' : World), St n w0 a w e h → R w w' → St n w0 a w' e h) (hob : Region.wanted o (yielded ops a.tmps) = true ∧ o.wp P a w (fun a' w' => ∃ v, a' = a.put o.dst v ∧ R w w' ∧ F v w') Q) (hdst : o.dst = some d) (hl : Nat.blt d n = true) (hf : e.all (fun p => !Nat.beq p.1 d) = true)
    (H : St n w0 a w e h) (next : ∀ v a w', F v w' → R w w' → St n w0 a w' ((d, v) :: e) h → wpList P ops Q rest a w') : wpList P ops Q (o :: rest) a w :=
  wpList_step fun K hK => by
    rw [hob.1, if_pos rfl]
    exact Oper.wp_mono (fun a' w' hw => by
      obtain ⟨v, rfl, hb, hF⟩ := hw
      refine hK _ _ (next v _ _ hF hb ?_)
      rw [hdst]
      exact (hR _ _ _ H hb).put v hl hf) hob.2
end
/-- Values of slices. -/
structure PV (W : World) (B : Nat) (xs : List Value) (L : List (List UInt8)) : Prop where
  len : xs.length = L.length
  at_ : ∀ (j : Nat) (l : List UInt8), L[j]? = some l → ∃ Aj nj cj, xs[j]? = some (Value.slice Aj nj cj) ∧ BS W B Aj nj cj l
  one : ∀ u ∈ xs, u.oneCell' = true
def LF (L : List (List UInt8)) (v : Value) (w : World) : Prop := ∃ g xs, v = .slice (some ⟨g, 0, none⟩) L.length L.length ∧ g < w.heap.size ∧ (∀ j u, xs[j]? = some u → w.cell? ⟨g, j, none⟩ = some u) ∧ PV w w.heap.size xs L
theorem RS.more {w : World} {B B' n c : Nat} {A : Option Addr} {L : List (List UInt8)} (h : RS w B A n c L) (hB : B ≤ B') : RS w B' A n c L :=
  ⟨h.len, fun hn => by
    obtain ⟨b, o, e, hb, hc⟩ := h.at_ hn
    refine ⟨b, o, e, by omega, fun j l hl => ?_⟩
    obtain ⟨Aj, nj, cj, h1, h2⟩ := hc j l hl
    exact ⟨Aj, nj, cj, h1, h2.more hB⟩⟩
theorem PV.nil (W : World) (B : Nat) : PV W B [] [] := ⟨rfl, (fun j l h => by simp at h), (fun u h => by cases h)⟩
theorem PV.keep {W W' : World} {B : Nat} {xs : List Value} {L : List (List UInt8)} (h : PV W B xs L) (hk : ∀ p : Addr, p.block < B → W'.cell? p = W.cell? p) : PV W' B xs L :=
  ⟨h.len, fun j l hl => by
    obtain ⟨Aj, nj, cj, h1, h2⟩ := h.at_ j l hl
    exact ⟨Aj, nj, cj, h1, h2.keep hk⟩, h.one⟩
theorem PV.below {W W' : World} {B : Nat} {xs : List Value} {L : List (List UInt8)} (h : PV W B xs L) (hb : Below B W W') : PV W' B xs L := h.keep fun _ hp => hb.cell hp
theorem PV.more {W : World} {B B' : Nat} {xs : List Value} {L : List (List UInt8)} (h : PV W B xs L) (hB : B ≤ B') : PV W B' xs L :=
  ⟨h.len, fun j l hl => by
    obtain ⟨Aj, nj, cj, h1, h2⟩ := h.at_ j l hl
    exact ⟨Aj, nj, cj, h1, h2.more hB⟩, h.one⟩
theorem PV.cons {W : World} {B : Nat} {xs : List Value} {L : List (List UInt8)} (h : PV W B xs L) {A : Option Addr} {n c : Nat} {l : List UInt8} (hl : BS W B A n c l) : PV W B (.slice A n c :: xs) (l :: L) := by
  refine ⟨by simp [h.len], fun j l' hj => ?_, fun u hu => ?_⟩
  · cases j with
    | zero =>
      injection hj with hj
      subst hj
      exact ⟨A, n, c, rfl, hl⟩
    | succ j => exact h.at_ j l' hj
  · rcases List.mem_cons.1 hu with rfl | hu
    · rfl
    · exact h.one u hu
section
variable {B : Nat} {h : Hep}
theorem RF.grow {L : List (List UInt8)} : ∀ (v : Value) (w w' : World), RF L v w → Grow B h w w' → RF L v w' := fun v w w' ⟨A, n, c, e, h⟩ hb => ⟨A, n, c, e, (h.keep hb.cells).more hb.below.size⟩
theorem LF.grow {L : List (List UInt8)} : ∀ (v : Value) (w w' : World), LF L v w → Grow B h w w' → LF L v w' := fun v w w' ⟨g, xs, e, h1, h3, h2⟩ hb => ⟨g, xs, e, Nat.lt_of_lt_of_le h1 hb.below.size, fun j u hu => (hb.cells _ h1).trans (h3 j u hu), (h2.keep hb.cells).more hb.below.size⟩
end
theorem RF.below {L : List (List UInt8)} {v : Value} {w w' : World} (hv : RF L v w) (hb : Below w.heap.size w w') : RF L v w' := RF.grow (B := 0) (h := []) _ _ _ hv (gro hb (Nat.zero_le _))
theorem rs_row {w : World} {g B : Nat} {xs : List Value} {L : List (List UInt8)} (hb : ∀ j u, xs[j]? = some u → w.cell? ⟨g, j, none⟩ = some u) (hg : g < B) (hp : PV w B xs L) {n c : Nat} (hn : L.length = n) : RS w B (some ⟨g, 0, none⟩) n c L :=
  ⟨hn, fun _ => ⟨g, 0, rfl, hg, fun j l hl => by
    obtain ⟨Aj, nj, cj, h1, h2⟩ := hp.at_ j l hl
    exact ⟨Aj, nj, cj, by rw [Nat.zero_add]; exact hb j _ h1, h2⟩⟩⟩
theorem LF.rf {L : List (List UInt8)} {v : Value} {w : World} (h : LF L v w) : RF L v w := by
  obtain ⟨g, xs, e, h1, h3, h2⟩ := h
  exact ⟨_, _, _, e, rs_row h3 h1 h2 rfl⟩
theorem RF.nil (w : World) : RF [] (.slice none 0 0) w := ⟨_, _, _, rfl, ⟨rfl, fun h => absurd h (by omega)⟩⟩
theorem run_rows1 (w : World) (A : Option Addr) (n c : Nat) : (Instr.buildSlice 77 1 #[(0, .slice A n c)]).run Tryd.prog w = .ok (.slice (some ⟨w.heap.size, 0, none⟩) 1 1) (w.alloc (.cells #[.slice A n c] 23)) := by kernel_rfl
theorem run_rows2 (w : World) (A : Option Addr) (n c : Nat) (A2 : Option Addr) (n2 c2 : Nat) : (Instr.buildSlice 77 2 #[(0, .slice A n c), (1, .slice A2 n2 c2)]).run Tryd.prog w = .ok (.slice (some ⟨w.heap.size, 0, none⟩) 2 2) (w.alloc (.cells #[.slice A n c, .slice A2 n2 c2] 23)) := by kernel_rfl
theorem run_rows3 (w : World) (A : Option Addr) (n c : Nat) (A2 : Option Addr) (n2 c2 : Nat) (A3 : Option Addr) (n3 c3 : Nat) : (Instr.buildSlice 77 3 #[(0, .slice A n c), (1, .slice A2 n2 c2), (2, .slice A3 n3 c3)]).run Tryd.prog w = .ok (.slice (some ⟨w.heap.size, 0, none⟩) 3 3) (w.alloc (.cells #[.slice A n c, .slice A2 n2 c2, .slice A3 n3 c3] 23)) := by kernel_rfl
theorem lf_new {w : World} {xs : List Value} {L : List (List UInt8)} (hp : PV w w.heap.size xs L) {k : Nat} (hk : L.length = k) : Below w.heap.size w (w.alloc (.cells xs.toArray 23)) ∧ LF L (.slice (some ⟨w.heap.size, 0, none⟩) k k) (w.alloc (.cells xs.toArray 23)) := by
  subst hk
  have hb : Below w.heap.size w (w.alloc (.cells xs.toArray 23)) := (Below.refl _ _).alloc (Nat.le_refl _) _
  have hn : Blk (w.alloc (.cells xs.toArray 23)) w.heap.size 23 xs.toArray := Blk.new _ _ _
  exact ⟨hb, _, xs, rfl, hn.lt, fun j u hu => by rw [hn.cell]; simpa using hu, (hp.below hb).more hb.size⟩
section
variable {n : Nat} {w0 w w' : World} {a : Act} {e : Env} {h : Hep} {Q : Exit → Act → World → Prop} {ops : Array Oper} {o : Oper}
theorem ob_rows1S {x : Operand} {v : Value} {l : List UInt8} (H : St n w0 a w e h) (hw : ∀ a w, St n w0 a w e h → Region.wanted o (yielded ops a.tmps) = true) (ho : o.op = .buildSlice 77 1 #[(0, x)]) (hx : sev e x = some v) (hv : BF l v w) :
    ObS Tryd.prog ops Q o a w (LF [l]) := by
  refine ob_runR H hw ?_
  obtain ⟨A, k, c, rfl, hb⟩ := hv
  obtain ⟨h1, h2⟩ := lf_new ((PV.nil w w.heap.size).cons hb) (k := 1) rfl
  refine ⟨_, _, ?_, h1, h2⟩
  simp [execOp, ho, H.ev hx, run_rows1, Result.andThen]
theorem ob_rows2S {x y : Operand} {v u : Value} {l m : List UInt8} (H : St n w0 a w e h) (hw : ∀ a w, St n w0 a w e h → Region.wanted o (yielded ops a.tmps) = true) (ho : o.op = .buildSlice 77 2 #[(0, x), (1, y)]) (hx : sev e x = some v) (hy : sev e y = some u) (hv : BF l v w) (hu : BF m u w) :
    ObS Tryd.prog ops Q o a w (LF [l, m]) := by
  refine ob_runR H hw ?_
  obtain ⟨A, k, c, rfl, hb⟩ := hv
  obtain ⟨A2, k2, c2, rfl, hb2⟩ := hu
  obtain ⟨h1, h2⟩ := lf_new (((PV.nil w w.heap.size).cons hb2).cons hb) (k := 2) rfl
  refine ⟨_, _, ?_, h1, h2⟩
  simp [execOp, ho, H.ev hx, H.ev hy, run_rows2, Result.andThen]
theorem ob_rows3S {x y z : Operand} {v u t : Value} {l m k : List UInt8} (H : St n w0 a w e h) (hw : ∀ a w, St n w0 a w e h → Region.wanted o (yielded ops a.tmps) = true) (ho : o.op = .buildSlice 77 3 #[(0, x), (1, y), (2, z)]) (hx : sev e x = some v) (hy : sev e y = some u) (hz : sev e z = some t) (hv : BF l v w) (hu : BF m u w) (ht : BF k t w) :
    ObS Tryd.prog ops Q o a w (LF [l, m, k]) := by
  refine ob_runR H hw ?_
  obtain ⟨A, i, c, rfl, hb⟩ := hv
  obtain ⟨A2, i2, c2, rfl, hb2⟩ := hu
  obtain ⟨A3, i3, c3, rfl, hb3⟩ := ht
  obtain ⟨h1, h2⟩ := lf_new ((((PV.nil w w.heap.size).cons hb3).cons hb2).cons hb) (k := 3) rfl
  refine ⟨_, _, ?_, h1, h2⟩
  simp [execOp, ho, H.ev hx, H.ev hy, H.ev hz, run_rows3, Result.andThen]
end
theorem RF.sb {L : List (List UInt8)} : ∀ (v : Value) (w w' : World), RF L v w → SB w w' → RF L v w' := fun v w w' h hb => RF.below h hb
theorem LF.sb {L : List (List UInt8)} : ∀ (v : Value) (w w' : World), LF L v w → SB w w' → LF L v w' := fun v w w' h hb => LF.grow (B := 0) (h := []) v w w' h (gro hb (Nat.zero_le _))
instance {L : List (List UInt8)} {v : Value} : Lasts (LF L v) := ⟨fun w w' h hb => LF.sb _ _ _ h hb⟩
instance {L : List (List UInt8)} {v : Value} : Lasts (RF L v) := ⟨fun w w' h hb => RF.sb _ _ _ h hb⟩
def MF (B : Nat) (h : Hep) (l : List UInt8) (v : Value) (w : World) : Prop := ∃ g fr, v = .slice (some ⟨g, 0, none⟩) l.length l.length ∧ B ≤ g ∧ (∀ x ∈ h, x.1 ≠ g) ∧ w.heap[g]? = some (.cells (bvs l) 5 fr)
theorem MF.grow {B B' : Nat} {h : Hep} {l : List UInt8} : ∀ (v : Value) (w w' : World), MF B h l v w → Grow B' h w w' → MF B h l v w' := fun v w w' ⟨g, fr, e, h1, h2, h3⟩ hb => by
  obtain ⟨fr', h4⟩ := hb.objs _ _ _ _ h3
  exact ⟨g, fr', e, h1, h2, h4⟩
section
variable {n : Nat} {w0 w w' : World} {a : Act} {e : Env} {h : Hep} {Q : Exit → Act → World → Prop} {ops : Array Oper} {o : Oper}
end
end Go.Proofs.YtonhkclkddobhaaDoor
namespace Go.Proofs.YtonhkclkddobhaaDoor
set_option linter.unusedVariables false
set_option linter.unusedSimpArgs false
set_option maxRecDepth 100000
open Go Go.RowKit
structure SL where
  A : Option Addr
  n : Nat
  c : Nat
/-- A value's own seven cells. -/
structure DH where
  k : Int
  f : Bool
  n : Int
  b : SL
  t : List UInt8
  a : SL
  ks : SL
def SL.no : SL := ⟨none, 0, 0⟩
def DH.no : DH := ⟨0, false, 0, SL.no, [], SL.no, SL.no⟩
def DH.cs (x : DH) : Array Value := #[.int .i64 x.k, .bool x.f, .int .i64 x.n, .slice x.b.A x.b.n x.b.c, .string (strB x.t), .slice x.a.A x.a.n x.a.c, .slice x.ks.A x.ks.n x.ks.c]
theorem DH.size (x : DH) : x.cs.size = 7 := rfl
theorem DH.one (x : DH) : x.cs.all (·.oneCell') = true := by simp [DH.cs, Value.oneCell']
/-- A slice of whole numbers that was there. -/
structure NS (w : World) (B : Nat) (A : Option Addr) (n c : Nat) (l : List Nat) : Prop where
  len : l.length = n
  cap : n ≤ c
  nil_ : A = none → c = 0
  lt : ∀ x ∈ l, x < 18446744073709551616
  at_ : 0 < n → ∃ b o, A = some ⟨b, o, none⟩ ∧ b < B ∧ ∀ (j x : Nat), l[j]? = some x → w.cell? ⟨b, o + j, none⟩ = some (.int .u64 (x : Int))
theorem NS.nil (w : World) (B : Nat) : NS w B none 0 0 [] := ⟨rfl, Nat.le_refl _, fun _ => rfl, (fun x h => by cases h), fun h => absurd h (by omega)⟩
section
variable {w w' : World} {B B' n c : Nat} {A : Option Addr} {l : List Nat}
theorem NS.keep (h : NS w B A n c l) (hk : ∀ p : Addr, p.block < B → w'.cell? p = w.cell? p) : NS w' B A n c l :=
  ⟨h.len, h.cap, h.nil_, h.lt, fun hn => by
    obtain ⟨b, o, e, hb, hc⟩ := h.at_ hn
    exact ⟨b, o, e, hb, fun j x hx => (hk _ hb).trans (hc j x hx)⟩⟩
theorem NS.more (h : NS w B A n c l) (hB : B ≤ B') : NS w B' A n c l :=
  ⟨h.len, h.cap, h.nil_, h.lt, fun hn => by
    obtain ⟨b, o, e, hb, hc⟩ := h.at_ hn
    exact ⟨b, o, e, by omega, hc⟩⟩
end
/-- A value reads as a tree, from blocks below B. -/
inductive DX (w : World) (B : Nat) : DT → DH → Prop
  | mk {x : DH} {b : List UInt8} {a : List Nat} {ks : List DT} (sub : Nat → DH)
      (hk : -9223372036854775808 ≤ x.k ∧ x.k < 9223372036854775808) (hn : -9223372036854775808 ≤ x.n ∧ x.n < 9223372036854775808)
      (hm : x.b.n < 9223372036854775808 ∧ x.t.length < 9223372036854775808 ∧ x.a.n < 9223372036854775808 ∧ x.ks.n < 9223372036854775808)
      (hb : BS w B x.b.A x.b.n x.b.c b) (ha : NS w B x.a.A x.a.n x.a.c a) (hl : ks.length = x.ks.n) (hcap : x.ks.n ≤ x.ks.c)
      (hc : 0 < x.ks.n → ∃ g o, x.ks.A = some ⟨g, o, none⟩ ∧ g < B ∧ ∀ i, i < x.ks.n → ∀ (j : Nat) (v : Value), (sub i).cs[j]? = some v → w.cell? ⟨g, o + i * 7 + j, none⟩ = some v)
      (hs : ∀ (i : Nat) (T : DT), ks[i]? = some T → DX w B T (sub i)) : DX w B (.mk x.k x.f x.n b x.t a ks) x
/-- What was there reads as it did. -/
def Sees (w : World) (B : Nat) (w' : World) : Prop := B ≤ w'.heap.size ∧ ∀ p : Addr, p.block < B → w'.cell? p = w.cell? p
theorem Sees.refl {w : World} {B : Nat} (h : B ≤ w.heap.size) : Sees w B w := ⟨h, fun _ _ => rfl⟩
theorem Sees.below {w w1 w2 : World} {B : Nat} (h : Sees w B w1) (hb : Below w1.heap.size w1 w2) : Sees w B w2 := ⟨Nat.le_trans h.1 hb.size, fun p hp => (hb.cell (Nat.lt_of_lt_of_le hp h.1)).trans (h.2 p hp)⟩
theorem DX.keep {w w' : World} {B : Nat} {T : DT} {x : DH} (h : DX w B T x) (hk : ∀ p : Addr, p.block < B → w'.cell? p = w.cell? p) : DX w' B T x := by
  induction h with
  | mk sub h1 h2 h3 h4 h5 h6 h7 h8 h9 ih =>
    exact .mk sub h1 h2 h3 (h4.keep hk) (h5.keep hk) h6 h7 (fun hn => by
      obtain ⟨g, o, e, hg, hc⟩ := h8 hn
      exact ⟨g, o, e, hg, fun i hi j v hv => (hk _ hg).trans (hc i hi j v hv)⟩) ih
theorem DX.more {w : World} {B B' : Nat} {T : DT} {x : DH} (h : DX w B T x) (hB : B ≤ B') : DX w B' T x := by
  induction h with
  | mk sub h1 h2 h3 h4 h5 h6 h7 h8 h9 ih =>
    exact .mk sub h1 h2 h3 (h4.more hB) (h5.more hB) h6 h7 (fun hn => by
      obtain ⟨g, o, e, hg, hc⟩ := h8 hn
      exact ⟨g, o, e, Nat.lt_of_lt_of_le hg hB, hc⟩) ih
theorem DX.sees {w w' : World} {B : Nat} {T : DT} {x : DH} (h : DX w B T x) (hs : Sees w B w') : DX w' w'.heap.size T x := (h.keep hs.2).more hs.1
/-- A value that reads as a tree. -/
def DF (T : DT) (v : Value) (w : World) : Prop := ∃ x : DH, v = .agg x.cs ∧ DX w w.heap.size T x
theorem DF.sb {T : DT} : ∀ (v : Value) (w w' : World), DF T v w → SB w w' → DF T v w' := fun v w w' ⟨x, e, h⟩ hb => ⟨x, e, (h.keep fun _ hp => hb.cell hp).more hb.size⟩
instance {T : DT} {v : Value} : Lasts (DF T v) := ⟨fun w w' h hb => DF.sb _ _ _ h hb⟩
theorem al_der (W : World) : (Instr.alloc 27 true (.tuple #[])).run Tryd.prog W = .ok (.pointer (some ⟨W.heap.size, 0, none⟩)) (W.alloc (.cells DH.no.cs 27)) := by kernel_rfl
theorem bx_der (x : DH) (W : World) : (Instr.box 27 (.agg x.cs)).run Tryd.prog W = .ok (.pointer (some ⟨W.heap.size, 0, none⟩)) (W.alloc (.cells x.cs 27)) := by kernel_rfl
theorem info_der (x : DH) : (Tryd.prog.info? 27).map (·.size) = some x.cs.size := by rw [x.size]; kernel_rfl
theorem size_der (x y : DH) : x.cs.size = y.cs.size := rfl
theorem fa_der0 {g : Nat} (W : World) : (Instr.fieldAt 27 (.pointer (some ⟨g, 0, none⟩)) 0).run Tryd.prog W = .ok (.pointer (some ⟨g, 0, none⟩)) W := by kernel_rfl
theorem fa_der1 {g : Nat} (W : World) : (Instr.fieldAt 27 (.pointer (some ⟨g, 0, none⟩)) 1).run Tryd.prog W = .ok (.pointer (some ⟨g, 1, none⟩)) W := by kernel_rfl
theorem fa_der2 {g : Nat} (W : World) : (Instr.fieldAt 27 (.pointer (some ⟨g, 0, none⟩)) 2).run Tryd.prog W = .ok (.pointer (some ⟨g, 2, none⟩)) W := by kernel_rfl
theorem fa_der3 {g : Nat} (W : World) : (Instr.fieldAt 27 (.pointer (some ⟨g, 0, none⟩)) 3).run Tryd.prog W = .ok (.pointer (some ⟨g, 3, none⟩)) W := by kernel_rfl
theorem fa_der4 {g : Nat} (W : World) : (Instr.fieldAt 27 (.pointer (some ⟨g, 0, none⟩)) 4).run Tryd.prog W = .ok (.pointer (some ⟨g, 4, none⟩)) W := by kernel_rfl
theorem fa_der5 {g : Nat} (W : World) : (Instr.fieldAt 27 (.pointer (some ⟨g, 0, none⟩)) 5).run Tryd.prog W = .ok (.pointer (some ⟨g, 5, none⟩)) W := by kernel_rfl
theorem fa_der6 {g : Nat} (W : World) : (Instr.fieldAt 27 (.pointer (some ⟨g, 0, none⟩)) 6).run Tryd.prog W = .ok (.pointer (some ⟨g, 6, none⟩)) W := by kernel_rfl
section
variable {g : Nat} {ty : TypeId} {x : DH}
theorem ld_derK (W : World) (h : Blk W g ty x.cs) : (Instr.loadAt 22 (.pointer (some ⟨g, 0, none⟩))).run Tryd.prog W = .ok (.int .i64 x.k) W := by
  have hc : W.cell? ⟨g, 0, none⟩ = some (.int .i64 x.k) := h.cell 0
  go_simp
theorem ld_derF (W : World) (h : Blk W g ty x.cs) : (Instr.loadAt 4 (.pointer (some ⟨g, 1, none⟩))).run Tryd.prog W = .ok (.bool x.f) W := by
  have hc : W.cell? ⟨g, 1, none⟩ = some (.bool x.f) := h.cell 1
  go_simp
theorem ld_derN (W : World) (h : Blk W g ty x.cs) : (Instr.loadAt 2 (.pointer (some ⟨g, 2, none⟩))).run Tryd.prog W = .ok (.int .i64 x.n) W := by
  have hc : W.cell? ⟨g, 2, none⟩ = some (.int .i64 x.n) := h.cell 2
  go_simp
theorem ld_derB (W : World) (h : Blk W g ty x.cs) : (Instr.loadAt 23 (.pointer (some ⟨g, 3, none⟩))).run Tryd.prog W = .ok (.slice x.b.A x.b.n x.b.c) W := by
  have hc : W.cell? ⟨g, 3, none⟩ = some (.slice x.b.A x.b.n x.b.c) := h.cell 3
  go_simp
theorem ld_derT (W : World) (h : Blk W g ty x.cs) : (Instr.loadAt 9 (.pointer (some ⟨g, 4, none⟩))).run Tryd.prog W = .ok (.string (strB x.t)) W := by
  have hc : W.cell? ⟨g, 4, none⟩ = some (.string (strB x.t)) := h.cell 4
  go_simp
theorem ld_derA (W : World) (h : Blk W g ty x.cs) : (Instr.loadAt 24 (.pointer (some ⟨g, 5, none⟩))).run Tryd.prog W = .ok (.slice x.a.A x.a.n x.a.c) W := by
  have hc : W.cell? ⟨g, 5, none⟩ = some (.slice x.a.A x.a.n x.a.c) := h.cell 5
  go_simp
theorem ld_derS (W : World) (h : Blk W g ty x.cs) : (Instr.loadAt 25 (.pointer (some ⟨g, 6, none⟩))).run Tryd.prog W = .ok (.slice x.ks.A x.ks.n x.ks.c) W := by
  have hc : W.cell? ⟨g, 6, none⟩ = some (.slice x.ks.A x.ks.n x.ks.c) := h.cell 6
  go_simp
end
theorem ia_ders {j n c o g : Nat} (hj : j < n) (W : World) : (Instr.indexAt 25 (.slice (some ⟨g, o, none⟩) n c) (.int .i64 (j : Int))).run Tryd.prog W = .ok (.pointer (some ⟨g, o + j * 7, none⟩)) W := by
  have h1 : (0 : Int) ≤ (j : Int) := by omega
  have h2 : (j : Int) < (n : Int) := by omega
  go_simp
theorem ld_kid {w : World} {g o : Nat} {x : DH} (hc : ∀ (j : Nat) (v : Value), x.cs[j]? = some v → w.cell? ⟨g, o + j, none⟩ = some v) : (Instr.loadAt 27 (.pointer (some ⟨g, o, none⟩))).run Tryd.prog w = .ok (.agg x.cs) w := by
  have hr : w.rangeAt g o x.cs.toList := fun j v hv => hc j v (by rw [← Array.getElem?_toList]; exact hv)
  have := run_loadAt_mid (P := Tryd.prog) w g o 27 x.cs.toList _ hr Tryd.underlying27 rfl (by rw [Array.length_toList, x.size]; kernel_rfl)
  rwa [Array.toArray_toList] at this
section
variable {n : Nat} {w0 w w' : World} {a : Act} {e : Env} {h : Hep} {Q : Exit → Act → World → Prop} {o : Oper}
theorem does_kid {x : Operand} {g i : Nat} {y : DH} (ho : o.op = .load 27 x) (hx : sev e x = some (.pointer (some ⟨g, i, none⟩))) (hg : g < w0.heap.size) (hc : ∀ (j : Nat) (v : Value), y.cs[j]? = some v → w0.cell? ⟨g, i + j, none⟩ = some v) : Does Tryd.prog Q n w0 e h o (.agg y.cs) := does_run fun a w H => by
  unfold execOp
  have h1 := ld_kid (w := w) (g := g) (o := i) (x := y) fun j v hv => (H.below.cell (p := ⟨g, i + j, none⟩) hg).trans (hc j v hv)
  simp only [ho, H.ev hx, Sem.run_bind, h1, Result.andThen_ok, Sem.run_pure]
end
end Go.Proofs.YtonhkclkddobhaaDoor
namespace Go.Proofs.YtonhkclkddobhaaDoor
set_option linter.unusedVariables false
set_option linter.unusedSimpArgs false
open Go Go.RowKit
section
variable {P : Program} {n : Nat} {w0 w w' : World} {a : Act} {e : Env} {h : Hep} {Q : Exit → Act → World → Prop} {ops : Array Oper} {plan : List It} {ms : List Nat} {rest : List Oper} {o : Oper}
theorem St.pickF {t : Hep} (H : St n w0 a w e (h ++ t)) (es hs : List Nat) (hr : rises hs = true) : St n w0 a w (picks e es) (picks h hs ++ t) := by
  have hap := List.pairwise_append.1 H.apart
  refine H.sub (fun p hp => ?_) (fun p hp => ?_) (List.pairwise_append.2 ⟨picks_pw hap.1 hr, hap.2.1, fun p hp q hq => ?_⟩)
  · obtain ⟨k, _, hk⟩ := picks_get hp
    exact List.mem_iff_getElem?.2 ⟨k, hk⟩
  · rcases List.mem_append.1 hp with hp | hp
    · obtain ⟨k, _, hk⟩ := picks_get hp
      exact List.mem_append.2 (.inl (List.mem_iff_getElem?.2 ⟨k, hk⟩))
    · exact List.mem_append.2 (.inr hp)
  · obtain ⟨k, _, hk⟩ := picks_get hp
    exact hap.2.2 p (List.mem_iff_getElem?.2 ⟨k, hk⟩) q hq
end
end Go.Proofs.YtonhkclkddobhaaDoor
namespace Go.Proofs.YtonhkclkddobhaaDoor
set_option linter.unusedVariables false
set_option linter.unusedSimpArgs false
open Go Go.RowKit
section
variable {P : Program} {n : Nat} {w0 w w' : World} {a : Act} {e : Env} {h : Hep} {Q : Exit → Act → World → Prop} {ops : Array Oper} {plan : List It} {ms F : List Nat} {rest : List Oper} {o : Oper}
end
end Go.Proofs.YtonhkclkddobhaaDoor
namespace Go.Proofs.YtonhkclkddobhaaDoor
set_option linter.unusedVariables false
set_option linter.unusedSimpArgs false
set_option maxRecDepth 100000
open Go Go.RowKit
theorem zd_lss_int {k m : Int} {b : Bool} (h : decide (k < m) = b) (p q : Operand) (W : World) : (do eqGuard .lss 3 p q (.int .i64 k) (.int .i64 m); binOp .lss 3 (.int .i64 k) (.int .i64 m) : Sem Value).run Tryd.prog W = .ok (.bool b) W := by
  go_simp
  all_goals exact h
theorem zd_leq_int {k m : Int} {b : Bool} (h : decide (k ≤ m) = b) (p q : Operand) (W : World) : (do eqGuard .leq 3 p q (.int .i64 k) (.int .i64 m); binOp .leq 3 (.int .i64 k) (.int .i64 m) : Sem Value).run Tryd.prog W = .ok (.bool b) W := by
  go_simp
  all_goals exact h
theorem zd_gtr_int {k m : Int} {b : Bool} (h : decide (m < k) = b) (p q : Operand) (W : World) : (do eqGuard .gtr 3 p q (.int .i64 k) (.int .i64 m); binOp .gtr 3 (.int .i64 k) (.int .i64 m) : Sem Value).run Tryd.prog W = .ok (.bool b) W := by
  go_simp
  all_goals exact h
theorem zd_geq_int {k m : Int} {b : Bool} (h : decide (m ≤ k) = b) (p q : Operand) (W : World) : (do eqGuard .geq 3 p q (.int .i64 k) (.int .i64 m); binOp .geq 3 (.int .i64 k) (.int .i64 m) : Sem Value).run Tryd.prog W = .ok (.bool b) W := by
  go_simp
  all_goals exact h
theorem zd_eql_int {k m : Int} {b : Bool} (h : decide (k = m) = b) (p q : Operand) (W : World) : (do eqGuard .eql 3 p q (.int .i64 k) (.int .i64 m); binOp .eql 3 (.int .i64 k) (.int .i64 m) : Sem Value).run Tryd.prog W = .ok (.bool b) W := by
  go_simp
  all_goals exact h
theorem zd_add_int {k m c : Int} (hc : k + m = c) (h : -9223372036854775808 ≤ c ∧ c < 9223372036854775808) (p q : Operand) (W : World) : (do eqGuard .add 3 p q (.int .i64 k) (.int .i64 m); binOp .add 3 (.int .i64 k) (.int .i64 m) : Sem Value).run Tryd.prog W = .ok (.int .i64 c) W := by
  subst hc
  have e : IntKind.i64.wrap (k + m) = k + m := IntWalk.i64_in _ (by omega)
  go_simp
theorem zd_sub_int {k m c : Int} (hc : k - m = c) (h : -9223372036854775808 ≤ c ∧ c < 9223372036854775808) (p q : Operand) (W : World) : (do eqGuard .sub 3 p q (.int .i64 k) (.int .i64 m); binOp .sub 3 (.int .i64 k) (.int .i64 m) : Sem Value).run Tryd.prog W = .ok (.int .i64 c) W := by
  subst hc
  have e : IntKind.i64.wrap (k - m) = k - m := IntWalk.i64_in _ (by omega)
  go_simp
theorem zd_eql_derkind {k m : Int} {b : Bool} (h : decide (k = m) = b) (p q : Operand) (W : World) : (do eqGuard .eql 22 p q (.int .i64 k) (.int .i64 m); binOp .eql 22 (.int .i64 k) (.int .i64 m) : Sem Value).run Tryd.prog W = .ok (.bool b) W := by
  go_simp
  all_goals exact h
theorem does_minZ {P : Program} {n : Nat} {w0 : World} {e : Env} {h : Hep} {Q : Exit → Act → World → Prop} {o : Oper} {x y : Operand} {k m : Nat} {tys : Array TypeId} (ho : o.op = .call { callee := .builtin .min, args := #[x, y], argTypes := tys }) (hx : sev e x = some (.int .i64 (k : Int))) (hy : sev e y = some (.int .i64 (m : Int))) : Does P Q n w0 e h o (.int .i64 ((min k m : Nat) : Int)) := does_run fun a w H => by
  have e2 : (if m < k then (m : Int) else (k : Int)) = ((min k m : Nat) : Int) := by split <;> omega
  simp [execOp, ho, resolve, invoke, builtin, H.ev hx, H.ev hy, Builtin.min_, Builtin.min2, Result.andThen, e2]
theorem does_lenT {P : Program} {n : Nat} {w0 : World} {e : Env} {h : Hep} {Q : Exit → Act → World → Prop} {o : Oper} {x : Operand} {l : List UInt8} (hu : P.underlying 9 = some .string) (ho : o.op = .call { callee := .builtin .len, args := #[x], argTypes := #[9] }) (hx : sev e x = some (.string (strB l))) : Does P Q n w0 e h o (.int .i64 ((l.length : Nat) : Int)) := does_run fun a w H => by
  simp [execOp, ho, resolve, invoke, builtin, H.ev hx, Builtin.len_, Builtin.lenOf, goInt, run_underlying hu, Result.andThen, strB_size]
theorem ia_kids {A : Option Addr} {j n c o g : Nat} (hA : A = some ⟨g, o, none⟩) (hj : j < n) (W : World) : (Instr.indexAt 25 (.slice A n c) (.int .i64 (j : Int))).run Tryd.prog W = .ok (.pointer (some ⟨g, o + j * 7, none⟩)) W := by
  subst hA
  exact ia_ders hj W
def ownBig (b t : List UInt8) (a : List Nat) (m : Int) : Int := m - 1 - ((min b.length 100000 / 64 : Nat) : Int) - ((min t.length 100000 / 64 : Nat) : Int) - ((min a.length 100000 : Nat) : Int)
def bigD : DT → Int → Int
  | .mk _ _ _ b t a ks, m => ks.foldl (fun m T => if 0 ≤ m then bigD T m else m) (ownBig b t a m)
theorem fold_neg (ks : List DT) {m : Int} (h : m < 0) : ks.foldl (fun m T => if 0 ≤ m then bigD T m else m) m = m := by
  induction ks with
  | nil => rfl
  | cons T r ih => rw [List.foldl_cons, if_neg (by omega), ih]
theorem ownBig_le (b t : List UInt8) (a : List Nat) (m : Int) : m - 200000 ≤ ownBig b t a m ∧ ownBig b t a m < m := by
  unfold ownBig
  omega
theorem fold_le (ks : List DT) (h : ∀ T ∈ ks, ∀ m, 0 ≤ m → -200000 ≤ bigD T m ∧ bigD T m < m) (m : Int) (hm : -200000 ≤ m) : -200000 ≤ ks.foldl (fun m T => if 0 ≤ m then bigD T m else m) m ∧ ks.foldl (fun m T => if 0 ≤ m then bigD T m else m) m ≤ m := by
  induction ks generalizing m with
  | nil => exact ⟨hm, Int.le_refl _⟩
  | cons T r ih =>
    rw [List.foldl_cons]
    by_cases h0 : 0 ≤ m
    · rw [if_pos h0]
      have h1 := h T List.mem_cons_self m h0
      have h2 := ih (fun U hU => h U (List.mem_cons_of_mem _ hU)) (bigD T m) h1.1
      exact ⟨h2.1, by omega⟩
    · rw [if_neg h0]
      exact ih (fun U hU => h U (List.mem_cons_of_mem _ hU)) m hm
theorem bigD_le : ∀ (T : DT) (m : Int), 0 ≤ m → -200000 ≤ bigD T m ∧ bigD T m < m
  | .mk _ _ _ b t a ks, m, hm => by
    have h1 := ownBig_le b t a m
    have h2 := fold_le ks (fun T hT m hm => bigD_le T m hm) (ownBig b t a m) (by omega)
    rw [bigD]
    exact ⟨h2.1, by omega⟩
/-- A value's kids, where they lie. -/
theorem kids_at {w W : World} {B n : Nat} {A : Option Addr} {sub : Nat → DH} (hc : 0 < n → ∃ g o, A = some ⟨g, o, none⟩ ∧ g < B ∧ ∀ i, i < n → ∀ (j : Nat) (v : Value), (sub i).cs[j]? = some v → w.cell? ⟨g, o + i * 7 + j, none⟩ = some v) (hW : Sees w B W) : ∃ g o, 0 < n → A = some ⟨g, o, none⟩ ∧ g < W.heap.size ∧ ∀ i, i < n → ∀ (j : Nat) (v : Value), (sub i).cs[j]? = some v → W.cell? ⟨g, o + i * 7 + j, none⟩ = some v := by
  by_cases h0 : 0 < n
  · obtain ⟨g, o, e, hg, hc⟩ := hc h0
    exact ⟨g, o, fun _ => ⟨e, Nat.lt_of_lt_of_le hg hW.1, fun i hi j v hv => (hW.2 ⟨g, o + i * 7 + j, none⟩ hg).trans (hc i hi j v hv)⟩⟩
  · exact ⟨0, 0, fun h => absurd h h0⟩
end Go.Proofs.YtonhkclkddobhaaDoor
namespace Go.Proofs.YtonhkclkddobhaaDoor
set_option linter.unusedVariables false
set_option linter.unusedSimpArgs false
set_option maxRecDepth 100000
open Go Go.RowKit
theorem zd_gtr_u64 {k m : Int} {b : Bool} (h : decide (m < k) = b) (p q : Operand) (W : World) : (do eqGuard .gtr 36 p q (.int .u64 k) (.int .u64 m); binOp .gtr 36 (.int .u64 k) (.int .u64 m) : Sem Value).run Tryd.prog W = .ok (.bool b) W := by
  go_simp
  all_goals exact h
theorem zd_eql_u64 {k m : Int} {b : Bool} (h : decide (k = m) = b) (p q : Operand) (W : World) : (do eqGuard .eql 36 p q (.int .u64 k) (.int .u64 m); binOp .eql 36 (.int .u64 k) (.int .u64 m) : Sem Value).run Tryd.prog W = .ok (.bool b) W := by
  go_simp
  all_goals exact h
theorem zd_geq_u8 {k m : Int} {b : Bool} (h : decide (m ≤ k) = b) (p q : Operand) (W : World) : (do eqGuard .geq 5 p q (.int .u8 k) (.int .u8 m); binOp .geq 5 (.int .u8 k) (.int .u8 m) : Sem Value).run Tryd.prog W = .ok (.bool b) W := by
  go_simp
  all_goals exact h
theorem zd_eql_u8 {k m : Int} {b : Bool} (h : decide (k = m) = b) (p q : Operand) (W : World) : (do eqGuard .eql 5 p q (.int .u8 k) (.int .u8 m); binOp .eql 5 (.int .u8 k) (.int .u8 m) : Sem Value).run Tryd.prog W = .ok (.bool b) W := by
  go_simp
  all_goals exact h
theorem zd_neq_i64 {k m : Int} {b : Bool} (h : decide (k ≠ m) = b) (p q : Operand) (W : World) : (do eqGuard .neq 2 p q (.int .i64 k) (.int .i64 m); binOp .neq 2 (.int .i64 k) (.int .i64 m) : Sem Value).run Tryd.prog W = .ok (.bool b) W := by
  have e : (!decide (k = m)) = b := by rw [← h, decide_not]
  go_simp
  exact e
theorem sd_eql {l m : List UInt8} {b : Bool} (h : decide (l = m) = b) (p q : Operand) (W : World) : (do eqGuard .eql 9 p q (.string (strB l)) (.string (strB m)); binOp .eql 9 (.string (strB l)) (.string (strB m)) : Sem Value).run Tryd.prog W = .ok (.bool b) W := by
  go_simp
  rw [strB_toList, strB_toList, ← h]
  rw [Bool.eq_iff_iff]
  simp only [beq_iff_eq, decide_eq_true_eq]
section
variable {P : Program} {n : Nat} {w0 w w' : World} {a : Act} {e : Env} {h : Hep} {Q : Exit → Act → World → Prop} {ops : Array Oper} {o : Oper}
theorem ob_strD {x : Operand} {v : Value} {l : List UInt8} (H : St n w0 a w e h) (hw : ∀ a w, St n w0 a w e h → Region.wanted o (yielded ops a.tmps) = true) (ho : o.op = .convert 23 9 x) (hx : sev e x = some v) (hv : BF l v w) :
    ObS Tryd.prog ops Q o a w (fun u _ => u = .string (strB l)) := by
  obtain ⟨A, k, c, rfl, hb⟩ := hv
  have hs := run_str (P := Tryd.prog) hb 23 5 9 Tryd.underlying23 Tryd.underlying5 Tryd.underlying9
  refine ob_runR H hw ⟨_, w, ?_, Below.refl _ _, rfl⟩
  simp [execOp, ho, H.ev hx, hs, Result.andThen]
theorem made_evD {t : TypeId} {k : Nat} {ps : List (Nat × Operand)} {vs : List (Nat × Value)} {F : Nat → Value} {z : Array Value} {t' : TypeId} (ho : o.op = .buildSlice t k ps.toArray) (hx : sevp e ps = some vs)
    (hr : ∀ W, (Instr.buildSlice t k vs.toArray).run P W = .ok (F W.heap.size) (W.alloc (.cells z t'))) : ∀ a w, St n w0 a w e h → (execOp a.eval o).run P w = .ok (.value (F w.heap.size)) (w.alloc (.cells z t')) := fun a w H => by
  unfold execOp
  have e1 : ps.toArray.map (fun (p : Nat × Operand) => (p.1, a.eval p.2)) = vs.toArray := by rw [List.map_toArray, H.evp hx]
  simp only [ho]
  show (do let x ← Instr.buildSlice t k (ps.toArray.map (fun (p : Nat × Operand) => (p.1, a.eval p.2))); pure (Next.value x) : Sem Next).run P w = _
  rw [e1, Sem.run_bind, hr]
  rfl
end
theorem ld_derFb {g : Nat} {ty : TypeId} {x : DH} {b : Bool} (hf : x.f = b) (W : World) (h : Blk W g ty x.cs) : (Instr.loadAt 4 (.pointer (some ⟨g, 1, none⟩))).run Tryd.prog W = .ok (.bool b) W := by
  subst hf
  exact ld_derF W h
theorem rounds_at (p : Nat → Prop) : ∀ n : Nat, ∃ N, N ≤ n ∧ (∀ i, i < N → p i) ∧ (N = n ∨ N < n ∧ ¬ p N)
  | 0 => ⟨0, Nat.le_refl _, fun i h => absurd h (by omega), .inl rfl⟩
  | n + 1 => by
    obtain ⟨N, h1, h2, h3⟩ := rounds_at p n
    rcases h3 with rfl | ⟨h3, h4⟩
    · by_cases h : p N
      · exact ⟨N + 1, Nat.le_refl _, fun i hi => by
          by_cases e : i = N
          · subst e; exact h
          · exact h2 i (by omega), .inl rfl⟩
      · exact ⟨N, by omega, h2, .inr ⟨by omega, h⟩⟩
    · exact ⟨N, by omega, h2, .inr ⟨by omega, h4⟩⟩
theorem ia_u64D {A : Option Addr} {j n c o g : Nat} (hA : A = some ⟨g, o, none⟩) (hj : j < n) (W : World) : (Instr.indexAt 24 (.slice A n c) (.int .i64 (j : Int))).run Tryd.prog W = .ok (.pointer (some ⟨g, o + j, none⟩)) W := by
  subst hA
  have h1 : (0 : Int) ≤ (j : Int) := by omega
  have h2 : (j : Int) < (n : Int) := by omega
  go_simp
theorem ld_cellD {g f x : Nat} (W : World) (hc : W.cell? ⟨g, f, none⟩ = some (.int .u64 (x : Int))) : (Instr.loadAt 36 (.pointer (some ⟨g, f, none⟩))).run Tryd.prog W = .ok (.int .u64 (x : Int)) W := by go_simp
theorem NS.nat {w : World} {B n c : Nat} {A : Option Addr} {l : List Nat} (h : NS w B A n c l) (hB : B ≤ w.heap.size) : ∃ g o, 0 < n → A = some ⟨g, o, none⟩ ∧ g < w.heap.size ∧ ∀ i, i < n → w.cell? ⟨g, o + i, none⟩ = some (.int .u64 ((l.getD i 0 : Nat) : Int)) := by
  by_cases h0 : 0 < n
  · obtain ⟨g, o, e, hg, hc⟩ := h.at_ h0
    exact ⟨g, o, fun _ => ⟨e, by omega, fun i hi => hc i _ (by
      have := h.len
      rw [List.getD_eq_getElem?_getD, List.getElem?_eq_getElem (by omega)]
      rfl)⟩⟩
  · exact ⟨0, 0, fun h => absurd h h0⟩
end Go.Proofs.YtonhkclkddobhaaDoor
namespace Go.Proofs.YtonhkclkddobhaaDoor
set_option linter.unusedVariables false
set_option linter.unusedSimpArgs false
set_option maxRecDepth 100000
open Go Go.RowKit
/-- What utf8.ValidString answers. -/
def UV (u8 : List UInt8 → Bool) (w : World) : Prop := ∀ W, Below w.heap.size w W → ∀ l : List UInt8, l.length < 9223372036854775808 → Calls Tryd.prog 46 #[.string (strB l)] W (fun r W' => r = .returned (.bool (u8 l)) ∧ Below W.heap.size W W')
theorem UV.ext {u8 : List UInt8 → Bool} {w W : World} (h : UV u8 w) (hb : Below w.heap.size w W) : UV u8 W := fun W2 hb2 => h W2 (hb.trans (hb2.mono hb.size))
theorem ix_str {l : List UInt8} {j : Nat} (h : j < l.length) (W : World) : (Instr.index 9 (.string (strB l)) (.int .i64 (j : Int))).run Tryd.prog W = .ok (.int .u8 (((l.getD j 0).toNat : Nat) : Int)) W := by
  have h1 : (0 : Int) ≤ (j : Int) := by omega
  have h2 : (j : Int) < ((strB l).size : Int) := by rw [strB_size]; omega
  have h3 : j < (strB l).size := by rw [strB_size]; exact h
  have h4 : (strB l)[j]'h3 = l.getD j 0 := by
    rw [List.getD_eq_getElem?_getD, List.getElem?_eq_getElem h]
    rfl
  go_simp
  all_goals first | exact h4 | (simp [h4]) | skip
end Go.Proofs.YtonhkclkddobhaaDoor
namespace Go.Proofs.YtonhkclkddobhaaDoor
set_option linter.unusedVariables false
set_option linter.unusedSimpArgs false
set_option maxRecDepth 100000
open Go Go.RowKit
theorem mayD_succ (u8 : List UInt8 → Bool) (d : Nat) (k : Int) (f : Bool) (n : Int) (b t : List UInt8) (a : List Nat) (ks : List DT) : mayD u8 (d + 1) (.mk k f n b t a ks) = (ownD u8 (.mk k f n b t a ks) && ks.all (mayD u8 d)) := rfl
end Go.Proofs.YtonhkclkddobhaaDoor
namespace Go.Proofs.YtonhkclkddobhaaDoor
set_option linter.unusedVariables false
set_option linter.unusedSimpArgs false
set_option maxRecDepth 100000
open Go Go.RowKit
theorem cv_uD {x : Nat} (hx : x < 256) (W : World) : (convert 36 5 (.int .u64 (x : Int))).run Tryd.prog W = .ok (bv (byteD x)) W := by
  have e : IntKind.u8.wrap (x : Int) = ((byteD x).toNat : Int) := by
    rw [IntKind.wrap_u8', byteD_nat hx]
    omega
  unfold bv
  go_simp
theorem cv_iD {x : Nat} (hx : x < 256) (W : World) : (convert 3 5 (.int .i64 (x : Int))).run Tryd.prog W = .ok (bv (byteD x)) W := by
  have e : IntKind.u8.wrap (x : Int) = ((byteD x).toNat : Int) := by
    rw [IntKind.wrap_u8', byteD_nat hx]
    omega
  unfold bv
  go_simp
theorem run_byteD (w : World) (x : UInt8) : (Instr.buildSlice 23 1 #[(0, bv x)]).run Tryd.prog w = .ok (.slice (some ⟨w.heap.size, 0, none⟩) 1 1) (w.alloc (.cells (bvs [x]) 5)) := by kernel_rfl
theorem run_byteD3 (w : World) (x y z : UInt8) : (Instr.buildSlice 23 3 #[(0, bv x), (1, bv y), (2, bv z)]).run Tryd.prog w = .ok (.slice (some ⟨w.heap.size, 0, none⟩) 3 3) (w.alloc (.cells (bvs [x, y, z]) 5)) := by kernel_rfl
section
variable {n : Nat} {w0 w : World} {a : Act} {e : Env} {h : Hep} {Q : Exit → Act → World → Prop} {ops : Array Oper} {o : Oper}
theorem of_new (H : St n w0 a w e h) {l : List UInt8} (hl : l.length ≤ maxLen) : SB w (w.alloc (.cells (bvs l) 5)) ∧ OF w0.heap.size h l (.slice (some ⟨w.heap.size, 0, none⟩) l.length l.length) (w.alloc (.cells (bvs l) 5)) :=
  ⟨(Below.refl _ _).alloc (Nat.le_refl _) _, OwnB.ofBlk (Blk.new w 5 (bvs l)) _ rfl hl H.below.size, fun g hg p hp => by
    injection hg with hg
    subst hg
    exact Nat.ne_of_lt (H.heap p hp).lt⟩
theorem ob_byteOF {y0 : Operand} {x : UInt8} (H : St n w0 a w e h) (hw : ∀ a w, St n w0 a w e h → Region.wanted o (yielded ops a.tmps) = true) (ho : o.op = .buildSlice 23 1 #[(0, y0)]) (h0 : sev e y0 = some (bv x)) : ObS Tryd.prog ops Q o a w (OF w0.heap.size h [x]) := by
  obtain ⟨h1, h2⟩ := of_new H (l := [x]) (by unfold maxLen; simp)
  refine ob_runR H hw ⟨_, _, ?_, h1, h2⟩
  simp [execOp, ho, H.ev h0, run_byteD, Result.andThen]
theorem ob_byteOF3 {y0 y1 y2 : Operand} {x y z : UInt8} (H : St n w0 a w e h) (hw : ∀ a w, St n w0 a w e h → Region.wanted o (yielded ops a.tmps) = true) (ho : o.op = .buildSlice 23 3 #[(0, y0), (1, y1), (2, y2)]) (h0 : sev e y0 = some (bv x)) (h1 : sev e y1 = some (bv y)) (h2 : sev e y2 = some (bv z)) : ObS Tryd.prog ops Q o a w (OF w0.heap.size h [x, y, z]) := by
  obtain ⟨h3, h4⟩ := of_new H (l := [x, y, z]) (by unfold maxLen; simp)
  refine ob_runR H hw ⟨_, _, ?_, h3, h4⟩
  simp [execOp, ho, H.ev h0, H.ev h1, H.ev h2, run_byteD3, Result.andThen]
end
theorem ud_quo {k m : Nat} (h : k < 18446744073709551616) (hm : 0 < m) (p q : Operand) (W : World) : (do eqGuard .quo 36 p q (.int .u64 (k : Int)) (.int .u64 (m : Int)); binOp .quo 36 (.int .u64 (k : Int)) (.int .u64 (m : Int)) : Sem Value).run Tryd.prog W = .ok (.int .u64 ((k / m : Nat) : Int)) W := by
  have e0 : ∀ d : Nat, d ≤ k → IntKind.u64.wrap (d : Int) = d := fun d hd => IntWalk.u64_in _ (by omega)
  have h2 : k / m ≤ k := Nat.div_le_self k m
  have h3 : ((k / m : Nat) : Int) = (k : Int) / (m : Int) := Int.natCast_ediv k m
  have e1 : ((k : Int)).tdiv (m : Int) = (k : Int) / (m : Int) := Int.tdiv_eq_ediv_of_nonneg (by omega)
  have e : IntKind.u64.wrap ((k : Int) / (m : Int)) = (k : Int) / (m : Int) := by rw [← h3]; exact e0 _ h2
  have h0 : ¬ m = 0 := by omega
  go_simp
theorem ud_add {k m : Nat} (h : k + m < 18446744073709551616) (p q : Operand) (W : World) : (do eqGuard .add 36 p q (.int .u64 (k : Int)) (.int .u64 (m : Int)); binOp .add 36 (.int .u64 (k : Int)) (.int .u64 (m : Int)) : Sem Value).run Tryd.prog W = .ok (.int .u64 ((k + m : Nat) : Int)) W := by
  have e : IntKind.u64.wrap ((k : Int) + (m : Int)) = ((k + m : Nat) : Int) := by rw [IntWalk.u64_in _ (by omega)]; omega
  go_simp
def gmD (n : Nat) : Nat → Nat
  | 0 => n / 128
  | k + 1 => gmD n k / 128
def glD (n : Nat) : Nat → List UInt8
  | 0 => [byteD (n % 128)]
  | k + 1 => byteD (gmD n k % 128 + 128) :: glD n k
theorem gmD_lt {n : Nat} (h : n < 18446744073709551616) : ∀ k, gmD n k < 18446744073709551616
  | 0 => by unfold gmD; omega
  | k + 1 => by have := gmD_lt h k; unfold gmD; omega
theorem glD_len (n : Nat) : ∀ k, (glD n k).length = k + 1
  | 0 => rfl
  | k + 1 => by unfold glD; rw [List.length_cons, glD_len n k]
theorem glD_all (n : Nat) : ∀ k, (∀ i, i < k → 0 < gmD n i) → hiD (gmD n k) ++ glD n k = groupsD n
  | 0, _ => rfl
  | k + 1, h => by
    have h0 := h k (by omega)
    rw [← glD_all n k (fun i hi => h i (by omega))]
    conv => rhs; rw [hiD, dif_neg (by omega), List.append_assoc]
    rfl
theorem glD_0 (n : Nat) : glD n 0 = [byteD (n % 128)] := rfl
theorem glD_succ (n k : Nat) : glD n (k + 1) = [byteD (gmD n k % 128 + 128)] ++ glD n k := rfl
theorem gl_rounds {n : Nat} (h : n < 18446744073709551616) : ∃ N, N < 10 ∧ (∀ i, i < N → 0 < gmD n i) ∧ gmD n N = 0 := by
  obtain ⟨N, h1, h2, h3⟩ := rounds_at (fun i => 0 < gmD n i) 10
  rcases h3 with rfl | ⟨h3, h4⟩
  · have h9 := h2 9 (by omega)
    simp only [gmD] at h9
    omega
  · exact ⟨N, h3, h2, by omega⟩
theorem gl_end {n N : Nat} (hp : ∀ i, i < N → 0 < gmD n i) (h : gmD n N = 0) : glD n N = groupsD n := by
  rw [← glD_all n N hp, h, hiD, dif_pos rfl, List.nil_append]
attribute [local irreducible] bvs bv byteD gmD glD groupsD
end Go.Proofs.YtonhkclkddobhaaDoor
namespace Go.Proofs.YtonhkclkddobhaaDoor
set_option linter.unusedVariables false
set_option linter.unusedSimpArgs false
set_option maxRecDepth 100000
open Go Go.RowKit
def pwD (s : Nat) : Int := 2 ^ s
theorem cv_m64 (n : Int) (W : World) : (convert 2 36 (.int .i64 n)).run Tryd.prog W = .ok (.int .u64 ((m64 n : Nat) : Int)) W := by
  have e : IntKind.u64.wrap n = ((m64 n : Nat) : Int) := by
    have e1 : IntKind.u64.wrap n = n % 18446744073709551616 := by simp [IntKind.wrap, IntKind.bits, IntKind.signed]
    rw [e1]
    unfold m64
    omega
  go_simp
theorem m64_lt (n : Int) : m64 n < 18446744073709551616 := by unfold m64; omega
/-- Does a number not fit into so many bytes and one? -/
def noFit (n : Int) (k : Nat) : Prop := n < -(pwD (8 * (k + 1) - 1)) ∨ pwD (8 * (k + 1) - 1) ≤ n
theorem noFit_iff (n : Int) (k : Nat) : fitsD n (k + 1) = true ↔ ¬ noFit n k := by
  unfold fitsD noFit pwD
  rw [Bool.and_eq_true, decide_eq_true_eq, decide_eq_true_eq]
  omega
theorem size_end {n : Int} {N : Nat} (hpos : ∀ i, i < N → noFit n i) (hend : N = 7 ∨ N < 7 ∧ ¬ noFit n N) : sizeD n = N + 1 := by
  have hf : ∀ i, i < N → fitsD n (i + 1) = false := fun i hi => by
    cases e : fitsD n (i + 1) with
    | false => rfl
    | true => exact absurd (hpos i hi) ((noFit_iff n i).1 e)
  have ht : N < 7 → fitsD n (N + 1) = true := fun h7 => (noFit_iff n N).2 (by
    rcases hend with h | h
    · omega
    · exact h.2)
  have hN : N ≤ 7 := by omega
  unfold sizeD
  obtain rfl | rfl | rfl | rfl | rfl | rfl | rfl | rfl : N = 0 ∨ N = 1 ∨ N = 2 ∨ N = 3 ∨ N = 4 ∨ N = 5 ∨ N = 6 ∨ N = 7 := by omega
  · rw [if_pos (ht (by omega))]
  · rw [hf 0 (by omega), if_neg (by decide), if_pos (ht (by omega))]
  · rw [hf 0 (by omega), if_neg (by decide), hf 1 (by omega), if_neg (by decide), if_pos (ht (by omega))]
  · rw [hf 0 (by omega), if_neg (by decide), hf 1 (by omega), if_neg (by decide), hf 2 (by omega), if_neg (by decide), if_pos (ht (by omega))]
  · rw [hf 0 (by omega), if_neg (by decide), hf 1 (by omega), if_neg (by decide), hf 2 (by omega), if_neg (by decide), hf 3 (by omega), if_neg (by decide), if_pos (ht (by omega))]
  · rw [hf 0 (by omega), if_neg (by decide), hf 1 (by omega), if_neg (by decide), hf 2 (by omega), if_neg (by decide), hf 3 (by omega), if_neg (by decide), hf 4 (by omega), if_neg (by decide), if_pos (ht (by omega))]
  · rw [hf 0 (by omega), if_neg (by decide), hf 1 (by omega), if_neg (by decide), hf 2 (by omega), if_neg (by decide), hf 3 (by omega), if_neg (by decide), hf 4 (by omega), if_neg (by decide), hf 5 (by omega), if_neg (by decide), if_pos (ht (by omega))]
  · rw [hf 0 (by omega), if_neg (by decide), hf 1 (by omega), if_neg (by decide), hf 2 (by omega), if_neg (by decide), hf 3 (by omega), if_neg (by decide), hf 4 (by omega), if_neg (by decide), hf 5 (by omega), if_neg (by decide), hf 6 (by omega), if_neg (by decide)]
def dvD (m : Nat) : Nat → Nat
  | 0 => m
  | k + 1 => dvD m k / 256
theorem dvD_div : ∀ (k m : Nat), dvD (m / 256) k = dvD m k / 256
  | 0, _ => rfl
  | k + 1, m => by show dvD (m / 256) k / 256 = dvD m k / 256 / 256; rw [dvD_div k m]
theorem be_cons : ∀ (k m : Nat), beD (k + 1) m = [byteD (dvD m k % 256)] ++ beD k m
  | 0, m => rfl
  | k + 1, m => by
    show beD (k + 1) (m / 256) ++ [byteD (m % 256)] = _
    rw [be_cons k (m / 256), dvD_div, List.append_assoc]
    rfl
attribute [local irreducible] bvs bv byteD pwD noFit m64 dvD beD wholeD
theorem zd_mul8 {k : Nat} (h : k < 100) (p q : Operand) (W : World) : (do eqGuard .mul 3 p q (.int .i64 8) (.int .i64 (k : Int)); binOp .mul 3 (.int .i64 8) (.int .i64 (k : Int)) : Sem Value).run Tryd.prog W = .ok (.int .i64 ((8 * k : Nat) : Int)) W := by
  have e : IntKind.i64.wrap (8 * (k : Int)) = ((8 * k : Nat) : Int) := by rw [IntWalk.i64_in _ (by omega)]; omega
  go_simp
end Go.Proofs.YtonhkclkddobhaaDoor
namespace Go.Proofs.YtonhkclkddobhaaDoor
set_option linter.unusedVariables false
set_option linter.unusedSimpArgs false
set_option maxRecDepth 100000
open Go Go.RowKit
section
variable {n : Nat} {w0 w : World} {a : Act} {e : Env} {h : Hep} {Q : Exit → Act → World → Prop} {ops : Array Oper} {o : Oper}
/-- '[]byte(s)'. -/
theorem ob_ofStrD {x : Operand} {l : List UInt8} (H : St n w0 a w e h) (hw : ∀ a w, St n w0 a w e h → Region.wanted o (yielded ops a.tmps) = true) (ho : o.op = .convert 9 23 x) (hx : sev e x = some (.string (strB l))) : ObS Tryd.prog ops Q o a w (BF l) := by
  have hr := run_bytes_of_string (P := Tryd.prog) w 9 23 5 (strB l) Tryd.underlying9 Tryd.underlying23 Tryd.underlying5
  refine ob_runR H hw ⟨.slice (some ⟨w.heap.size, 0, none⟩) (strB l).size (grownCap w (strB l).size 0 5), w.drew.alloc (.cells (bytesRow (strB l) (grownCap w (strB l).size 0 5)) 5 ((bytesRow (strB l) (grownCap w (strB l).size 0 5)).size, (bytesRow (strB l) (grownCap w (strB l).size 0 5)).size + 1)), ?_, (Below.refl _ _).drew.alloc (Nat.le_refl _) _, ⟨_, _, _, rfl, (strB_size l).symm, grownCap_ge w _ 0 5, (fun e => by cases e), fun _ => ⟨w.heap.size, 0, rfl, by simp, fun j y hy => ?_⟩⟩⟩
  · simp [execOp, ho, H.ev hx, hr, Result.andThen]
  · have hj : j < (strB l).data.size := by
      have := (List.getElem?_eq_some_iff.1 hy).1
      simpa [strB] using this
    have hc := bytesRow_at (strB l) (grownCap w (strB l).size 0 5) j hj
    rw [Nat.zero_add, cell_of_row _ w.heap.size j _ 5 _ (heap_alloc_new w.drew _), hc]
    have h2 : l[j]? = some ((strB l).data[j]) := by
      have := List.getElem?_eq_getElem (l := l) (i := j) (by simpa [strB] using hj)
      rw [this]
      rfl
    rw [hy] at h2
    injection h2 with h2
    rw [h2]
end
theorem of_call {n : Nat} {w0 w : World} {a : Act} {e : Env} {h : Hep} {f : FuncId} {vs : Array Value} {l : List UInt8} (H : St n w0 a w e h) (hc : Calls Tryd.prog f vs w (fun r W' => ∃ v, r = .returned v ∧ Below w.heap.size w W' ∧ OwnB W' w.heap.size 5 v l)) :
    Calls Tryd.prog f vs w (fun r W' => ∃ v, r = .returned v ∧ Below w.heap.size w W' ∧ OF w0.heap.size h l v W') := by
  refine hc.mono ?_
  rintro r W' ⟨v, rfl, hb, ho⟩
  refine ⟨v, rfl, hb, ⟨ho.1, ho.2.imp id ?_⟩, fun g hg p hp => ?_⟩
  · rintro ⟨g, cap, cur, rfl, h1, r⟩
    exact ⟨g, cap, cur, rfl, Nat.le_trans H.below.size h1, r⟩
  · exact Nat.ne_of_lt (Nat.lt_of_lt_of_le (H.heap p hp).lt (ho.own hg).1)
def arL (a : List Nat) (k : Nat) : List UInt8 := groupsD (40 * a.getD 0 0 + a.getD 1 0) ++ ((a.drop 2).take k).flatMap groupsD
theorem arL_0 (a : List Nat) : arL a 0 = groupsD (40 * a.getD 0 0 + a.getD 1 0) := by simp [arL]
theorem arL_succ {a : List Nat} {k : Nat} (h : k + 2 < a.length) : arL a (k + 1) = arL a k ++ groupsD (a.getD (k + 2) 0) := by
  have e : (a.drop 2)[k]? = some (a.getD (k + 2) 0) := by
    rw [List.getElem?_drop, show 2 + k = k + 2 by omega, List.getD_eq_getElem?_getD, List.getElem?_eq_getElem h]
    rfl
  unfold arL
  rw [List.take_add_one, e, Option.toList_some, List.flatMap_append, List.append_assoc]
  simp
theorem arL_all {a : List Nat} (h : 2 ≤ a.length) : arL a (a.length - 2) = oidD a := by
  rcases a with _ | ⟨x, _ | ⟨y, r⟩⟩
  · simp at h
  · simp at h
  · simp [arL, oidD]
theorem hi_len : ∀ (j m : Nat), m < 128 ^ j → (hiD m).length ≤ j
  | 0, m, h => by
    rw [hiD, dif_pos (by simp at h; omega)]
    exact Nat.zero_le _
  | j + 1, m, h => by
    by_cases h0 : m = 0
    · rw [hiD, dif_pos h0]
      exact Nat.zero_le _
    · rw [hiD, dif_neg h0, List.length_append, List.length_singleton]
      have := hi_len j (m / 128) (by rw [Nat.pow_succ] at h; exact Nat.div_lt_of_lt_mul (by rw [Nat.mul_comm]; exact h))
      omega
theorem groups_len {n : Nat} (h : n < 18446744073709551616) : (groupsD n).length ≤ 11 := by
  unfold groupsD
  rw [List.length_append, List.length_singleton]
  have := hi_len 10 (n / 128) (by omega)
  omega
theorem arL_len {a : List Nat} (ha : ∀ x ∈ a, x < 18446744073709551616) (hs : 40 * a.getD 0 0 + a.getD 1 0 < 18446744073709551616) : ∀ k, (arL a k).length ≤ 11 * (k + 1) := by
  intro k
  have e : ∀ (l : List Nat), (∀ x ∈ l, x < 18446744073709551616) → (l.flatMap groupsD).length ≤ 11 * l.length := fun l hl => by
    induction l with
    | nil => exact Nat.le_refl _
    | cons x r ih =>
      rw [List.flatMap_cons, List.length_append, List.length_cons]
      have h1 := groups_len (hl x List.mem_cons_self)
      have h2 := ih (fun y hy => hl y (List.mem_cons_of_mem _ hy))
      omega
  unfold arL
  rw [List.length_append]
  have h1 := groups_len hs
  have h2 := e ((a.drop 2).take k) (fun x hx => ha x (List.mem_of_mem_drop (List.mem_of_mem_take hx)))
  have h3 : ((a.drop 2).take k).length ≤ k := by rw [List.length_take]; omega
  omega
def kkL (kk : Nat → List UInt8) (n : Nat) : List UInt8 := (List.range n).flatMap kk
theorem kkL_0 (kk : Nat → List UInt8) : kkL kk 0 = [] := rfl
theorem kkL_succ (kk : Nat → List UInt8) (n : Nat) : kkL kk (n + 1) = kkL kk n ++ kk n := by
  unfold kkL
  rw [List.range_succ, List.flatMap_append]
  simp
def ownC (k : Int) (f : Bool) (n : Int) (b t : List UInt8) (a : List Nat) : List UInt8 := if k = 1 then [if f then 255 else 0] else if k = 2 then wholeD n else if k = 3 then 0 :: b else if k = 4 then b else if k = 5 then oidD a else if k = 6 ∨ k = 10 then t else []
theorem contD_eq (k : Int) (f : Bool) (n : Int) (b t : List UInt8) (a : List Nat) (kk : List UInt8) : contD k f n b t a kk = ownC k f n b t a ++ kk := rfl
attribute [local irreducible] bvs byteD groupsD m64 dvD beD wholeD arL kkL oidD
end Go.Proofs.YtonhkclkddobhaaDoor
namespace Go.Proofs.YtonhkclkddobhaaDoor
set_option linter.unusedVariables false
set_option linter.unusedSimpArgs false
set_option maxRecDepth 100000
open Go Go.RowKit
theorem end_tmps2 {P : Program} {n : Nat} {w0 : World} {e : Env} {h : Hep} {a : Act} {w : World} {fn : Func} {R : Ending → World → Prop} {p q : Tmp} {u v : Value} (hr : fn.results = #[.tmp p, .tmp q]) (hp : look e p = some u) (hq : look e q = some v) (H : St n w0 a w e h) (hR : Below w0.heap.size w0 w → R (.returned (.tuple #[u, v])) w) : bodyPost P fn R .ret a w := by
  refine bodyPost_ret ?_ H.defers (hR H.below)
  have h1 := H.ev (x := .tmp p) hp
  have h2 := H.ev (x := .tmp q) hq
  simp only [Act.eval, Array.getD_eq_getD_getElem?] at h1 h2
  simp [results, hr, h1, h2]
attribute [local irreducible] bvs byteD groupsD m64 dvD beD wholeD arL kkL oidD
theorem own_leaf {u8 : List UInt8 → Bool} {k : Int} {f : Bool} {n : Int} {b t : List UInt8} {a : List Nat} {ks : List DT} (h : ownD u8 (.mk k f n b t a ks) = true) : (k = 7 ∨ k = 8 ∨ k = 9 ∨ ks.length = 0) ∧ (k = 5 → 2 ≤ a.length ∧ a.length ≤ 16 ∧ a.getD 0 0 ≤ 2 ∧ a.getD 1 0 < 2147483648) ∧ (b.length = 0 ∨ k = 3 ∨ k = 4) := by
  unfold ownD at h
  dsimp only at h
  simp only [Bool.and_eq_true] at h
  obtain ⟨⟨⟨⟨⟨⟨_, h5⟩, _⟩, _⟩, h7⟩, _⟩, h9⟩ := h
  refine ⟨?_, fun hk => ?_, ?_⟩
  · by_cases h1 : k = 7
    · exact .inl h1
    · rw [if_neg h1] at h7
      by_cases h2 : k = 8 ∨ k = 9
      · omega
      · rw [if_neg h2] at h7
        exact .inr (.inr (.inr (by rw [List.isEmpty_iff.1 h7]; rfl)))
  · rw [if_pos hk] at h5
    unfold arcsOk at h5
    simp only [Bool.and_eq_true, decide_eq_true_eq] at h5
    obtain ⟨⟨⟨⟨h1, h2⟩, h3⟩, h4⟩, h6⟩ := h5
    refine ⟨h1, h2, h3, ?_⟩
    have := List.all_eq_true.1 h6 (a.getD 1 0) (by rw [List.getD_eq_getElem?_getD, List.getElem?_eq_getElem (by omega)]; exact List.getElem_mem _)
    simpa using this
  · simp only [Bool.or_eq_true, decide_eq_true_eq] at h9
    rcases h9 with (h9 | h9) | h9
    · exact .inl (by rw [List.isEmpty_iff.1 h9]; rfl)
    · exact .inr (.inl h9)
    · exact .inr (.inr h9)
/-- The document's bytes: nothing where it may not be, nothing where it is too long. -/
def bytesE (u8 : List UInt8 → Bool) (T : DT) : Nat := if mayD u8 12 T = true then (if 65000 < (packD 12 T).length then 3 else 0) else 2
end Go.Proofs.YtonhkclkddobhaaDoor
namespace Go.Proofs.YtonhkclkddobhaaDoor
set_option linter.unusedVariables false
set_option linter.unusedSimpArgs false
set_option maxRecDepth 100000
open Go Go.RowKit
theorem fold_pos (ks : List DT) {m : Int} (h : 0 ≤ ks.foldl (fun m T => if 0 ≤ m then bigD T m else m) m) : 0 ≤ m := by
  by_cases h0 : 0 ≤ m
  · exact h0
  · rw [fold_neg ks (by omega)] at h
    omega
theorem len_le (n : Nat) : (lenD n).length ≤ 3 := by
  unfold lenD
  split
  · simp
  · split <;> simp
theorem head_le (t : Int) (c : List UInt8) : (headD t c).length ≤ 4 + c.length := by
  unfold headD
  have := len_le c.length
  rw [List.length_cons, List.length_append]
  omega
theorem own_le {u8 : List UInt8 → Bool} {k : Int} {f : Bool} {n : Int} {b t : List UInt8} {a : List Nat} {ks : List DT} (h : ownD u8 (.mk k f n b t a ks) = true) : (ownC k f n b t a).length ≤ 9 + b.length + t.length + 11 * a.length := by
  obtain ⟨_, hao, _⟩ := own_leaf h
  unfold ownC
  split
  · simp
    omega
  · split
    · unfold wholeD
      rw [be_len]
      have := size_pos n
      omega
    · split
      · rw [List.length_cons]
        omega
      · split
        · omega
        · split
          · rename_i h5
            obtain ⟨h1, h2, h3, h4⟩ := hao h5
            have hall : ∀ x ∈ a, x < 18446744073709551616 := by
              unfold ownD at h
              dsimp only at h
              simp only [Bool.and_eq_true] at h
              obtain ⟨⟨⟨⟨⟨⟨_, h5'⟩, _⟩, _⟩, _⟩, _⟩, _⟩ := h
              rw [if_pos h5] at h5'
              unfold arcsOk at h5'
              simp only [Bool.and_eq_true, decide_eq_true_eq] at h5'
              intro x hx
              have := List.all_eq_true.1 h5'.2 x hx
              have : x < 2147483648 := by simpa using this
              omega
            have := arL_len hall (by omega) (a.length - 2)
            rw [arL_all h1] at this
            omega
          · split
            · omega
            · simp
theorem big_pack (u8 : List UInt8 → Bool) : ∀ (d : Nat) (T : DT) (m : Int), m ≤ 1000 → 0 ≤ bigD T m → mayD u8 d T = true → ((packD d T).length : Int) ≤ 300 * (m - bigD T m)
  | 0, _, _, _, _, hmay => by cases hmay
  | d + 1, .mk k f n b t a ks, m, hm, hbig, hmay => by
    rw [mayD_succ, Bool.and_eq_true] at hmay
    obtain ⟨hown, hkids⟩ := hmay
    rw [bigD] at hbig ⊢
    have h0 := fold_pos ks hbig
    have hk : ∀ (l : List DT) (m : Int), m ≤ 1000 → (∀ T ∈ l, mayD u8 d T = true) → 0 ≤ l.foldl (fun m T => if 0 ≤ m then bigD T m else m) m → ((l.flatMap (packD d)).length : Int) ≤ 300 * (m - l.foldl (fun m T => if 0 ≤ m then bigD T m else m) m) := by
      intro l
      induction l with
      | nil =>
        intro m _ _ _
        simp
      | cons T r ih =>
        intro m hm hl hb
        have hm0 := fold_pos (T :: r) hb
        rw [List.foldl_cons, if_pos hm0] at hb ⊢
        have hT := fold_pos r hb
        have h1 := big_pack u8 d T m hm hT (hl T List.mem_cons_self)
        have h2 := ih (bigD T m) (by have := bigD_le T m hm0; omega) (fun U hU => hl U (List.mem_cons_of_mem _ hU)) hb
        rw [List.flatMap_cons, List.length_append]
        omega
    have h1 := hk ks (ownBig b t a m) (by have := ownBig_le b t a m; omega) (fun T hT => List.all_eq_true.1 hkids T hT) hbig
    have h2 := own_le hown
    have h3 := head_le (tagD k n) (contD k f n b t a (ks.flatMap (packD d)))
    show ((headD (tagD k n) (contD k f n b t a (ks.flatMap (packD d)))).length : Int) ≤ _
    rw [contD_eq, List.length_append] at h3
    rw [contD_eq]
    unfold ownBig at h0 h1 ⊢
    generalize List.foldl (fun m T => if 0 ≤ m then bigD T m else m) _ ks = R at *
    omega
end Go.Proofs.YtonhkclkddobhaaDoor
namespace Go.Proofs.YtonhkclkddobhaaDoor
set_option linter.unusedVariables false
set_option linter.unusedSimpArgs false
theorem byteD_lo {n : Nat} (h : n < 128) : byteD n ≠ 129 ∧ byteD n ≠ 130 := by
  have e := byteD_nat (n := n) (by omega)
  refine ⟨fun h2 => ?_, fun h2 => ?_⟩
  · rw [h2] at e
    have : (129 : UInt8).toNat = 129 := rfl
    omega
  · rw [h2] at e
    have : (130 : UInt8).toNat = 130 := rfl
    omega
theorem head_len (t : Int) (c : List UInt8) : (headD t c).length = 1 + (lenD c.length).length + c.length := by
  unfold headD
  simp only [List.length_cons, List.length_append]
  omega
theorem span_head {t : Int} {c : List UInt8} (rest : List UInt8) (hc : c.length < 65536) : ∃ i, 2 ≤ i ∧ spanD (headD t c ++ rest) = some (i, i + c.length) ∧ ((headD t c ++ rest).take (i + c.length)).drop i = c ∧ (headD t c).length = i + c.length ∧ (headD t c ++ rest).getD 0 0 = byteD t.toNat := by
  have hcut : ∀ (p : List UInt8) (i : Nat), p.length = i → ((p ++ (c ++ rest)).take (i + c.length)).drop i = c := fun p i hp => by
    subst hp
    rw [← List.append_assoc, List.take_left' (by simp), List.drop_left' rfl]
  rcases Nat.lt_or_ge c.length 128 with h1 | h1
  · have e : headD t c ++ rest = [byteD t.toNat, byteD c.length] ++ (c ++ rest) := by
      unfold headD lenD
      rw [if_pos h1]
      simp
    refine ⟨2, by omega, ?_, by rw [e]; exact hcut _ 2 rfl, by rw [head_len]; unfold lenD; rw [if_pos h1]; simp, by rw [e]; rfl⟩
    have hb := byteD_nat (n := c.length) (by omega)
    have hl := byteD_lo h1
    rw [e]
    unfold spanD
    have g1 : ([byteD t.toNat, byteD c.length] ++ (c ++ rest)).getD 1 0 = byteD c.length := rfl
    rw [g1, if_neg (by simp), if_neg (fun h => hl.1 h.1), if_neg (fun h => hl.2 h.1), if_neg (by omega), hb, if_pos (by simp; omega)]
  · rcases Nat.lt_or_ge c.length 256 with h2 | h2
    · have e : headD t c ++ rest = [byteD t.toNat, 129, byteD c.length] ++ (c ++ rest) := by
        unfold headD lenD
        rw [if_neg (by omega), if_pos h2]
        simp
      refine ⟨3, by omega, ?_, by rw [e]; exact hcut _ 3 rfl, by rw [head_len]; unfold lenD; rw [if_neg (by omega), if_pos h2]; simp, by rw [e]; rfl⟩
      have hb := byteD_nat h2
      rw [e]
      unfold spanD
      have g1 : ([byteD t.toNat, 129, byteD c.length] ++ (c ++ rest)).getD 1 0 = 129 := rfl
      have g2 : ([byteD t.toNat, 129, byteD c.length] ++ (c ++ rest)).getD 2 0 = byteD c.length := rfl
      rw [g1, g2, if_neg (by simp), if_pos ⟨rfl, by simp⟩, hb, if_pos (by simp; omega)]
    · have e : headD t c ++ rest = [byteD t.toNat, 130, byteD (c.length / 256 % 256), byteD (c.length % 256)] ++ (c ++ rest) := by
        unfold headD lenD
        rw [if_neg (by omega), if_neg (by omega)]
        simp
      refine ⟨4, by omega, ?_, by rw [e]; exact hcut _ 4 rfl, by rw [head_len]; unfold lenD; rw [if_neg (by omega), if_neg (by omega)]; simp, by rw [e]; rfl⟩
      have hb1 := byteD_nat (n := c.length / 256 % 256) (by omega)
      have hb2 := byteD_nat (n := c.length % 256) (by omega)
      rw [e]
      unfold spanD
      have g1 : ([byteD t.toNat, 130, byteD (c.length / 256 % 256), byteD (c.length % 256)] ++ (c ++ rest)).getD 1 0 = 130 := rfl
      have g2 : ([byteD t.toNat, 130, byteD (c.length / 256 % 256), byteD (c.length % 256)] ++ (c ++ rest)).getD 2 0 = byteD (c.length / 256 % 256) := rfl
      have g3 : ([byteD t.toNat, 130, byteD (c.length / 256 % 256), byteD (c.length % 256)] ++ (c ++ rest)).getD 3 0 = byteD (c.length % 256) := rfl
      have e4 : 256 * (c.length / 256 % 256) + c.length % 256 = c.length := by omega
      rw [g1, g2, g3, if_neg (by simp), if_neg (fun h => absurd h.1 (by decide)), if_pos ⟨rfl, by simp⟩, hb1, hb2, e4, if_pos (by simp; omega)]
theorem tag_of {k n : Int} (h1 : 1 ≤ k) (h2 : k ≤ 10) (h3 : k = 8 → 0 ≤ n ∧ n ≤ 30) : (byteD (tagD k n).toNat).toNat = (tagD k n).toNat ∧ kindD (tagD k n).toNat = k := by
  have hk : k = 1 ∨ k = 2 ∨ k = 3 ∨ k = 4 ∨ k = 5 ∨ k = 6 ∨ k = 7 ∨ k = 8 ∨ k = 9 ∨ k = 10 := by omega
  rcases hk with rfl | rfl | rfl | rfl | rfl | rfl | rfl | rfl | rfl | rfl
  all_goals first
    | exact ⟨rfl, rfl⟩
    | (obtain ⟨h4, h5⟩ := h3 rfl
       have e : tagD 8 n = 160 + n := by
         unfold tagD
         rw [if_pos rfl, Int.tmod_eq_emod_of_nonneg h4]
         omega
       rw [e, byteD_nat (by omega)]
       refine ⟨rfl, ?_⟩
       unfold kindD
       simp only [show ¬ (160 + n).toNat = 1 by omega, show ¬ (160 + n).toNat = 2 by omega, show ¬ (160 + n).toNat = 3 by omega, show ¬ (160 + n).toNat = 4 by omega, show ¬ (160 + n).toNat = 6 by omega, show ¬ (160 + n).toNat = 12 by omega, show ¬ (160 + n).toNat = 48 by omega, show ¬ (160 + n).toNat = 49 by omega, show ¬ (160 + n).toNat = 24 by omega, if_false]
       rw [if_pos (by omega)])
theorem pack_len (d : Nat) (v : DT) : d = 0 ∨ 2 ≤ (packD d v).length := by
  cases d with
  | zero => exact .inl rfl
  | succ d =>
    right
    obtain ⟨k, f, n, b, t, a, ks⟩ := v
    unfold packD
    rw [head_len]
    have : 1 ≤ (lenD (contD k f n b t a (ks.flatMap (packD d))).length).length := by
      unfold lenD
      split
      · simp
      · split <;> simp
    omega
/-- Kids, one behind the other. -/
theorem rd_kids {rd : List UInt8 → Option (DT × Nat)} {pk : DT → List UInt8} : ∀ (ks : List DT) (f : Nat), (∀ k ∈ ks, ∀ rest, rd (pk k ++ rest) = some (k, (pk k).length)) → (∀ k ∈ ks, 1 ≤ (pk k).length) → (ks.flatMap pk).length ≤ f → rdKids rd f (ks.flatMap pk) = some ks
  | [], f, _, _, _ => by
    cases f <;> rfl
  | k :: r, f, h1, h2, h3 => by
    rw [List.flatMap_cons] at h3 ⊢
    have hk := h2 k List.mem_cons_self
    have hr := h1 k List.mem_cons_self (r.flatMap pk)
    rw [List.length_append] at h3
    obtain ⟨f, rfl⟩ : ∃ g, f = g + 1 := ⟨f - 1, by omega⟩
    generalize hP : pk k ++ r.flatMap pk = P at *
    have hpos : 0 < P.length := by rw [← hP, List.length_append]; omega
    cases P with
    | nil => simp at hpos
    | cons x c =>
      show (match rd (x :: c) with
        | none => none
        | some (k, n) => (rdKids rd f ((x :: c).drop n)).map (k :: ·)) = _
      rw [hr]
      show (rdKids rd f ((x :: c).drop (pk k).length)).map (k :: ·) = _
      rw [← hP, List.drop_left' rfl, rd_kids r f (fun k hk => h1 k (List.mem_cons_of_mem _ hk)) (fun k hk => h2 k (List.mem_cons_of_mem _ hk)) (by omega)]
      rfl
theorem flat_leD {pk : DT → List UInt8} {k : DT} : ∀ {ks : List DT}, k ∈ ks → (pk k).length ≤ (ks.flatMap pk).length
  | x :: r, h => by
    rw [List.flatMap_cons, List.length_append]
    rcases List.mem_cons.1 h with rfl | h
    · omega
    · have := flat_leD (pk := pk) h
      omega
/-- THE ROUND TRIP. -/
theorem read_pack (u8 : List UInt8 → Bool) : ∀ (d : Nat) (v : DT) (rest : List UInt8), mayD u8 d v = true → (packD d v).length ≤ 65000 → readD d (packD d v ++ rest) = some (v, (packD d v).length)
  | 0, v, rest, h, _ => by cases h
  | d + 1, .mk k f n b t a ks, rest, h, hl => by
    unfold mayD at h
    rw [Bool.and_eq_true] at h
    obtain ⟨ho, hk⟩ := h
    unfold ownD at ho
    simp only [Bool.and_eq_true, decide_eq_true_eq] at ho
    obtain ⟨⟨⟨⟨⟨⟨⟨⟨⟨k1, k10⟩, n1⟩, n2⟩, ha⟩, ht⟩, hn⟩, hks⟩, hf⟩, hb⟩ := ho
    have hn8 : k = 8 → 0 ≤ n ∧ n ≤ 30 := fun e => by
      subst e
      simp at hn
      omega
    obtain ⟨hbt, hkd⟩ := tag_of k1 k10 hn8
    unfold packD at hl ⊢
    generalize hC : contD k f n b t a (ks.flatMap (packD d)) = c at hl ⊢
    have hcl : c.length ≤ 65000 := by rw [head_len] at hl; omega
    obtain ⟨i, hi, hs, hcut, hlen, hg⟩ := span_head (t := tagD k n) rest (show c.length < 65536 by omega)
    have hkids : ∀ kk ∈ ks, ∀ rest, readD d (packD d kk ++ rest) = some (kk, (packD d kk).length) := fun kk hkk rest => by
      refine read_pack u8 d kk rest (List.all_eq_true.1 hk kk hkk) ?_
      have h1 := flat_leD (pk := packD d) hkk
      have h2 : (ks.flatMap (packD d)).length ≤ c.length := by
        rw [← hC]
        unfold contD
        rw [List.length_append]
        omega
      omega
    have hne : ∀ kk ∈ ks, 1 ≤ (packD d kk).length := fun kk hkk => by
      rcases pack_len d kk with h0 | h0
      · subst h0
        have := List.all_eq_true.1 hk kk hkk
        cases this
      · omega
    unfold readD
    rw [hs]
    show (makeD (kindD ((headD (tagD k n) c ++ rest).getD 0 0).toNat) ((headD (tagD k n) c ++ rest).getD 0 0).toNat (((headD (tagD k n) c ++ rest).take (i + c.length)).drop i) (rdKids (readD d) (((headD (tagD k n) c ++ rest).take (i + c.length)).drop i).length (((headD (tagD k n) c ++ rest).take (i + c.length)).drop i))).map (·, i + c.length) = _
    rw [hcut, hg, hbt, hkd, hlen]
    suffices hm : makeD k (tagD k n).toNat c (rdKids (readD d) c.length c) = some (.mk k f n b t a ks) by rw [hm]; rfl
    have kn : ks = [] → ks.flatMap (packD d) = [] := fun e => by subst e; rfl
    have kids_ : c = ks.flatMap (packD d) → rdKids (readD d) c.length c = some ks := fun e => by
      rw [e]
      exact rd_kids ks _ hkids hne (Nat.le_refl _)
    have hcases : k = 1 ∨ k = 2 ∨ k = 3 ∨ k = 4 ∨ k = 5 ∨ k = 6 ∨ k = 7 ∨ k = 8 ∨ k = 9 ∨ k = 10 := by omega
    rcases hcases with rfl | rfl | rfl | rfl | rfl | rfl | rfl | rfl | rfl | rfl
    · simp at ha ht hn hks hb
      obtain rfl := ha; obtain rfl := ht; obtain rfl := hn; obtain rfl := hks; obtain rfl := hb
      subst hC
      cases f <;> rfl
    · simp at ha ht hks hb hf
      obtain rfl := ha; obtain rfl := ht; obtain rfl := hks; obtain rfl := hb; obtain rfl := hf
      have e : c = wholeD n := by rw [← hC]; simp [contD]
      rw [e]
      show some (DT.mk 2 false (numD (wholeD n)) [] [] [] []) = _
      rw [num_whole n1 n2]
    · simp at ha ht hn hks hf
      obtain rfl := ha; obtain rfl := ht; obtain rfl := hn; obtain rfl := hks; obtain rfl := hf
      have e : c = 0 :: b := by rw [← hC]; simp [contD]
      rw [e]
      rfl
    · simp at ha ht hn hks hf
      obtain rfl := ha; obtain rfl := ht; obtain rfl := hn; obtain rfl := hks; obtain rfl := hf
      have e : c = b := by rw [← hC]; simp [contD]
      rw [e]
      rfl
    · simp at ha ht hn hks hb hf
      obtain rfl := ht; obtain rfl := hn; obtain rfl := hks; obtain rfl := hb; obtain rfl := hf
      have e : c = oidD a := by rw [← hC]; simp [contD]
      rw [e]
      show some (DT.mk 5 false 0 [] [] (arcsD (oidD a) 0 []) []) = _
      rw [arcs_oid ha]
    · simp at ha hn hks hb hf
      obtain rfl := ha; obtain rfl := hn; obtain rfl := hks; obtain rfl := hb; obtain rfl := hf
      have e : c = t := by rw [← hC]; simp [contD]
      rw [e]
      rfl
    · simp at ha ht hn hb hf
      obtain rfl := ha; obtain rfl := ht; obtain rfl := hn; obtain rfl := hb; obtain rfl := hf
      rw [kids_ (by rw [← hC]; simp [contD])]
      rfl
    · simp at ha ht hb hf
      obtain rfl := ha; obtain rfl := ht; obtain rfl := hb; obtain rfl := hf
      rw [kids_ (by rw [← hC]; simp [contD])]
      obtain ⟨q1, q2⟩ := hn8 rfl
      have e8 : (((tagD 8 n).toNat : Int) - 160) = n := by
        unfold tagD
        rw [if_pos rfl, Int.tmod_eq_emod_of_nonneg q1]
        omega
      show some (DT.mk 8 false (((tagD 8 n).toNat : Int) - 160) [] [] [] ks) = _
      rw [e8]
    · simp at ha ht hn hb hf
      obtain rfl := ha; obtain rfl := ht; obtain rfl := hn; obtain rfl := hb; obtain rfl := hf
      rw [kids_ (by rw [← hC]; simp [contD])]
      rfl
    · simp at ha hn hks hb hf
      obtain rfl := ha; obtain rfl := hn; obtain rfl := hks; obtain rfl := hb; obtain rfl := hf
      have e : c = t := by rw [← hC]; simp [contD]
      rw [e]
      rfl
/-- What bytes are: just a value's. -/
def ofD (u8 : List UInt8 → Bool) (b : List UInt8) : Option DT :=
  if 65000 < b.length then none else match readD 12 b with
    | none => none
    | some (v, n) => bif decide (n = b.length) && (mayD u8 12 v && decide (packD 12 v = b)) then some v else none
theorem of_pack {u8 : List UInt8 → Bool} {v : DT} (h : mayD u8 12 v = true) (hl : (packD 12 v).length ≤ 65000) : ofD u8 (packD 12 v) = some v := by
  have hr := read_pack u8 12 v [] h hl
  rw [List.append_nil] at hr
  unfold ofD
  rw [if_neg (by omega), hr]
  simp [h]
theorem of_some {u8 : List UInt8 → Bool} {b : List UInt8} {v : DT} (h : ofD u8 b = some v) : mayD u8 12 v = true ∧ packD 12 v = b ∧ b.length ≤ 65000 := by
  unfold ofD at h
  split at h
  · cases h
  · rename_i hl
    split at h
    · cases h
    · rename_i v' n hr
      cases hc : (decide (n = b.length) && (mayD u8 12 v' && decide (packD 12 v' = b))) with
      | false => rw [hc] at h; cases h
      | true =>
        rw [hc] at h
        simp only [cond_true, Option.some.injEq] at h
        subst h
        simp only [Bool.and_eq_true, decide_eq_true_eq] at hc
        exact ⟨hc.2.1, hc.2.2, by omega⟩
end Go.Proofs.YtonhkclkddobhaaDoor
namespace Go.Proofs.YtonhkclkddobhaaDoor
set_option linter.unusedVariables false
set_option linter.unusedSimpArgs false
set_option maxRecDepth 100000
open Go Go.RowKit
theorem flat_congr {ks : List DT} {f g : DT → List UInt8} (h : ∀ T ∈ ks, f T = g T) : ks.flatMap f = ks.flatMap g := by
  induction ks with
  | nil => rfl
  | cons T r ih => rw [List.flatMap_cons, List.flatMap_cons, h T List.mem_cons_self, ih fun U hU => h U (List.mem_cons_of_mem _ hU)]
theorem pack_more (u8 : List UInt8 → Bool) : ∀ (d : Nat) (T : DT), mayD u8 d T = true → packD (d + 1) T = packD d T
  | 0, _, h => by cases h
  | d + 1, .mk k f n b t a ks, h => by
    rw [mayD_succ, Bool.and_eq_true] at h
    show headD (tagD k n) (contD k f n b t a (ks.flatMap (packD (d + 1)))) = headD (tagD k n) (contD k f n b t a (ks.flatMap (packD d)))
    rw [flat_congr fun T hT => pack_more u8 d T (List.all_eq_true.1 h.2 T hT)]
def intT (n : Int) : DT := .mk 2 false n [] [] [] []
theorem int_may (u8 : List UInt8 → Bool) {n : Int} (hn : -9223372036854775808 ≤ n ∧ n < 9223372036854775808) : mayD u8 12 (intT n) = true := by
  show mayD u8 (11 + 1) (.mk 2 false n [] [] [] []) = true
  rw [mayD_succ]
  unfold ownD
  simp [hn.1, hn.2]
theorem int_pack (n : Int) : packD 12 (intT n) = [2, byteD (sizeD n)] ++ wholeD n := by
  show headD (tagD 2 n) (contD 2 false n [] [] [] []) = _
  have e1 : contD 2 false n [] [] [] [] = wholeD n := by
    rw [contD_eq, List.append_nil]
    unfold ownC
    rw [if_neg (by decide), if_pos rfl]
  have e2 : (wholeD n).length = sizeD n := by unfold wholeD; rw [be_len]
  have := size_pos n
  rw [e1]
  unfold headD lenD
  rw [e2, if_pos (by omega)]
  rfl
theorem int_len (n : Int) : (packD 12 (intT n)).length = sizeD n + 2 := by
  rw [int_pack, List.length_append]
  unfold wholeD
  rw [be_len]
  simp
  omega
def seqT (ks : List DT) : DT := .mk 7 false 0 [] [] [] ks
theorem seq_pack (u8 : List UInt8 → Bool) {ks : List DT} (h : mayD u8 12 (seqT ks) = true) : packD 12 (seqT ks) = headD 48 (ks.flatMap (packD 12)) := by
  have h2 : ks.all (mayD u8 11) = true := by
    have h : mayD u8 (11 + 1) (.mk 7 false 0 [] [] [] ks) = true := h
    rw [mayD_succ, Bool.and_eq_true] at h
    exact h.2
  show headD 48 (contD 7 false 0 [] [] [] (ks.flatMap (packD 11))) = _
  rw [contD_eq, flat_congr fun T hT => (pack_more u8 11 T (List.all_eq_true.1 h2 T hT)).symm]
  rfl
end Go.Proofs.YtonhkclkddobhaaDoor
namespace Go.Proofs.YtonhkclkddobhaaDoor
set_option linter.unusedVariables false
set_option linter.unusedSimpArgs false
set_option maxRecDepth 100000
open Go Go.RowKit
/-- A slice's bytes, where they lie. -/
theorem BS.nat {w : World} {B n c : Nat} {A : Option Addr} {l : List UInt8} (h : BS w B A n c l) (hB : B ≤ w.heap.size) : ∃ g o, 0 < n → A = some ⟨g, o, none⟩ ∧ g < w.heap.size ∧ ∀ i, i < n → w.cell? ⟨g, o + i, none⟩ = some (.int .u8 (((l.getD i 0).toNat : Nat) : Int)) := by
  by_cases h0 : 0 < n
  · obtain ⟨g, o, e, hg, hc⟩ := h.at_ h0
    exact ⟨g, o, fun _ => ⟨e, by omega, fun i hi => hc i _ (by
      have := h.len
      rw [List.getD_eq_getElem?_getD, List.getElem?_eq_getElem (by omega)]
      rfl)⟩⟩
  · exact ⟨0, 0, fun h => absurd h h0⟩
theorem ia_bytD {A : Option Addr} {j n c o g : Nat} (hA : A = some ⟨g, o, none⟩) (hj : j < n) (W : World) : (Instr.indexAt 23 (.slice A n c) (.int .i64 (j : Int))).run Tryd.prog W = .ok (.pointer (some ⟨g, o + j, none⟩)) W := by
  subst hA
  have h1 : (0 : Int) ≤ (j : Int) := by omega
  have h2 : (j : Int) < (n : Int) := by omega
  go_simp
theorem ld_bytD {g f x : Nat} (W : World) (hc : W.cell? ⟨g, f, none⟩ = some (.int .u8 (x : Int))) : (Instr.loadAt 5 (.pointer (some ⟨g, f, none⟩))).run Tryd.prog W = .ok (.int .u8 (x : Int)) W := by go_simp
theorem cv_s64 {x : Nat} (hx : x < 18446744073709551616) (W : World) : (convert 36 2 (.int .u64 (x : Int))).run Tryd.prog W = .ok (.int .i64 (s64 x)) W := by
  have e : IntKind.i64.wrap (x : Int) = s64 x := by
    have e1 : IntKind.i64.wrap (x : Int) = ((x : Int) + 9223372036854775808) % 18446744073709551616 - 9223372036854775808 := by
      simp only [IntKind.wrap, IntKind.bits, IntKind.signed]
      simp
      split <;> omega
    rw [e1]
    unfold s64
    split <;> omega
  go_simp
theorem byt_lt (l : List UInt8) (i : Nat) : (l.getD i 0).toNat < 256 := (l.getD i 0).toNat_lt
end Go.Proofs.YtonhkclkddobhaaDoor
