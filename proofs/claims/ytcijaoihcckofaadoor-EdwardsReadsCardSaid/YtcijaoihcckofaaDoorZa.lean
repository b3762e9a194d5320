/- Words, contracts and walks (Words, Fe, Fs, Prime, Fp, Ft, Fa, Fm, Eqs, Fq, Fr, Fk, Fb, Fo, Fw, Fsw, Fz, Cl, Vc, Vd, Ve, Vg, Vh), laid together. No condition. -/
import Derived.WalkKit
import Derived.WalkSpells
import Derived.Deep.Draws
import Derived.Laws.BytesArg
import Derived.Maps.AppendAt
import Derived.Test.YtcijaoihcckofaaDoorRows
import Derived.WalkLawsBesides
import Derived.Lib.Hide
import Derived.Lib.Mul64
import Derived.Laws.Bits64b
import Derived.Laws.BitsAllLaws
import Derived.Shelf.Bits.Mul64
import Derived.Shelf.Spec.BitsCarry
import Derived.Outline
import Derived.Laws.CopyOwn
import Derived.Stop.BytesEq
import Derived.Laws.StructEq
import Derived.Deep.RegionHeld3
import Derived.RegionTactic
import Derived.ChangeAlike
import Derived.Laws.ShiftsVarLaws
import Derived.ProofKit
import Derived.LaidMore
import Derived.OpenShut
import Derived.Stop.Joined
import Derived.ChangeOld
import Derived.Below
import Derived.Deep.MidRow
namespace Go.Proofs.YtcijaoihcckofaaDoor
set_option linter.unusedVariables false
set_option linter.unusedSimpArgs false
open Go Go.RowKit
/-- A byte as a cell. -/
def bv (x : UInt8) : Value := .int .u8 (x.toNat : Int)
/-- The cells of a block of bytes. -/
def bvs (l : List UInt8) : Array Value := (l.map bv).toArray
theorem bvs_get (l : List UInt8) (i : Nat) : (bvs l)[i]? = l[i]?.map bv := by simp [bvs]
/-- A block whose cells are these, none of them frozen. -/
def Blk (w : World) (g : Nat) (t : TypeId) (cs : Array Value) : Prop := w.heap[g]? = some (.cells cs t (0, 0))
section
variable {w w' : World} {g : Nat} {t : TypeId} {cs : Array Value}
theorem Blk.lt (h : Blk w g t cs) : g < w.heap.size := (Array.getElem?_eq_some_iff.1 h).1
theorem Blk.cell (h : Blk w g t cs) (i : Nat) : w.cell? ⟨g, i, none⟩ = cs[i]? := cell_of_row w g i cs t (0, 0) h
theorem Blk.frozen (h : Blk w g t cs) (i : Nat) : w.frozen? ⟨g, i, none⟩ = false := by
  unfold Blk at h
  simp [World.frozen?, h]
theorem Blk.new (w : World) (t : TypeId) (cs : Array Value) : Blk (w.alloc (.cells cs t)) w.heap.size t cs := heap_alloc_new w _
theorem Blk.new' (w : World) (g : Nat) (t : TypeId) (cs : Array Value) (hg : g = w.heap.size) : Blk (w.alloc (.cells cs t)) g t cs := by subst hg; exact Blk.new w t cs
theorem Blk.drew (h : Blk w g t cs) : Blk w.drew g t cs := h
theorem Blk.alloc (h : Blk w g t cs) (o : Obj) : Blk (w.alloc o) g t cs := (Below.heap_alloc w o g h.lt).trans h
theorem Blk.set_ (h : Blk w g t cs) (i : Nat) (u : Value) : Blk (w.setCell ⟨g, i, none⟩ u) g t (cs.setIfInBounds i u) := by
  unfold Blk at h ⊢
  simp [World.setCell, Array.getElem?_modify, h]
theorem Blk.far (h : Blk w g t cs) {p : Addr} (hp : g ≠ p.block) (u : Value) : Blk (w.setCell p u) g t cs := (Below.heap_setCell w p u g hp).trans h
theorem Blk.below {B : Nat} (h : Blk w g t cs) (hb : Below B w w') (hg : g < B) : Blk w' g t cs := (hb.block g hg).trans h
theorem Blk.grown {row : Option Nat} (h : Blk w g t cs) (hb : w.grownBy w' row) (hg : some g ≠ row) : Blk w' g t cs := (hb.block g h.lt hg).trans h
theorem Blk.inj {t' : TypeId} {cs' : Array Value} (h : Blk w g t cs) (h' : Blk w g t' cs') : t = t' ∧ cs = cs' := by
  unfold Blk at h h'
  rw [h] at h'
  injection h' with h'
  injection h' with a b
  exact ⟨b, a⟩
end
/-- The slice '(A, n, c)' reads as the bytes l; what is read lies below block B. -/
structure BS (w : World) (B : Nat) (A : Option Addr) (n c : Nat) (l : List UInt8) : Prop where
  len : l.length = n
  cap : n ≤ c
  nil_ : A = none → c = 0
  at_ : 0 < n → ∃ b o, A = some ⟨b, o, none⟩ ∧ b < B ∧ ∀ j x, l[j]? = some x → w.cell? ⟨b, o + j, none⟩ = some (.int .u8 (x.toNat : Int))
section
variable {w w' : World} {B B' n c : Nat} {A : Option Addr} {l : List UInt8}
theorem BS.nil (w : World) (B : Nat) : BS w B none 0 0 [] := ⟨rfl, Nat.le_refl _, fun _ => rfl, fun h => absurd h (by omega)⟩
theorem BS.keep (h : BS w B A n c l) (hk : ∀ p : Addr, p.block < B → w'.cell? p = w.cell? p) : BS w' B A n c l :=
  ⟨h.len, h.cap, h.nil_, fun hn => by
    obtain ⟨b, o, e, hb, hc⟩ := h.at_ hn
    exact ⟨b, o, e, hb, fun j x hx => (hk _ hb).trans (hc j x hx)⟩⟩
theorem BS.more (h : BS w B A n c l) (hB : B ≤ B') : BS w B' A n c l :=
  ⟨h.len, h.cap, h.nil_, fun hn => by
    obtain ⟨b, o, e, hb, hc⟩ := h.at_ hn
    exact ⟨b, o, e, by omega, hc⟩⟩
theorem BS.below (h : BS w B A n c l) (hb : Below B w w') : BS w' B A n c l := h.keep fun _ hp => hb.cell hp
theorem BS.drew (h : BS w B A n c l) : BS w.drew B A n c l := ⟨h.1, h.2, h.3, h.4⟩
theorem BS.alloc (h : BS w B A n c l) (hB : B ≤ w.heap.size) (o : Obj) : BS (w.alloc o) B A n c l := h.keep fun p hp => World.cell?_alloc_lt w o p (by omega)
theorem BS.setCell (h : BS w B A n c l) {p : Addr} (hB : B ≤ p.block) (u : Value) : BS (w.setCell p u) B A n c l :=
  h.keep fun q hq => World.cell?_setCell_other w p q u (fun e => by subst e; omega)
theorem BS.grown (h : BS w B A n c l) {row : Option Nat} (hg : w.grownBy w' row) (hB : B ≤ w.heap.size) (hr : ∀ g, row = some g → B ≤ g) : BS w' B A n c l :=
  h.keep fun p hp => World.cell?_of_block (hg.block p.block (by omega) (fun e => by have := hr _ e.symm; omega))
/-- What is read there is the block's. -/
theorem BS.ofBlk {g : Nat} {t : TypeId} (h : Blk w g t (bvs l)) (n : Nat) (hn : n = l.length) (B : Nat) (hB : g < B) : BS w B (some ⟨g, 0, none⟩) n n l :=
  ⟨hn.symm, Nat.le_refl _, (by intro e; cases e), fun _ => ⟨g, 0, rfl, hB, fun j x hx => by rw [Nat.zero_add, h.cell, bvs_get, hx]; rfl⟩⟩
theorem BS.at' (h : BS w B A n c l) {k : Nat} (hk : k < n) : ∃ b o x, A = some ⟨b, o, none⟩ ∧ b < B ∧ l[k]? = some x ∧ w.cell? ⟨b, o + k, none⟩ = some (.int .u8 (x.toNat : Int)) := by
  obtain ⟨b, o, e, hb, hc⟩ := h.at_ (by omega)
  have hl : k < l.length := by have := h.len; omega
  exact ⟨b, o, l[k], e, hb, List.getElem?_eq_getElem hl, hc k _ (List.getElem?_eq_getElem hl)⟩
end
/-- The slice v of bytes l is the call's own: nil and nothing, or the head of a block from 'base' on. -/
def OwnB (w : World) (base : Nat) (e : TypeId) (v : Value) (l : List UInt8) : Prop := w.ownsRow base e 1 v l.length (l.map bv)
section
variable {w w' : World} {base : Nat} {e : TypeId} {v : Value} {l : List UInt8}
theorem OwnB.nil (w : World) (base : Nat) (e : TypeId) : OwnB w base e (.slice none 0 0) [] := ⟨rfl, .inl ⟨rfl, rfl⟩⟩
theorem OwnB.alloc (h : OwnB w base e v l) (o : Obj) : OwnB (w.alloc o) base e v l := World.ownsRow.alloc h o
theorem OwnB.drew (h : OwnB w base e v l) : OwnB w.drew base e v l := h
theorem OwnB.ofBlk {g : Nat} (h : Blk w g e (bvs l)) (n : Nat) (hn : n = l.length) (hm : n ≤ maxLen) (hb : base ≤ g) : OwnB w base e (.slice (some ⟨g, 0, none⟩) n n) l := by
  subst hn
  exact ⟨by simp, .inr ⟨g, _, _, rfl, hb, h, Nat.le_refl _, hm, by simp [bvs], by rw [List.take_of_length_le (by simp [bvs])]; simp [bvs]⟩⟩
theorem OwnB.form (h : OwnB w base e v l) : ∃ A n c, v = .slice A n c ∧ BS w w.heap.size A n c l ∧ ∀ g, v.ownBlock = some g → base ≤ g := by
  have hlt := World.ownsRow.lt h
  rcases h.2 with ⟨rfl, h0⟩ | ⟨g, cap, cur, rfl, hb, hh, hc, hm, hs, ht⟩
  · obtain rfl : l = [] := List.eq_nil_of_length_eq_zero h0
    exact ⟨none, 0, 0, rfl, BS.nil _ _, fun g hg => (hlt g hg).1⟩
  · refine ⟨_, _, _, rfl, ⟨rfl, hc, by intro e; (cases e), fun _ => ⟨g, 0, rfl, (hlt g rfl).2, fun j x hx => ?_⟩⟩, fun g hg => (hlt g hg).1⟩
    have := World.ownsRow.cells h (g := g) rfl j (bv x) (by simp [hx])
    rw [Addr.add_lit] at this
    exact this
theorem OwnB.own (h : OwnB w base e v l) {g : Nat} (hg : v.ownBlock = some g) : base ≤ g ∧ g < w.heap.size := World.ownsRow.lt h g hg
end
section
variable {P : Program} {w : World} {ops : Array Oper} {rest : List Oper} {o : Oper} {a : Act} {Q : Exit → Act → World → Prop}
end
theorem add_zero_addr (a : Addr) : a.add 0 = a := by simp [Addr.add]
theorem map_add_zero (A : Option Addr) : A.map (fun a => a.add 0) = A := by
  cases A with
  | none => rfl
  | some a => simp [add_zero_addr]
theorem size_u8 {P : Program} {e : TypeId} (he : (P.info? e).map (fun i => (i.zero, i.size, i.bytes)) = some (some (.int .u8 0), 1, 1)) (W : World) : (sizeOf e).run P W = .ok 1 W := by
  obtain ⟨i, hi, hz, hs, hb⟩ := info_parts he
  simp [sizeOf, typeInfo, hi, hs]
theorem BS.head {w : World} {B n c : Nat} {A : Option Addr} {l : List UInt8} (h : BS w B A n c l) {k : Nat} (hk : k ≤ n) : BS w B A k k (l.take k) :=
  ⟨by rw [List.length_take, h.len]; omega, Nat.le_refl _, fun e => by have := h.nil_ e; have := h.cap; omega, fun hp => by
    obtain ⟨b, o, e, hb, hc⟩ := h.at_ (by omega)
    refine ⟨b, o, e, hb, fun j x hx => hc j x ?_⟩
    rw [List.getElem?_take] at hx
    split at hx
    · exact hx
    · cases hx⟩
/-- 'b[k:]'. -/
theorem BS.tail {P : Program} (t e : TypeId) (ht : P.underlying t = some (.slice e)) (he : (P.info? e).map (fun i => (i.zero, i.size, i.bytes)) = some (some (.int .u8 0), 1, 1)) {w : World} {B n c : Nat} {A : Option Addr} {l : List UInt8}
    (h : BS w B A n c l) {k : Nat} (hk : k ≤ n) :
    ∃ A', (∀ W, (Instr.slice t (.slice A n c) (some (.int .i64 (k : Int))) none none).run P W = .ok (.slice A' (n - k) (c - k)) W) ∧ BS w B A' (n - k) (c - k) (l.drop k) := by
  have hel : P.elem t = e := by simp [Program.elem, ht]
  have hnc := h.cap
  refine ⟨if c = k then A else A.map (fun a => a.add k), fun W => ?_, ?_⟩
  · rw [run_slice_l W t A n c (by rw [hel]; exact ht) _ _ (by omega) (by omega), hel, size_u8 he]
    simp only [Result.andThen, sliced, Int.toNat_natCast, Nat.mul_one]
  · refine ⟨by rw [List.length_drop, h.len], by omega, fun e => ?_, fun hp => ?_⟩
    · split at e
      · omega
      · cases A with
        | none => have := h.nil_ rfl; omega
        | some a => cases e
    · obtain ⟨b, o, e, hb, hc⟩ := h.at_ (by omega)
      subst e
      rw [if_neg (by omega)]
      refine ⟨b, o + k, by simp [Addr.add_lit], hb, fun j x hx => ?_⟩
      rw [List.getElem?_drop] at hx
      have := hc _ x hx
      rw [← Nat.add_assoc] at this
      exact this
theorem grown_trans {a b c : World} {row : Option Nat} (h : a.grownBy b row) (k : b.grownBy c row) : a.grownBy c row := World.grownBy.trans h k
/-- Bytes below block g are as they were where only g has turned. -/
theorem BS.row {w w' : World} {g n c : Nat} {A : Option Addr} {l : List UInt8} (h : BS w g A n c l) (hg : w.grownBy w' (some g)) (hlt : g ≤ w.heap.size) : BS w' g A n c l :=
  h.keep fun p hp => World.cell?_of_block (hg.block p.block (by omega) (fun e => by injection e with e; omega))
theorem Blk.row {w w' : World} {g r : Nat} {t : TypeId} {cs : Array Value} (h : Blk w g t cs) (hg : w.grownBy w' (some r)) (hne : g ≠ r) : Blk w' g t cs := h.grown hg (fun e => hne (by injection e))
/-- The slice '(A, n, c)' of slices of bytes reads as the lists L. -/
structure RS (w : World) (B : Nat) (A : Option Addr) (n c : Nat) (L : List (List UInt8)) : Prop where
  len : L.length = n
  at_ : 0 < n → ∃ b o, A = some ⟨b, o, none⟩ ∧ b < B ∧ ∀ j l, L[j]? = some l → ∃ Aj nj cj, w.cell? ⟨b, o + j, none⟩ = some (.slice Aj nj cj) ∧ BS w B Aj nj cj l
section
variable {w w' : World} {B n c : Nat} {A : Option Addr} {L : List (List UInt8)}
theorem RS.keep (h : RS w B A n c L) (hk : ∀ p : Addr, p.block < B → w'.cell? p = w.cell? p) : RS w' B A n c L :=
  ⟨h.len, fun hn => by
    obtain ⟨b, o, e, hb, hc⟩ := h.at_ hn
    refine ⟨b, o, e, hb, fun j l hl => ?_⟩
    obtain ⟨Aj, nj, cj, h1, h2⟩ := hc j l hl
    exact ⟨Aj, nj, cj, (hk _ hb).trans h1, h2.keep hk⟩⟩
theorem RS.below (h : RS w B A n c L) (hb : Below B w w') : RS w' B A n c L := h.keep fun _ hp => hb.cell hp
theorem RS.at' (h : RS w B A n c L) {k : Nat} (hk : k < n) : ∃ b o l Aj nj cj, A = some ⟨b, o, none⟩ ∧ b < B ∧ L[k]? = some l ∧ w.cell? ⟨b, o + k, none⟩ = some (.slice Aj nj cj) ∧ BS w B Aj nj cj l := by
  obtain ⟨b, o, e, hb, hc⟩ := h.at_ (by omega)
  have hl : k < L.length := by have := h.len; omega
  obtain ⟨Aj, nj, cj, h1, h2⟩ := hc k L[k] (List.getElem?_eq_getElem hl)
  exact ⟨b, o, L[k], Aj, nj, cj, e, hb, List.getElem?_eq_getElem hl, h1, h2⟩
end
/-- The first k parts, one behind the other. -/
def flat (L : List (List UInt8)) (k : Nat) : List UInt8 := (L.take k).flatten
end Go.Proofs.YtcijaoihcckofaaDoor
namespace Go.Proofs.YtcijaoihcckofaaDoor
set_option linter.unusedVariables false
set_option linter.unusedSimpArgs false
open Go.RowKit
/-- Word i of a number. -/
def wd0 (n : Nat) : Nat := n % 18446744073709551616
def wd1 (n : Nat) : Nat := n / 18446744073709551616 % 18446744073709551616
def wd2 (n : Nat) : Nat := n / 340282366920938463463374607431768211456 % 18446744073709551616
def wd3 (n : Nat) : Nat := n / 6277101735386680763835789423207666416102355444464034512896 % 18446744073709551616
/-- What is beyond four words. -/
def wd4 (n : Nat) : Nat := n / 115792089237316195423570985008687907853269984665640564039457584007913129639936
theorem wd0_lt (n : Nat) : wd0 n < 18446744073709551616 := Nat.mod_lt _ (by decide)
theorem wd1_lt (n : Nat) : wd1 n < 18446744073709551616 := Nat.mod_lt _ (by decide)
theorem wd2_lt (n : Nat) : wd2 n < 18446744073709551616 := Nat.mod_lt _ (by decide)
theorem wd3_lt (n : Nat) : wd3 n < 18446744073709551616 := Nat.mod_lt _ (by decide)
/-- The number of five words, the last of them of whatever size. -/
def num5 (a b c d e : Nat) : Nat := a + 18446744073709551616 * b + 340282366920938463463374607431768211456 * c + 6277101735386680763835789423207666416102355444464034512896 * d + 115792089237316195423570985008687907853269984665640564039457584007913129639936 * e
theorem of_num5 {n a b c d e : Nat} (h : n = num5 a b c d e) (ha : a < 18446744073709551616) (hb : b < 18446744073709551616) (hc : c < 18446744073709551616) (hd : d < 18446744073709551616) :
    wd0 n = a ∧ wd1 n = b ∧ wd2 n = c ∧ wd3 n = d ∧ wd4 n = e := by
  subst h
  unfold num5 wd0 wd1 wd2 wd3 wd4
  omega
theorem num5_of (n : Nat) : num5 (wd0 n) (wd1 n) (wd2 n) (wd3 n) (wd4 n) = n := by
  unfold num5 wd0 wd1 wd2 wd3 wd4
  omega
theorem wd4_zero {n : Nat} (h : n < 115792089237316195423570985008687907853269984665640564039457584007913129639936) : wd4 n = 0 := by
  unfold wd4
  omega
/-- The cells of an element's words. -/
def es (n : Nat) : Array Value := #[.int .u64 (wd0 n : Int), .int .u64 (wd1 n : Int), .int .u64 (wd2 n : Int), .int .u64 (wd3 n : Int)]
theorem add64_run (x y c : Nat) (hx : x < 18446744073709551616) (hy : y < 18446744073709551616) (hc : c ≤ 1) (w : World) :
    (callFunc 86 #[.int .u64 x, .int .u64 y, .int .u64 c]).run Tryd.prog w =
      .ok (.value (.tuple #[.int .u64 (((x + y + c) % 18446744073709551616 : Nat) : Int), .int .u64 (((x + y + c) / 18446744073709551616 : Nat) : Int)])) w := by
  rw [run_callFunc_extern Tryd.func86 (by kernel_rfl) (by kernel_rfl) (by kernel_rfl) (e := add64Entry) (by kernel_rfl), run_add64 x y c (by omega) (by omega) (by omega) (by omega)]
  simp only [Result.andThen]
  congr 5 <;> omega
theorem sub64_run (x y b : Nat) (hb : b ≤ 1) (w : World) :
    (callFunc 88 #[.int .u64 x, .int .u64 y, .int .u64 b]).run Tryd.prog w =
      .ok (.value (.tuple #[.int .u64 (((x + 18446744073709551616 - y - b) % 18446744073709551616 : Nat) : Int), .int .u64 ((if x < y + b then 1 else 0 : Nat) : Int)])) w := by
  rw [run_callFunc_extern Tryd.func88 (by kernel_rfl) (by kernel_rfl) (by kernel_rfl) (e := sub64Entry) (by kernel_rfl), run_sub64 x y b hb]
  rfl
theorem add64_ex (x y c : Nat) (hx : x < 18446744073709551616) (hy : y < 18446744073709551616) (hc : c ≤ 1) :
    ∃ s k : Nat, (∀ w, (callFunc 86 #[.int .u64 x, .int .u64 y, .int .u64 c]).run Tryd.prog w = .ok (.value (.tuple #[.int .u64 (s : Int), .int .u64 (k : Int)])) w) ∧
      s + 18446744073709551616 * k = x + y + c ∧ s < 18446744073709551616 ∧ k ≤ 1 :=
  ⟨_, _, fun w => add64_run x y c hx hy hc w, by omega, by omega, by omega⟩
theorem sub64_ex (x y c : Nat) (hx : x < 18446744073709551616) (hy : y < 18446744073709551616) (hc : c ≤ 1) :
    ∃ s k : Nat, (∀ w, (callFunc 88 #[.int .u64 x, .int .u64 y, .int .u64 c]).run Tryd.prog w = .ok (.value (.tuple #[.int .u64 (s : Int), .int .u64 (k : Int)])) w) ∧
      s + y + c = x + 18446744073709551616 * k ∧ s < 18446744073709551616 ∧ k ≤ 1 := by
  refine ⟨_, _, fun w => sub64_run x y c hc w, ?_, ?_, ?_⟩
  · split <;> omega
  · omega
  · split <;> omega
set_option maxHeartbeats 1000000 in
theorem mul64_any (x y : Nat) (hx : x < 18446744073709551616) (hy : y < 18446744073709551616) (w : World) :
    Calls Tryd.prog 96 #[.int .u64 x, .int .u64 y] w fun e w' => e = .returned (.tuple #[.int .u64 ((x * y / 18446744073709551616 : Nat) : Int), .int .u64 ((x * y % 18446744073709551616 : Nat) : Int)]) ∧ w = w' := by
  obtain ⟨bd, bt, bw, hhi⟩ := Lib.mul64_hi x y hx hy
  have ba := Lib.half_mul_le (a := x / 4294967296) (b := y / 4294967296) (by omega) (by omega)
  have bb := Lib.half_mul_le (a := x / 4294967296) (b := y % 4294967296) (by omega) (by omega)
  have bc := Lib.half_mul_le (a := x % 4294967296) (b := y / 4294967296) (by omega) (by omega)
  have ba' : x / 4294967296 * (y / 4294967296) < 18446744073709551616 := by omega
  have bb' : x / 4294967296 * (y % 4294967296) < 18446744073709551616 := by omega
  have bc' : x % 4294967296 * (y / 4294967296) < 18446744073709551616 := by omega
  have bh1 : x / 4294967296 * (y / 4294967296) + (x / 4294967296 * (y % 4294967296) + x % 4294967296 * (y % 4294967296) / 4294967296) / 4294967296 < 18446744073709551616 := by omega
  have bh : x / 4294967296 * (y / 4294967296) + (x / 4294967296 * (y % 4294967296) + x % 4294967296 * (y % 4294967296) / 4294967296) / 4294967296 + ((x / 4294967296 * (y % 4294967296) + x % 4294967296 * (y % 4294967296) / 4294967296) % 4294967296 + x % 4294967296 * (y / 4294967296)) / 4294967296 < 18446744073709551616 := by omega
  go_enter Tryd.func96, Tryd.ntmps96
  go_wp2
  simp only [Mul64.maskN x hx, Mul64.maskN y hy, Mul64.divN, Mul64.mulN, Mul64.addN, Mul64.wrapN _ bd, Mul64.wrapN _ bb', Mul64.wrapN _ bt, Mul64.maskN _ bt, Mul64.wrapN _ bc', Mul64.wrapN _ bw, Mul64.wrapN _ ba', Mul64.wrapN _ bh1, Mul64.wrapN _ bh, Mul64.wrapM (x * y)]
  rw [hhi]
  go_ret2
  exact ⟨rfl, rfl⟩
def MulAt (x y hi lo : Nat) : Prop := hi * 18446744073709551616 + lo = x * y ∧ lo < 18446744073709551616
theorem mul64_ex (x y : Nat) (hx : x < 18446744073709551616) (hy : y < 18446744073709551616) :
    ∃ hi lo : Nat, (∀ w, Calls Tryd.prog 96 #[.int .u64 x, .int .u64 y] w fun e w' => e = .returned (.tuple #[.int .u64 (hi : Int), .int .u64 (lo : Int)]) ∧ w = w') ∧ MulAt x y hi lo :=
  ⟨_, _, fun w => mul64_any x y hx hy w, by unfold MulAt; omega⟩
def MulAddAt (a b c d hi lo : Nat) : Prop := hi * 18446744073709551616 + lo = a * b + c + d ∧ lo < 18446744073709551616 ∧ hi < 18446744073709551616
def MulAddPost (a b c d : Nat) (w : World) (e : Ending) (w' : World) : Prop := ∃ hi lo : Nat, e = .returned (.tuple #[.int .u64 (hi : Int), .int .u64 (lo : Int)]) ∧ MulAddAt a b c d hi lo ∧ w = w'
theorem mul_lt_sq {x y : Nat} (hx : x < 18446744073709551616) (hy : y < 18446744073709551616) : x * y ≤ 340282366920938463426481119284349108225 := Nat.mul_le_mul (show x ≤ 18446744073709551615 by omega) (show y ≤ 18446744073709551615 by omega)
set_option maxHeartbeats 400000 in
theorem mulAdd_any (a b c d : Nat) (w : World) (ha : a < 18446744073709551616) (hb : b < 18446744073709551616) (hc : c < 18446744073709551616) (hd : d < 18446744073709551616) :
    Calls Tryd.prog 87 #[.int .u64 a, .int .u64 b, .int .u64 c, .int .u64 d] w (MulAddPost a b c d w) := by
  obtain ⟨hi, lo, h1, e1, l1⟩ := mul64_ex a b ha hb
  obtain ⟨s, k, h2, e2, l2, k2⟩ := add64_ex lo c 0 l1 hc (by omega)
  obtain ⟨t, j, h3, e3, l3, k3⟩ := add64_ex s d 0 l2 hd (by omega)
  have hm := mul_lt_sq ha hb
  have hAt : MulAddAt a b c d (hi + k + j) t := by
    unfold MulAddAt
    generalize a * b = m at *
    omega
  have b1 : hi + k + j < 18446744073709551616 := hAt.2.2
  clear hm
  have HA := Lib.hid hAt
  have E1 := Lib.hid e1
  have E2 := Lib.hid e2
  have E3 := Lib.hid e3
  clear hAt e1 e2 e3
  rw [Int.natCast_zero] at h2 h3
  go_enter Tryd.func87, Tryd.ntmps87
  go_wp2_with (first | simp only [h2] | simp only [h3] | (go_at_call 96; refine (h1 _).mono ?_; rintro e w' ⟨rfl, rfl⟩))
  go_ret2
  exact ⟨hi + k + j, t, by go_num, HA.out, rfl⟩
end Go.Proofs.YtcijaoihcckofaaDoor
namespace Go.Proofs.YtcijaoihcckofaaDoor
set_option linter.unusedVariables false
set_option linter.unusedSimpArgs false
open Go.RowKit
def num4 (a b c d : Nat) : Nat := a + 18446744073709551616 * b + 340282366920938463463374607431768211456 * c + 6277101735386680763835789423207666416102355444464034512896 * d
theorem num4_of {n : Nat} (h : n < 115792089237316195423570985008687907853269984665640564039457584007913129639936) : num4 (wd0 n) (wd1 n) (wd2 n) (wd3 n) = n := by
  unfold num4 wd0 wd1 wd2 wd3
  omega
theorem num4_lt {a b c d : Nat} (ha : a < 18446744073709551616) (hb : b < 18446744073709551616) (hc : c < 18446744073709551616) (hd : d < 18446744073709551616) :
    num4 a b c d < 115792089237316195423570985008687907853269984665640564039457584007913129639936 := by
  unfold num4
  omega
theorem of_num4 {n a b c d : Nat} (h : n = num4 a b c d) (ha : a < 18446744073709551616) (hb : b < 18446744073709551616) (hc : c < 18446744073709551616) (hd : d < 18446744073709551616) :
    wd0 n = a ∧ wd1 n = b ∧ wd2 n = c ∧ wd3 n = d := by
  have := of_num5 (n := n) (a := a) (b := b) (c := c) (d := d) (e := 0) (by rw [h]; unfold num4 num5; omega) ha hb hc hd
  exact ⟨this.1, this.2.1, this.2.2.1, this.2.2.2.1⟩
/-- Five words, as they are answered. -/
def ret5 (n : Nat) : Value := .tuple #[.int .u64 (wd0 n : Int), .int .u64 (wd1 n : Int), .int .u64 (wd2 n : Int), .int .u64 (wd3 n : Int), .int .u64 (wd4 n : Int)]
theorem ret5_of {n a b c d e : Nat} (h : n = num5 a b c d e) (ha : a < 18446744073709551616) (hb : b < 18446744073709551616) (hc : c < 18446744073709551616) (hd : d < 18446744073709551616) :
    Value.tuple #[.int .u64 (a : Int), .int .u64 (b : Int), .int .u64 (c : Int), .int .u64 (d : Int), .int .u64 (e : Int)] = ret5 n := by
  obtain ⟨h0, h1, h2, h3, h4⟩ := of_num5 h ha hb hc hd
  unfold ret5
  rw [h0, h1, h2, h3, h4]
/-- What was borrowed. -/
def bor (n : Nat) : Nat := 1 - wd4 n
/-- A difference's, with what was borrowed. -/
def retm (n : Nat) : Value := .tuple #[.int .u64 (wd0 n : Int), .int .u64 (wd1 n : Int), .int .u64 (wd2 n : Int), .int .u64 (wd3 n : Int), .int .u64 (bor n : Int)]
set_option maxHeartbeats 400000 in
theorem plus_any (a0 a1 a2 a3 b0 b1 b2 b3 : Nat) (w : World) (ha0 : a0 < 18446744073709551616) (ha1 : a1 < 18446744073709551616) (ha2 : a2 < 18446744073709551616) (ha3 : a3 < 18446744073709551616)
    (hb0 : b0 < 18446744073709551616) (hb1 : b1 < 18446744073709551616) (hb2 : b2 < 18446744073709551616) (hb3 : b3 < 18446744073709551616) :
    Calls Tryd.prog 69 #[.agg #[.int .u64 (a0 : Int), .int .u64 (a1 : Int), .int .u64 (a2 : Int), .int .u64 (a3 : Int)], .agg #[.int .u64 (b0 : Int), .int .u64 (b1 : Int), .int .u64 (b2 : Int), .int .u64 (b3 : Int)]] w
      fun e w' => e = .returned (ret5 (num4 a0 a1 a2 a3 + num4 b0 b1 b2 b3)) ∧ Below w.heap.size w w' := by
  obtain ⟨s0, c0, h0, e0, l0, k0⟩ := add64_ex a0 b0 0 ha0 hb0 (by omega)
  obtain ⟨s1, c1, h1, e1, l1, k1⟩ := add64_ex a1 b1 c0 ha1 hb1 k0
  obtain ⟨s2, c2, h2, e2, l2, k2⟩ := add64_ex a2 b2 c1 ha2 hb2 k1
  obtain ⟨s3, c3, h3, e3, l3, k3⟩ := add64_ex a3 b3 c2 ha3 hb3 k2
  have hn : num4 a0 a1 a2 a3 + num4 b0 b1 b2 b3 = num5 s0 s1 s2 s3 c3 := by
    unfold num4 num5
    omega
  have hr := ret5_of hn l0 l1 l2 l3
  clear e0 e1 e2 e3 hn
  have HR := Lib.hid hr
  clear hr
  rw [Int.natCast_zero] at h0
  go_enter Tryd.func69, Tryd.ntmps69
  go_wp2_with (first | simp only [h0] | simp only [h1] | simp only [h2] | simp only [h3])
  refine bodyPost_ret (v := .tuple #[.int .u64 (s0 : Int), .int .u64 (s1 : Int), .int .u64 (s2 : Int), .int .u64 (s3 : Int), .int .u64 (c3 : Int)]) (by simp [results, Tryd.results69, go_sem]) rfl ⟨?_, ?_⟩
  · rw [HR.out]
  · exact ((Below.refl _ _).alloc (Nat.le_refl _) _).alloc (by simp) _
set_option maxHeartbeats 400000 in
theorem minus_any (a0 a1 a2 a3 b0 b1 b2 b3 : Nat) (w : World) (ha0 : a0 < 18446744073709551616) (ha1 : a1 < 18446744073709551616) (ha2 : a2 < 18446744073709551616) (ha3 : a3 < 18446744073709551616)
    (hb0 : b0 < 18446744073709551616) (hb1 : b1 < 18446744073709551616) (hb2 : b2 < 18446744073709551616) (hb3 : b3 < 18446744073709551616) :
    Calls Tryd.prog 71 #[.agg #[.int .u64 (a0 : Int), .int .u64 (a1 : Int), .int .u64 (a2 : Int), .int .u64 (a3 : Int)], .agg #[.int .u64 (b0 : Int), .int .u64 (b1 : Int), .int .u64 (b2 : Int), .int .u64 (b3 : Int)]] w
      fun e w' => e = .returned (retm (num4 a0 a1 a2 a3 + 115792089237316195423570985008687907853269984665640564039457584007913129639936 - num4 b0 b1 b2 b3)) ∧ Below w.heap.size w w' := by
  obtain ⟨s0, c0, h0, e0, l0, k0⟩ := sub64_ex a0 b0 0 ha0 hb0 (by omega)
  obtain ⟨s1, c1, h1, e1, l1, k1⟩ := sub64_ex a1 b1 c0 ha1 hb1 k0
  obtain ⟨s2, c2, h2, e2, l2, k2⟩ := sub64_ex a2 b2 c1 ha2 hb2 k1
  obtain ⟨s3, c3, h3, e3, l3, k3⟩ := sub64_ex a3 b3 c2 ha3 hb3 k2
  have hn : num4 a0 a1 a2 a3 + 115792089237316195423570985008687907853269984665640564039457584007913129639936 - num4 b0 b1 b2 b3 = num5 s0 s1 s2 s3 (1 - c3) := by
    unfold num4 num5
    omega
  have hr : Value.tuple #[.int .u64 (s0 : Int), .int .u64 (s1 : Int), .int .u64 (s2 : Int), .int .u64 (s3 : Int), .int .u64 (c3 : Int)] = retm (num4 a0 a1 a2 a3 + 115792089237316195423570985008687907853269984665640564039457584007913129639936 - num4 b0 b1 b2 b3) := by
    obtain ⟨h0, h1, h2, h3, h4⟩ := of_num5 hn l0 l1 l2 l3
    unfold retm bor
    rw [h0, h1, h2, h3, h4]
    have : 1 - (1 - c3) = c3 := by omega
    rw [this]
  clear e0 e1 e2 e3 hn
  have HR := Lib.hid hr
  clear hr
  rw [Int.natCast_zero] at h0
  go_enter Tryd.func71, Tryd.ntmps71
  go_wp2_with (first | simp only [h0] | simp only [h1] | simp only [h2] | simp only [h3])
  refine bodyPost_ret (v := .tuple #[.int .u64 (s0 : Int), .int .u64 (s1 : Int), .int .u64 (s2 : Int), .int .u64 (s3 : Int), .int .u64 (c3 : Int)]) (by simp [results, Tryd.results71, go_sem]) rfl ⟨?_, ?_⟩
  · rw [HR.out]
  · exact ((Below.refl _ _).alloc (Nat.le_refl _) _).alloc (by simp) _
set_option maxHeartbeats 400000 in
theorem row_any (g a0 a1 a2 a3 n b0 b1 b2 b3 : Nat) (w : World) (ha0 : a0 < 18446744073709551616) (ha1 : a1 < 18446744073709551616) (ha2 : a2 < 18446744073709551616) (ha3 : a3 < 18446744073709551616)
    (hb0 : b0 < 18446744073709551616) (hb1 : b1 < 18446744073709551616) (hb2 : b2 < 18446744073709551616) (hb3 : b3 < 18446744073709551616) (hn : n < 18446744073709551616)
    (c0 : w.cell? ⟨g, 0, none⟩ = some (.int .u64 (a0 : Int))) (c1 : w.cell? ⟨g, 1, none⟩ = some (.int .u64 (a1 : Int))) (c2 : w.cell? ⟨g, 2, none⟩ = some (.int .u64 (a2 : Int))) (c3 : w.cell? ⟨g, 3, none⟩ = some (.int .u64 (a3 : Int))) :
    Calls Tryd.prog 70 #[.pointer (some ⟨g, 0, none⟩), .int .u64 (n : Int), .int .u64 (b0 : Int), .int .u64 (b1 : Int), .int .u64 (b2 : Int), .int .u64 (b3 : Int)] w
      fun e w' => e = .returned (ret5 (num4 a0 a1 a2 a3 * n + num4 b0 b1 b2 b3)) ∧ w = w' := by
  go_enter Tryd.func70, Tryd.ntmps70
  have z : ((0 : Nat) : Int) = 0 := rfl
  have m0 := mulAdd_any a0 n b0 0 w ha0 hn hb0 (by omega)
  rw [z] at m0
  go_wp2_with (fail)
  refine m0.mono ?_
  rintro e w' ⟨o0, r0, rfl, q0, rfl⟩
  have p0 := q0.2.1
  have p0' := q0.2.2
  have Q0 := Lib.hid q0
  clear q0 m0
  go_wp2_with (fail)
  refine (mulAdd_any a1 n b1 o0 w ha1 hn hb1 p0').mono ?_
  rintro e w' ⟨o1, r1, rfl, q1, rfl⟩
  have p1 := q1.2.1
  have p1' := q1.2.2
  have Q1 := Lib.hid q1
  clear q1
  go_wp2_with (fail)
  refine (mulAdd_any a2 n b2 o1 w ha2 hn hb2 p1').mono ?_
  rintro e w' ⟨o2, r2, rfl, q2, rfl⟩
  have p2 := q2.2.1
  have p2' := q2.2.2
  have Q2 := Lib.hid q2
  clear q2
  go_wp2_with (fail)
  refine (mulAdd_any a3 n b3 o2 w ha3 hn hb3 p2').mono ?_
  rintro e w' ⟨o3, r3, rfl, q3, rfl⟩
  have p3 := q3.2.1
  have p3' := q3.2.2
  have Q3 := Lib.hid q3
  clear q3
  go_wp2_with (fail)
  refine bodyPost_ret (v := .tuple #[.int .u64 (r0 : Int), .int .u64 (r1 : Int), .int .u64 (r2 : Int), .int .u64 (r3 : Int), .int .u64 (o3 : Int)]) (by simp [results, Tryd.results70, go_sem]) rfl ⟨?_, rfl⟩
  rw [ret5_of (n := num4 a0 a1 a2 a3 * n + num4 b0 b1 b2 b3) ?_ p0 p1 p2 p3]
  have q0 := Q0.out.1
  have q1 := Q1.out.1
  have q2 := Q2.out.1
  have q3 := Q3.out.1
  have e : num4 a0 a1 a2 a3 * n = num4 (a0 * n) (a1 * n) (a2 * n) (a3 * n) := by
    unfold num4
    grind
  rw [e]
  generalize a0 * n = m0 at *
  generalize a1 * n = m1 at *
  generalize a2 * n = m2 at *
  generalize a3 * n = m3 at *
  unfold num4 num5
  omega
end Go.Proofs.YtcijaoihcckofaaDoor
namespace Go.Proofs.YtcijaoihcckofaaDoor
set_option linter.unusedVariables false
set_option linter.unusedSimpArgs false
def choose : Nat → Nat → Nat
  | _, 0 => 1
  | 0, _ + 1 => 0
  | n + 1, k + 1 => choose n k + choose n (k + 1)
theorem choose_z (n : Nat) : choose n 0 = 1 := by cases n <;> rfl
theorem choose_ss (n k : Nat) : choose (n + 1) (k + 1) = choose n k + choose n (k + 1) := rfl
theorem choose_gt : ∀ n k : Nat, n < k → choose n k = 0
  | 0, 0, h => absurd h (by omega)
  | 0, _ + 1, _ => rfl
  | _ + 1, 0, h => absurd h (by omega)
  | n + 1, k + 1, h => by rw [choose_ss, choose_gt n k (by omega), choose_gt n (k + 1) (by omega)]
theorem choose_mul : ∀ n k : Nat, (n + 1) * choose n k = choose (n + 1) (k + 1) * (k + 1)
  | 0, 0 => rfl
  | 0, k + 1 => by simp [choose]
  | n + 1, 0 => by simp [choose, choose_z]; have := choose_mul n 0; simp [choose, choose_z] at this; omega
  | n + 1, k + 1 => by
    have h1 := choose_mul n k
    have h2 := choose_mul n (k + 1)
    rw [choose_ss (n + 1) (k + 1)]
    rw [Nat.add_mul (choose (n + 1) (k + 1)), ← h2]
    have e : choose (n + 1) (k + 1) * (k + 1 + 1) = choose (n + 1) (k + 1) * (k + 1) + choose (n + 1) (k + 1) := by rw [Nat.mul_add (choose (n + 1) (k + 1)) (k + 1) 1, Nat.mul_one]
    rw [e, ← h1]
    rw [Nat.add_mul (n + 1) 1, Nat.one_mul, choose_ss n k, Nat.mul_add]
    omega
theorem choose_self : ∀ n : Nat, choose n n = 1
  | 0 => rfl
  | n + 1 => by rw [choose_ss, choose_self n, choose_gt n (n + 1) (by omega)]
/-- The sum of choose n k x^k over k below m. -/
def bsum (x n : Nat) : Nat → Nat
  | 0 => 0
  | m + 1 => bsum x n m + choose n m * x ^ m
theorem bsum_s (x n m : Nat) : bsum x (n + 1) (m + 1) = x * bsum x n m + bsum x n (m + 1) := by
  induction m with
  | zero => simp [bsum, choose_z]
  | succ m ih =>
    show bsum x (n + 1) (m + 1) + choose (n + 1) (m + 1) * x ^ (m + 1) = x * (bsum x n m + choose n m * x ^ m) + (bsum x n (m + 1) + choose n (m + 1) * x ^ (m + 1))
    rw [ih, choose_ss, Nat.add_mul, Nat.mul_add]
    have : x * (choose n m * x ^ m) = choose n m * x ^ (m + 1) := by rw [Nat.pow_succ, Nat.mul_left_comm, Nat.mul_comm x]
    rw [this]
    omega
theorem binom (x n : Nat) : (x + 1) ^ n = bsum x n (n + 1) := by
  induction n with
  | zero => simp [bsum, choose]
  | succ n ih =>
    rw [bsum_s]
    show _ = x * bsum x n (n + 1) + (bsum x n (n + 1) + choose n (n + 1) * x ^ (n + 1))
    rw [choose_gt n (n + 1) (by omega), Nat.zero_mul, Nat.add_zero, Nat.pow_succ, ih, Nat.mul_add, Nat.mul_one, Nat.mul_comm]; rfl
def IsPrime (p : Nat) : Prop := 2 ≤ p ∧ ∀ m, m ∣ p → m = 1 ∨ m = p
theorem IsPrime.coprime {p a : Nat} (h : IsPrime p) (ha : ¬ p ∣ a) : Nat.gcd p a = 1 := by
  rcases h.2 _ (Nat.gcd_dvd_left p a) with e | e
  · exact e
  · exact absurd (e ▸ Nat.gcd_dvd_right p a) ha
theorem IsPrime.euclid {p a b : Nat} (h : IsPrime p) (hd : p ∣ a * b) : p ∣ a ∨ p ∣ b := by
  by_cases ha : p ∣ a
  · exact .inl ha
  · exact .inr (Nat.Coprime.dvd_of_dvd_mul_left (h.coprime ha) hd)
theorem choose_dvd {p k : Nat} (h : IsPrime p) (h1 : 0 < k) (h2 : k < p) : p ∣ choose p k := by
  obtain ⟨p', rfl⟩ : ∃ p', p = p' + 1 := ⟨p - 1, by omega⟩
  obtain ⟨k', rfl⟩ : ∃ k', k = k' + 1 := ⟨k - 1, by omega⟩
  have hd : p' + 1 ∣ choose (p' + 1) (k' + 1) * (k' + 1) := ⟨_, (choose_mul p' k').symm⟩
  rcases h.euclid hd with hd | hd
  · exact hd
  · exact absurd (Nat.le_of_dvd (by omega) hd) (by omega)
theorem bsum_mod {p : Nat} (h : IsPrime p) (x m : Nat) (hm : m + 1 ≤ p) : bsum x p (m + 1) % p = 1 % p := by
  induction m with
  | zero => simp [bsum, choose_z]
  | succ m ih =>
    show (bsum x p (m + 1) + choose p (m + 1) * x ^ (m + 1)) % p = _
    obtain ⟨c, hc⟩ := choose_dvd h (show 0 < m + 1 by omega) (by omega)
    rw [hc, Nat.mul_assoc, Nat.add_mul_mod_self_left, ih (by omega)]
theorem fermat {p : Nat} (h : IsPrime p) (x : Nat) : x ^ p % p = x % p := by
  induction x with
  | zero => rw [Nat.zero_pow (by have := h.1; omega)]
  | succ x ih =>
    have e : bsum x p (p + 1) = bsum x p p + choose p p * x ^ p := rfl
    obtain ⟨q, hq⟩ : ∃ q, p = q + 1 := ⟨p - 1, by have := h.1; omega⟩
    have hb : bsum x p p % p = 1 % p := by
      have := bsum_mod h x q (by omega)
      rw [← hq] at this
      exact this
    rw [binom, e, choose_self, Nat.one_mul, Nat.add_mod, hb, ih, ← Nat.add_mod, Nat.add_comm]
theorem sub_dvd_of_mod {a b p : Nat} (h : a % p = b % p) (hab : b ≤ a) : p ∣ a - b := by
  have h1 := Nat.div_add_mod a p
  have h2 := Nat.div_add_mod b p
  rw [h] at h1
  have h3 : p * (b / p) ≤ p * (a / p) := by omega
  refine ⟨a / p - b / p, ?_⟩
  rw [Nat.mul_sub]
  omega
theorem fermat1 {p : Nat} (h : IsPrime p) (x : Nat) (hx : ¬ p ∣ x) : x ^ (p - 1) % p = 1 := by
  have h2 := h.1
  have hx0 : 0 < x := Nat.pos_of_ne_zero fun e => hx (e ▸ Nat.dvd_zero p)
  have hp : 0 < x ^ (p - 1) := Nat.pow_pos hx0
  have h3 := fermat h x
  have e : x ^ p = x * x ^ (p - 1) := by
    have : p = (p - 1) + 1 := by omega
    rw (occs := .pos [1]) [this]
    rw [Nat.pow_succ, Nat.mul_comm]
  have h4 : p ∣ x * (x ^ (p - 1) - 1) := by
    rw [Nat.mul_sub, Nat.mul_one, ← e]
    refine sub_dvd_of_mod h3 ?_
    rw [e]
    exact Nat.le_mul_of_pos_right _ hp
  rcases h.euclid h4 with h5 | h5
  · exact absurd h5 hx
  · obtain ⟨c, hc⟩ := h5
    have : x ^ (p - 1) = 1 + p * c := by omega
    rw [this, Nat.add_mul_mod_self_left]
    exact Nat.mod_eq_of_lt (by omega)
theorem pow_gcd {b r : Nat} (hr : 1 < r) : ∀ m n : Nat, b ^ m % r = 1 → b ^ n % r = 1 → b ^ (Nat.gcd m n) % r = 1 := by
  intro m n
  induction m, n using Nat.gcd.induction with
  | H0 n => intro _ h; simpa using h
  | H1 m n hm ih =>
    intro h1 h2
    rw [Nat.gcd_rec]
    refine ih ?_ h1
    have e : b ^ n = b ^ (m * (n / m)) * b ^ (n % m) := by rw [← Nat.pow_add, Nat.div_add_mod]
    rw [e, Nat.mul_mod, Nat.pow_mul, Nat.pow_mod (b ^ m), h1, Nat.one_pow, Nat.mod_eq_of_lt hr, Nat.one_mul, Nat.mod_mod] at h2
    exact h2
theorem prime_below (n : Nat) (h2 : 2 ≤ n) (hn : ¬ IsPrime n) : ∃ r, IsPrime r ∧ r ∣ n ∧ r * r ≤ n := by
  have hex : ∃ m, 2 ≤ m ∧ m ∣ n ∧ m < n := by
    apply Classical.byContradiction
    intro hc
    apply hn
    refine ⟨h2, fun m hm => ?_⟩
    have h0 : 0 < m := Nat.pos_of_dvd_of_pos hm (by omega)
    have h1 := Nat.le_of_dvd (by omega) hm
    apply Classical.byContradiction
    intro h3
    exact hc ⟨m, by omega, hm, by omega⟩
  -- the least such m
  have least : ∀ k m : Nat, m ≤ k → 2 ≤ m → m ∣ n → m < n → ∃ r, 2 ≤ r ∧ r ∣ n ∧ r < n ∧ ∀ s, 2 ≤ s → s < r → ¬ s ∣ n := by
    intro k
    induction k with
    | zero => intro m h1 h2; omega
    | succ k ih =>
      intro m hk hm hd hlt
      by_cases hs : ∃ s, 2 ≤ s ∧ s < m ∧ s ∣ n
      · obtain ⟨s, a, b, c⟩ := hs
        exact ih s (by omega) a c (by omega)
      · exact ⟨m, hm, hd, hlt, fun s a b c => hs ⟨s, a, b, c⟩⟩
  obtain ⟨m, a, b, c⟩ := hex
  obtain ⟨r, h3, hd, h4, h5⟩ := least m m (Nat.le_refl _) a b c
  refine ⟨r, ⟨h3, fun s hs => ?_⟩, hd, ?_⟩
  · have h0 : 0 < s := Nat.pos_of_dvd_of_pos hs (by omega)
    have h1 := Nat.le_of_dvd (by omega) hs
    apply Classical.byContradiction
    intro h6
    exact h5 s (by omega) (by omega) (Nat.dvd_trans hs hd)
  · obtain ⟨t, ht⟩ := hd
    have ht2 : 2 ≤ t := by
      rcases t with _ | _ | t
      · omega
      · omega
      · omega
    have : r ≤ t := by
      apply Classical.byContradiction
      intro h6
      exact h5 t ht2 (by omega) ⟨r, by rw [ht, Nat.mul_comm]⟩
    rw [ht]
    exact Nat.mul_le_mul_left r this
/-- Powers modulo n, in as many steps as the exponent has bits. -/
def powm (n : Nat) : Nat → Nat → Nat → Nat
  | 0, _, _ => 1 % n
  | f + 1, a, e => if e = 0 then 1 % n else if e % 2 = 1 then a * powm n f (a * a % n) (e / 2) % n else powm n f (a * a % n) (e / 2)
theorem powm_eq (n : Nat) : ∀ f a e : Nat, e < 2 ^ f → powm n f a e = a ^ e % n
  | 0, a, e, h => by
    obtain rfl : e = 0 := by simp at h; exact h
    rfl
  | f + 1, a, e, h => by
    have ih := powm_eq n f (a * a % n) (e / 2) (by rw [Nat.pow_succ] at h; omega)
    have e2 : (a * a) ^ (e / 2) = a ^ (2 * (e / 2)) := by rw [← Nat.pow_two, ← Nat.pow_mul]
    unfold powm
    split
    · rename_i h0; subst h0; rfl
    · split
      · rename_i _ h1
        rw [ih, ← Nat.pow_mod, e2, Nat.mul_mod, Nat.mod_mod, ← Nat.mul_mod]
        have : e = 2 * (e / 2) + 1 := by omega
        rw (occs := .pos [2]) [this]
        rw [Nat.pow_succ, Nat.mul_comm]
      · rename_i _ h1
        rw [ih, ← Nat.pow_mod, e2]
        have : e = 2 * (e / 2) := by omega
        rw [← this]
/-- What Pocklington's test asks of a prime q of n - 1. -/
def poc (n a q : Nat) : Bool := decide (n < 2 ^ 300) && decide (2 ≤ q) && decide ((n - 1) % q = 0) && decide (powm n 300 a (n - 1) = 1) && decide (Nat.gcd (powm n 300 a ((n - 1) / q) + n - 1) n = 1)
theorem poc_dvd {n a q r : Nat} (hn : 2 ≤ n) (h : poc n a q = true) (hq : IsPrime q) (hr : IsPrime r) (hd : r ∣ n) : q ∣ r - 1 := by
  simp only [poc, Bool.and_eq_true, decide_eq_true_eq] at h
  obtain ⟨⟨⟨⟨h1, h2⟩, h3⟩, h4⟩, h5⟩ := h
  have hr2 := hr.1
  have hlt : (n - 1) / q < 2 ^ 300 := Nat.lt_of_le_of_lt (Nat.div_le_self _ _) (by omega)
  rw [powm_eq n 300 a _ (by omega)] at h4
  rw [powm_eq n 300 a _ hlt] at h5
  obtain ⟨R, hR⟩ := Nat.dvd_of_mod_eq_zero h3
  have hdiv : (n - 1) / q = R := by rw [hR]; exact Nat.mul_div_cancel_left R (by omega)
  rw [hdiv] at h5
  have hmod : ∀ x : Nat, x % n % r = x % r := fun x => Nat.mod_mod_of_dvd x hd
  have hq1 : (a ^ R) ^ q % r = 1 := by
    rw [← Nat.pow_mul, Nat.mul_comm R q, ← hR, ← hmod, h4]
    exact Nat.mod_eq_of_lt (by omega)
  have hne : a ^ R % r ≠ 1 := by
    intro e
    have hdv : r ∣ a ^ R % n + n - 1 := by
      obtain ⟨c, hc⟩ := hd
      have e1 : a ^ R % n % r = 1 := by rw [hmod]; exact e
      have e2 := Nat.div_add_mod (a ^ R % n) r
      rw [e1] at e2
      refine ⟨a ^ R % n / r + c, ?_⟩
      rw [Nat.mul_add, ← hc]
      omega
    have := Nat.dvd_gcd hdv hd
    rw [h5] at this
    have := Nat.le_of_dvd (by omega) this
    omega
  have hnd : ¬ r ∣ a ^ R := by
    intro hc
    have : r ∣ (a ^ R) ^ q := Nat.dvd_trans hc (⟨(a ^ R) ^ (q - 1), by rw [← Nat.pow_succ']; congr 1; omega⟩)
    have := Nat.mod_eq_zero_of_dvd this
    omega
  have hf := fermat1 hr (a ^ R) hnd
  apply Classical.byContradiction
  intro hc
  have hg := pow_gcd (b := a ^ R) (r := r) (by omega) q (r - 1) hq1 hf
  rw [hq.coprime hc, Nat.pow_one] at hg
  exact hne hg
theorem poc1 {n a q : Nat} (hn : 2 ≤ n) (h : poc n a q = true) (hq : IsPrime q) (hb : n < q * q) : IsPrime n := by
  apply Classical.byContradiction
  intro hc
  obtain ⟨r, h1, h2, h3⟩ := prime_below n hn hc
  have hd := poc_dvd hn h hq h1 h2
  have := h1.1
  have hl := Nat.le_of_dvd (by omega) hd
  have := Nat.mul_le_mul (show q ≤ r by omega) (show q ≤ r by omega)
  omega
theorem poc2 {n a q s : Nat} (hn : 2 ≤ n) (h : poc n a q = true) (h' : poc n a s = true) (hq : IsPrime q) (hs : IsPrime s) (hqs : Nat.gcd q s = 1) (hb : n < (q * s) * (q * s)) : IsPrime n := by
  apply Classical.byContradiction
  intro hc
  obtain ⟨r, h1, h2, h3⟩ := prime_below n hn hc
  have hd := Nat.Coprime.mul_dvd_of_dvd_of_dvd hqs (poc_dvd hn h hq h1 h2) (poc_dvd hn h' hs h1 h2)
  have := h1.1
  have hl := Nat.le_of_dvd (by omega) hd
  have := Nat.mul_le_mul (show q * s ≤ r by omega) (show q * s ≤ r by omega)
  omega
def noDiv (n : Nat) : Nat → Bool
  | 0 => true
  | k + 1 => (decide (k < 2) || decide (n % k ≠ 0)) && noDiv n k
theorem noDiv_ok {n : Nat} : ∀ k : Nat, noDiv n k = true → ∀ m, 2 ≤ m → m < k → ¬ m ∣ n
  | 0, _, m, _, h => absurd h (by omega)
  | k + 1, h, m, h2, hm => by
    simp only [noDiv, Bool.and_eq_true, Bool.or_eq_true, decide_eq_true_eq] at h
    by_cases e : m = k
    · subst e
      intro hd
      have := Nat.mod_eq_zero_of_dvd hd
      omega
    · exact noDiv_ok k h.2 m h2 (by omega)
theorem trial {n : Nat} (k : Nat) (h2 : 2 ≤ n) (h : noDiv n k = true) (hk : n < k * k) : IsPrime n := by
  apply Classical.byContradiction
  intro hc
  obtain ⟨r, h1, hd, h3⟩ := prime_below n h2 hc
  have : r < k := by
    apply Classical.byContradiction
    intro h4
    have := Nat.mul_le_mul (show k ≤ r by omega) (show k ≤ r by omega)
    omega
  exact noDiv_ok k h r h1.1 this hd
theorem pr127 : IsPrime 127 := trial 12 (by decide) (by decide +kernel) (by decide)
theorem pr75707 : IsPrime 75707 := trial 276 (by decide) (by decide +kernel) (by decide)
theorem pr1923133 : IsPrime 1923133 := trial 1387 (by decide) (by decide +kernel) (by decide)
theorem pr8574133 : IsPrime 8574133 := trial 2929 (by decide) (by decide +kernel) (by decide)
theorem prQ3 : IsPrime 1919519569386763 := poc2 (a := 2) (by decide) (by decide +kernel) (by decide +kernel) pr8574133 pr127 (by decide +kernel) (by decide +kernel)
theorem prQ2 : IsPrime 75445702479781427272750846543864801 := poc2 (a := 2) (by decide) (by decide +kernel) (by decide +kernel) prQ3 pr75707 (by decide +kernel) (by decide +kernel)
theorem prQ1 : IsPrime 74058212732561358302231226437062788676166966415465897661863160754340907 := poc2 (a := 2) (by decide) (by decide +kernel) (by decide +kernel) prQ2 pr1923133 (by decide +kernel) (by decide +kernel)
/-- 2^255 - 19, its digits written out. -/
theorem prP : IsPrime 57896044618658097711785492504343953926634992332820282019728792003956564819949 := poc1 (a := 2) (by decide) (by decide +kernel) prQ1 (by decide +kernel)
#print axioms prP
end Go.Proofs.YtcijaoihcckofaaDoor
namespace Go.Proofs.YtcijaoihcckofaaDoor
set_option linter.unusedVariables false
set_option linter.unusedSimpArgs false
theorem neg_even {n m : Nat} (ho : m % 2 = 1) (h : n % 2 = 1) (hl : n < m) : (m - n) % m % 2 = 0 := by
  have h1 : m - n < m := by clear ho; omega
  have h2 : (m - n) % 2 = 0 := by clear h1; omega
  rw [Nat.mod_eq_of_lt h1]
  exact h2
theorem not_odd_even {n : Nat} (h : ¬ n % 2 = 1) : n % 2 = 0 := by omega
/-- The even one of a number and its opposite. -/
def evenOf {p : Nat} (r : Fin p) : Fin p := if r.val % 2 = 1 then -r else r
theorem evenOf_even {p : Nat} (r : Fin p) (ho : p % 2 = 1) : (evenOf r).val % 2 = 0 := by
  unfold evenOf
  split
  · rename_i h
    rw [Fin.val_neg']
    exact neg_even ho h r.isLt
  · rename_i h
    exact not_odd_even h
section
variable {p : Nat} [NeZero p]
theorem fq_pow_zero (a : Fin p) : a ^ 0 = 1 := by grind
theorem fq_pow_succ (a : Fin p) (k : Nat) : a ^ (k + 1) = a ^ k * a := by grind
theorem fq_mul_comm (a b : Fin p) : a * b = b * a := by grind
theorem fq_mul_one (a : Fin p) : a * 1 = a := by grind
theorem fq_pow_add (a : Fin p) (m n : Nat) : a ^ (m + n) = a ^ m * a ^ n := by
  induction n with
  | zero => rw [Nat.add_zero, fq_pow_zero, fq_mul_one]
  | succ n ih => rw [← Nat.add_assoc, fq_pow_succ, fq_pow_succ, ih]; grind
theorem fq_one_pow (n : Nat) : (1 : Fin p) ^ n = 1 := by
  induction n with
  | zero => rw [fq_pow_zero]
  | succ n ih => rw [fq_pow_succ, ih, fq_mul_one]
theorem fq_mul_pow (a b : Fin p) (n : Nat) : (a * b) ^ n = a ^ n * b ^ n := by
  induction n with
  | zero => rw [fq_pow_zero, fq_pow_zero, fq_pow_zero, fq_mul_one]
  | succ n ih => rw [fq_pow_succ, fq_pow_succ, fq_pow_succ, ih]; grind
theorem fp_pow_val (a : Fin p) (k : Nat) : (a ^ k).val = a.val ^ k % p := by
  induction k with
  | zero => rw [Nat.pow_zero]; rfl
  | succ k ih =>
    rw [fq_pow_succ, Fin.val_mul, ih, Nat.pow_succ, Nat.mul_mod, Nat.mod_mod, ← Nat.mul_mod]
theorem fp_pow_mul (a : Fin p) (m n : Nat) : a ^ (m * n) = (a ^ m) ^ n := by
  induction n with
  | zero => rw [Nat.mul_zero, fq_pow_zero, fq_pow_zero]
  | succ n ih => rw [Nat.mul_succ, fq_pow_add, ih, fq_pow_succ]
theorem fp_zero_iff (a : Fin p) : a = 0 ↔ a.val = 0 := by
  rw [Fin.ext_iff]; rfl
theorem fp_nz {a b : Fin p} (hp : IsPrime p) (h : a * b = 0) : a = 0 ∨ b = 0 := by
  rw [fp_zero_iff, Fin.val_mul] at h
  rcases hp.euclid (Nat.dvd_of_mod_eq_zero h) with h | h
  · left; rw [fp_zero_iff]; exact Nat.eq_zero_of_dvd_of_lt h a.isLt
  · right; rw [fp_zero_iff]; exact Nat.eq_zero_of_dvd_of_lt h b.isLt
theorem fp_fermat {a : Fin p} (hp : IsPrime p) (h : a ≠ 0) : a ^ (p - 1) = 1 := by
  apply Fin.ext
  rw [fp_pow_val, fermat1 hp a.val fun hd => h ((fp_zero_iff a).2 (Nat.eq_zero_of_dvd_of_lt hd a.isLt))]
  exact (Nat.mod_eq_of_lt hp.1).symm
theorem fp_one_ne (hp : IsPrime p) : (1 : Fin p) ≠ 0 := by
  intro h
  have h2 : (1 % p) = 0 := by have := congrArg Fin.val h; exact this
  have := hp.1
  rw [Nat.mod_eq_of_lt (by omega)] at h2
  omega
theorem fp_inv {a : Fin p} (hp : IsPrime p) (h : a ≠ 0) : a * a ^ (p - 2) = 1 := by
  rw [← fp_fermat hp h]
  have : p - 1 = (p - 2) + 1 := by have := hp.1; omega
  rw [this, fq_pow_succ, fq_mul_comm]
theorem fp_zero_pow (k : Nat) (h : 0 < k) : (0 : Fin p) ^ k = 0 := by
  obtain ⟨j, rfl⟩ : ∃ j, k = j + 1 := ⟨k - 1, by omega⟩
  rw [fq_pow_succ]; grind
theorem fp_cancel {a b c : Fin p} (hp : IsPrime p) (h : a ≠ 0) (e : a * b = a * c) : b = c := by
  have : a * (b - c) = 0 := by grind
  rcases fp_nz hp this with h' | h'
  · exact absurd h' h
  · grind
theorem evenOf_sq (r : Fin p) : evenOf r * evenOf r = r * r := by
  unfold evenOf
  split <;> grind
/-- What the program does for a root of u / v. -/
def rootC (e : Nat) (i u v : Fin p) : Fin p × Bool :=
  let r0 := u * (v * v * v) * (u * ((v * v * v) * (v * v * v) * v)) ^ e
  let r := if v * (r0 * r0) = -u then r0 * i else r0
  if v * (r * r) = u then (evenOf r, true) else (0, false)
/-- What the document's answers do. -/
def rootR (e : Nat) (i u v : Fin p) : Fin p × Bool :=
  if v = 0 then (0, decide (u = 0)) else
    let q := u * v ^ (p - 2)
    if q = 0 then (q, true) else if q ^ (4 * e + 2) = 1 then
      let x := q * q ^ e
      (evenOf (if x * x = q then x else x * i), true)
    else (0, false)
variable {e : Nat} {i : Fin p}
theorem half_sq {q : Fin p} (hp : IsPrime p) (he : p = 8 * e + 5) (h : q ≠ 0) : q ^ (4 * e + 2) = 1 ∨ q ^ (4 * e + 2) = -1 := by
  have h1 := fp_fermat hp h
  have h2 : q ^ (4 * e + 2) * q ^ (4 * e + 2) = 1 := by
    rw [← fq_pow_add, ← h1]
    congr 1
    omega
  have h3 : (q ^ (4 * e + 2) - 1) * (q ^ (4 * e + 2) + 1) = 0 := by grind
  rcases fp_nz hp h3 with h4 | h4
  · left; grind
  · right; grind
theorem half_split (q : Fin p) (e : Nat) : q ^ (4 * e + 2) = q ^ (2 * e + 1) * q ^ (2 * e + 1) := by
  rw [← fq_pow_add]; congr 1; omega
theorem two_ne (hp : IsPrime p) (he : p = 8 * e + 5) : (1 : Fin p) ≠ -1 := by
  intro h
  have h2 : (1 : Fin p) + 1 = 0 := by grind
  have h3 : (1 % p + 1 % p) % p = 0 := by have := congrArg Fin.val h2; exact this
  rw [Nat.mod_eq_of_lt (show 1 < p by clear h3 h2 h; omega), Nat.mod_eq_of_lt (by clear h3 h2 h; omega)] at h3
  clear h2 h
  omega
theorem neg_zero_iff (u : Fin p) : -u = 0 ↔ u = 0 := by constructor <;> intro h <;> grind
/-- All that is said of the program's root, with q = u / v: where v is not 0. -/
theorem rootC_eq {u v : Fin p} (hp : IsPrime p) (he : p = 8 * e + 5) (hi : i * i = -1) : rootC e i u v = rootR e i u v := by
  unfold rootR
  by_cases hv : v = 0
  · rw [if_pos hv]
    subst hv
    unfold rootC
    by_cases hu : u = 0
    · subst hu
      have e0 : (0 : Fin p) * (0 * 0 * 0) * (0 * (0 * 0 * 0 * (0 * 0 * 0) * 0)) ^ e = 0 := by grind
      simp only [e0]
      have e1 : (if (0 : Fin p) * (0 * 0) = -0 then (0 : Fin p) * i else 0) = 0 := by split <;> grind
      rw [e1]
      have e2 : (0 : Fin p) * (0 * 0) = 0 := by grind
      rw [if_pos e2]
      have e3 : evenOf (0 : Fin p) = 0 := by
        unfold evenOf
        rw [if_neg (by have : (0 : Fin p).val = 0 := rfl; omega)]
      simp [e3]
    · have e2 : ∀ r : Fin p, (0 : Fin p) * (r * r) = 0 := fun r => by grind
      simp only [e2]
      have hu' : ¬ (0 : Fin p) = u := fun h => hu h.symm
      rw [if_neg hu']
      simp [hu]
  · rw [if_neg hv]
    have hw := fp_inv hp hv
    generalize hwd : v ^ (p - 2) = w at hw
    simp only []
    generalize hq : u * w = q
    have hu : u = q * v := by rw [← hq]; grind
    -- the program's first root is q q^e
    have hv8 : v ^ (8 * e) * (v * v * (v * v)) = 1 := by
      have : v ^ (8 * e + 4) = 1 := by
        rw [← fp_fermat hp hv]; congr 1; omega
      rw [← this, fq_pow_add]; grind
    have hr0 : u * (v * v * v) * (u * ((v * v * v) * (v * v * v) * v)) ^ e = q * q ^ e := by
      have h1 : u * ((v * v * v) * (v * v * v) * v) = q * v ^ 8 := by rw [hu]; grind
      rw [h1, fq_mul_pow, ← fp_pow_mul, hu]
      generalize v ^ (8 * e) = z at *
      generalize q ^ e = y at *
      grind
    unfold rootC
    simp only [hr0]
    have hx2 : (q * q ^ e) * (q * q ^ e) = q * q ^ (2 * e + 1) := by
      have : q ^ (2 * e + 1) = q ^ e * q ^ e * q := by
        rw [fq_pow_succ, ← fq_pow_add]; congr 2; omega
      rw [this]; grind
    by_cases hq0 : q = 0
    · rw [if_pos hq0]
      subst hq0
      have hu0 : u = 0 := by rw [hu]; grind
      subst hu0
      have e0 : (0 : Fin p) * 0 ^ e = 0 := by grind
      rw [e0]
      have e1 : (if v * ((0 : Fin p) * 0) = -0 then (0 : Fin p) * i else 0) = 0 := by split <;> grind
      rw [e1]
      have e2 : v * ((0 : Fin p) * 0) = 0 := by grind
      rw [if_pos e2]
      have e3 : evenOf (0 : Fin p) = 0 := by
        unfold evenOf
        rw [if_neg (by have : (0 : Fin p).val = 0 := rfl; omega)]
      rw [e3]
    · rw [if_neg hq0]
      have hu0 : u ≠ 0 := by
        intro h
        rw [hu] at h
        rcases fp_nz hp h with h | h
        · exact hq0 h
        · exact hv h
      generalize hx : q * q ^ e = x at hx2
      have hs := half_split q e
      generalize ht : q ^ (2 * e + 1) = t at hx2 hs
      have hvr : v * (x * x) = u * t := by rw [hx2, hu]; grind
      have hvr2 : v * ((x * i) * (x * i)) = -(u * t) := by
        have : v * ((x * i) * (x * i)) = v * (x * x) * (i * i) := by grind
        rw [this, hvr, hi]; grind
      have m1 : u * t = -u ↔ t = -1 := by
        constructor
        · intro h; exact fp_cancel hp hu0 (by grind)
        · intro h; rw [h]; grind
      have p1 : u * t = u ↔ t = 1 := by
        constructor
        · intro h; exact fp_cancel hp hu0 (by grind)
        · intro h; rw [h]; grind
      have xq : x * x = q ↔ t = 1 := by
        rw [hx2]
        constructor
        · intro h; exact fp_cancel hp hq0 (by grind)
        · intro h; rw [h]; grind
      have hne := two_ne hp he
      by_cases h1 : t = 1
      · have hh : q ^ (4 * e + 2) = 1 := by rw [hs, h1]; grind
        rw [if_pos hh, if_pos (xq.2 h1)]
        have : ¬ v * (x * x) = -u := by rw [hvr, m1, h1]; exact hne
        simp only [if_neg this]
        have : v * (x * x) = u := by rw [hvr]; exact p1.2 h1
        rw [if_pos this]
      · by_cases h2 : t = -1
        · have hh : q ^ (4 * e + 2) = 1 := by rw [hs, h2]; grind
          rw [if_pos hh, if_neg (fun h => h1 (xq.1 h))]
          have : v * (x * x) = -u := by rw [hvr]; exact m1.2 h2
          simp only [if_pos this]
          have : v * ((x * i) * (x * i)) = u := by rw [hvr2, h2]; grind
          rw [if_pos this]
        · have hh : ¬ q ^ (4 * e + 2) = 1 := by
            rw [hs]
            intro h
            have : (t - 1) * (t + 1) = 0 := by grind
            rcases fp_nz hp this with h3 | h3
            · exact h1 (by grind)
            · exact h2 (by grind)
          rw [if_neg hh]
          have : ¬ v * (x * x) = -u := by rw [hvr]; exact fun h => h2 (m1.1 h)
          simp only [if_neg this]
          have : ¬ v * (x * x) = u := by rw [hvr]; exact fun h => h1 (p1.1 h)
          rw [if_neg this]
/-- What is said there is a root. -/
theorem rootC_spec {u v : Fin p} (h : (rootC e i u v).2 = true) : v * ((rootC e i u v).1 * (rootC e i u v).1) = u ∧ ∃ r, (rootC e i u v).1 = evenOf r := by
  unfold rootC at h ⊢
  dsimp only at h ⊢
  generalize (if v * (u * (v * v * v) * (u * (v * v * v * (v * v * v) * v)) ^ e * (u * (v * v * v) * (u * (v * v * v * (v * v * v) * v)) ^ e)) = -u then u * (v * v * v) * (u * (v * v * v * (v * v * v) * v)) ^ e * i else u * (v * v * v) * (u * (v * v * v * (v * v * v) * v)) ^ e) = r at h ⊢
  by_cases h1 : v * (r * r) = u
  · rw [if_pos h1]
    exact ⟨by show v * (evenOf r * evenOf r) = u; rw [evenOf_sq]; exact h1, r, rfl⟩
  · rw [if_neg h1] at h
    cases h
/-- Who has a root. -/
theorem rootR_has {u v : Fin p} (hv : v ≠ 0) : (rootR e i u v).2 = true ↔ (u * v ^ (p - 2) = 0 ∨ (u * v ^ (p - 2)) ^ (4 * e + 2) = 1) := by
  unfold rootR
  rw [if_neg hv]
  dsimp only
  by_cases h1 : u * v ^ (p - 2) = 0
  · rw [if_pos h1]; simp [h1]
  · rw [if_neg h1]
    by_cases h2 : (u * v ^ (p - 2)) ^ (4 * e + 2) = 1
    · rw [if_pos h2]; simp [h2]
    · rw [if_neg h2]; exact ⟨fun h => (by cases h), fun h => h.elim (fun h => absurd h h1) (fun h => absurd h h2)⟩
theorem rootC_square {a v : Fin p} (hp : IsPrime p) (he : p = 8 * e + 5) (hi : i * i = -1) : (rootC e i (a * a * v) v).2 = true := by
  rw [rootC_eq hp he hi]
  by_cases hv : v = 0
  · subst hv
    unfold rootR
    rw [if_pos rfl]
    simp only [decide_eq_true_eq]
    grind
  · rw [rootR_has hv]
    have hw := fp_inv hp hv
    have h1 : a * a * v * v ^ (p - 2) = a * a := by
      generalize v ^ (p - 2) = w at hw
      grind
    rw [h1]
    by_cases ha : a = 0
    · left; rw [ha]; grind
    · right
      rw [fq_mul_pow]
      have h2 := half_sq hp he ha
      rcases h2 with h2 | h2 <;> rw [h2] <;> grind
end
def PP : Nat := 57896044618658097711785492504343953926634992332820282019728792003956564819949
theorem PP_eq : PP = 57896044618658097711785492504343953926634992332820282019728792003956564819949 := rfl
instance : NeZero PP := ⟨by rw [PP_eq]; decide⟩
theorem PP_prime : IsPrime PP := prP
/-- (p - 5) / 8 -/
def EE : Nat := 7237005577332262213973186563042994240829374041602535252466099000494570602493
theorem PP_EE : PP = 8 * EE + 5 := by decide +kernel
/-- A root of -1. -/
def II : Fin PP := Fin.ofNat PP 19681161376707505956807079304988542015446066515923890162744021073123829784752
theorem II_sq : II * II = -1 := by decide +kernel
theorem II_eq : (2 : Fin PP) ^ (2 * EE + 1) = II := by
  apply Fin.ext
  rw [fp_pow_val, ← powm_eq PP 300 _ _ (by decide +kernel)]
  decide +kernel
end Go.Proofs.YtcijaoihcckofaaDoor
namespace Go.Proofs.YtcijaoihcckofaaDoor
set_option linter.unusedVariables false
set_option linter.unusedSimpArgs false
open Go.RowKit
theorem bcell {W v : World} (hb : Below W.heap.size W v) : (∀ b o, b < W.heap.size → v.cell? ⟨b, o, none⟩ = W.cell? ⟨b, o, none⟩) ∧ (∀ b o, b < W.heap.size → v.frozen? ⟨b, o, none⟩ = W.frozen? ⟨b, o, none⟩) :=
  ⟨fun b o h => hb.cell (p := ⟨b, o, none⟩) h, fun b o h => hb.frozen (p := ⟨b, o, none⟩) h⟩
/-- The program's variable p holds the prime's words. -/
structure PG (w : World) : Prop where
  lt : 0 < w.heap.size
  c0 : w.cell? ⟨0, 0, none⟩ = some (.int .u64 18446744073709551597)
  c1 : w.cell? ⟨0, 1, none⟩ = some (.int .u64 18446744073709551615)
  c2 : w.cell? ⟨0, 2, none⟩ = some (.int .u64 18446744073709551615)
  c3 : w.cell? ⟨0, 3, none⟩ = some (.int .u64 9223372036854775807)
theorem PG.below {w w' : World} {B : Nat} (h : PG w) (hb : Below B w w') (hB : 0 < B) (hs : w.heap.size ≤ w'.heap.size) : PG w' :=
  ⟨Nat.lt_of_lt_of_le h.lt hs, (hb.cell (p := ⟨0, 0, none⟩) hB).trans h.c0, (hb.cell (p := ⟨0, 1, none⟩) hB).trans h.c1, (hb.cell (p := ⟨0, 2, none⟩) hB).trans h.c2, (hb.cell (p := ⟨0, 3, none⟩) hB).trans h.c3⟩
theorem PG.ext {w w' : World} (h : PG w) (hb : Below w.heap.size w w') : PG w' := h.below hb h.lt hb.size
theorem PG.drew {w : World} (h : PG w) : PG w.drew := ⟨h.1, h.2, h.3, h.4, h.5⟩
theorem PG.alloc {w : World} (h : PG w) (o : Obj) : PG (w.alloc o) := h.ext ((Below.refl _ _).alloc (Nat.le_refl _) _)
theorem or_top (o t : Nat) (ho : o < 9223372036854775808) (ht : t ≤ 1) : bits .or .u64 ((o : Int) * 2) (t : Int) = ((2 * o + t : Nat) : Int) := by
  have e : (o : Int) * 2 = ((2 * o : Nat) : Int) := by omega
  rw [e, u64_or_nat _ _ (by omega) (by omega)]
  have := Nat.two_pow_add_eq_or_of_lt (i := 1) (b := t) (by omega) o
  rw [show (2 : Nat) ^ 1 = 2 by decide] at this
  rw [this]
theorem andNot_top (t : Nat) (ht : t < 18446744073709551616) : bits .andNot .u64 (t : Int) 9223372036854775808 = ((t % 9223372036854775808 : Nat) : Int) := by
  have e : (9223372036854775808 : Int) = ((9223372036854775808 : Nat) : Int) := rfl
  rw [e, u64_andNot_nat _ _ ht (by omega)]
  rw [show (18446744073709551615 - 9223372036854775808 : Nat) = 2 ^ 63 - 1 by decide, Nat.and_two_pow_sub_one_eq_mod, show (2 : Nat) ^ 63 = 9223372036854775808 by decide]
/-- What settle adds up. -/
def folded (n : Nat) : Nat := n % 57896044618658097711785492504343953926634992332820282019728792003956564819968 + 19 * (n / 57896044618658097711785492504343953926634992332820282019728792003956564819968)
theorem folded_mod (n : Nat) : folded n % PP = n % PP := by
  rw [PP_eq]
  unfold folded
  omega
theorem folded_lt {n : Nat} (h : n < 4515891480255331621519268415338828406277529401959981997538845776308612055957504) : folded n < 57896044618658097711785492504343953926634992332820282019728792003956564819968 + 1500 := by
  unfold folded
  omega
theorem settle_low {a b c d : Nat} (o : Nat) (ha : a < 18446744073709551616) (hb : b < 18446744073709551616) (hc : c < 18446744073709551616) (hd : d < 18446744073709551616) :
    num4 a b c (d % 9223372036854775808) + num4 ((2 * o + d / 9223372036854775808) * 19) 0 0 0 = folded (num5 a b c d o) := by
  unfold num4 num5 folded
  omega
theorem minus_p (n : Nat) (h : n < 57896044618658097711785492504343953926634992332820282019728792003956564819968 + 1500) :
    (n < PP → wd4 (n + 115792089237316195423570985008687907853269984665640564039457584007913129639936 - num4 18446744073709551597 18446744073709551615 18446744073709551615 9223372036854775807) = 0) ∧
    (¬ n < PP → wd4 (n + 115792089237316195423570985008687907853269984665640564039457584007913129639936 - num4 18446744073709551597 18446744073709551615 18446744073709551615 9223372036854775807) = 1) ∧
    (¬ n < PP → es (n + 115792089237316195423570985008687907853269984665640564039457584007913129639936 - num4 18446744073709551597 18446744073709551615 18446744073709551615 9223372036854775807) = es (n - PP)) := by
  rw [PP_eq]
  refine ⟨fun h1 => ?_, fun h1 => ?_, fun h1 => ?_⟩
  · unfold wd4 num4; omega
  · unfold wd4 num4; omega
  · unfold es
    have : wd0 (n + 115792089237316195423570985008687907853269984665640564039457584007913129639936 - num4 18446744073709551597 18446744073709551615 18446744073709551615 9223372036854775807) = wd0 (n - 57896044618658097711785492504343953926634992332820282019728792003956564819949) ∧
      wd1 (n + 115792089237316195423570985008687907853269984665640564039457584007913129639936 - num4 18446744073709551597 18446744073709551615 18446744073709551615 9223372036854775807) = wd1 (n - 57896044618658097711785492504343953926634992332820282019728792003956564819949) ∧
      wd2 (n + 115792089237316195423570985008687907853269984665640564039457584007913129639936 - num4 18446744073709551597 18446744073709551615 18446744073709551615 9223372036854775807) = wd2 (n - 57896044618658097711785492504343953926634992332820282019728792003956564819949) ∧
      wd3 (n + 115792089237316195423570985008687907853269984665640564039457584007913129639936 - num4 18446744073709551597 18446744073709551615 18446744073709551615 9223372036854775807) = wd3 (n - 57896044618658097711785492504343953926634992332820282019728792003956564819949) := by
      unfold wd0 wd1 wd2 wd3 num4
      omega
    rw [this.1, this.2.1, this.2.2.1, this.2.2.2]
theorem mod_small {n : Nat} (h : n < 57896044618658097711785492504343953926634992332820282019728792003956564819968 + 1500) : n % PP = if n < PP then n else n - PP := by
  rw [PP_eq]
  split <;> omega
theorem below_set4 {B g : Nat} {w w' : World} (h : Below B w w') (hg : B ≤ g) (a b c d : Value) : Below B w ((((w'.setCell ⟨g, 0, none⟩ a).setCell ⟨g, 1, none⟩ b).setCell ⟨g, 2, none⟩ c).setCell ⟨g, 3, none⟩ d) :=
  (((h.setCell hg _).setCell hg _).setCell hg _).setCell hg _
theorem below_then {w v v' : World} {B : Nat} (h : Below B w v) (h' : Below v.heap.size v v') (hB : B ≤ v.heap.size) : Below B w v' := h.trans (h'.mono hB)
theorem blk_set4 {w : World} {g : Nat} {t : TypeId} {x0 x1 x2 x3 : Value} (h : Blk w g t #[x0, x1, x2, x3]) (a b c d : Value) : Blk ((((w.setCell ⟨g, 0, none⟩ a).setCell ⟨g, 1, none⟩ b).setCell ⟨g, 2, none⟩ c).setCell ⟨g, 3, none⟩ d) g t #[a, b, c, d] :=
  (((h.set_ 0 a).set_ 1 b).set_ 2 c).set_ 3 d
theorem info_elem : (Tryd.prog.info? 27).map (·.size) = some 4 := by kernel_rfl
theorem info_w4 : (Tryd.prog.info? 25).map (·.size) = some 4 := by kernel_rfl
/-- A result of four cells, read out of its variable. -/
theorem ret_elem {fn : Func} {p : Tmp} (hr : fn.results = #[.cell p 27]) {tmps : Array Value} {w : World} {g : Nat} {n : Nat} (hp : tmps.getD p undef = .pointer (some ⟨g, 0, none⟩)) (hb : Blk w g 27 (es n)) :
    (results fn tmps).run Tryd.prog w = .ok (.agg (es n)) w :=
  results_cell_row hr tmps w g 27 (es n) (0, 0) _ hp hb Tryd.underlying27 rfl info_elem
def ElemPost (n : Nat) (w : World) (e : Ending) (w' : World) : Prop := e = .returned (.agg (es n)) ∧ Below w.heap.size w w'
set_option maxHeartbeats 1000000 in
theorem settle_any (a b c d o : Nat) (w : World) (hpg : PG w) (ha : a < 18446744073709551616) (hb : b < 18446744073709551616) (hc : c < 18446744073709551616) (hd : d < 18446744073709551616) (ho : o < 39) :
    Calls Tryd.prog 68 #[.int .u64 (a : Int), .int .u64 (b : Int), .int .u64 (c : Int), .int .u64 (d : Int), .int .u64 (o : Int)] w (ElemPost (num5 a b c d o % PP) w) := by
  have hlt : num5 a b c d o < 4515891480255331621519268415338828406277529401959981997538845776308612055957504 := by unfold num5; omega
  have hf := folded_lt hlt
  have hsum := settle_low o ha hb hc hd
  have hmod : num5 a b c d o % PP = if folded (num5 a b c d o) < PP then folded (num5 a b c d o) else folded (num5 a b c d o) - PP := by
    rw [← folded_mod, mod_small hf]
  obtain ⟨m1, m2, m3⟩ := minus_p _ hf
  have hnl : folded (num5 a b c d o) < 115792089237316195423570985008687907853269984665640564039457584007913129639936 := by omega
  have hn4 := num4_of hnl
  have hw4 := wd4_zero hnl
  generalize folded (num5 a b c d o) = n at *
  generalize num5 a b c d o % PP = r at *
  obtain ⟨hz, p0, p1, p2, p3⟩ := hpg
  have ot := or_top o (d / 9223372036854775808) (by omega) (by omega)
  have at_ := andNot_top d hd
  have cast : ((d / 9223372036854775808 : Nat) : Int) = (d : Int) / 9223372036854775808 := by omega
  rw [cast] at ot
  have Hs := Lib.hid hsum
  have Hm := Lib.hid hmod
  have H1 := Lib.hid m1
  have H2 := Lib.hid m2
  have H3 := Lib.hid m3
  have Hn4 := Lib.hid hn4
  have Hw4 := Lib.hid hw4
  clear hsum hmod m1 m2 m3 hn4 hw4 cast hlt
  go_enter Tryd.func68, Tryd.ntmps68
  go_wp2_with (fail)
  refine (plus_any a b c (d % 9223372036854775808) ((2 * o + d / 9223372036854775808) * 19) 0 0 0 _ ha hb hc (by omega) (by omega) (by omega) (by omega) (by omega)).mono ?_
  rintro e v1 ⟨he, hb1⟩
  rw [Hs.out] at he
  unfold ret5 at he
  subst he
  obtain ⟨q1, q2⟩ := bcell hb1
  have e1 : ¬ (0 = w.heap.size) := by omega
  have e2 : ¬ (w.heap.size = 0) := by omega
  have e3 : ¬ (w.heap.size = 0) := by omega
  have e5 : 0 < w.heap.size + 1 + 1 := by omega
  have e6 : 0 < w.heap.size + 1 := by omega
  have hz1 : w.heap.size + 1 < v1.heap.size := by have := hb1.size; simp at this; omega
  have hz0 : w.heap.size < v1.heap.size := by omega
  have HB1 := Lib.hid hb1
  clear hb1
  go_wp2_with (fail)
  refine (minus_any (wd0 n) (wd1 n) (wd2 n) (wd3 n) 18446744073709551597 18446744073709551615 18446744073709551615 9223372036854775807 _ (wd0_lt n) (wd1_lt n) (wd2_lt n) (wd3_lt n) (by omega) (by omega) (by omega) (by omega)).mono ?_
  rintro e v2 ⟨he, hb2⟩
  rw [Hn4.out] at he
  unfold retm at he
  subst he
  obtain ⟨q3, q4⟩ := bcell hb2
  have hz2 : v1.heap.size ≤ v2.heap.size := by have := hb2.size; simp at this; omega
  have hz3 : w.heap.size + 1 < v2.heap.size := by omega
  have hz4 : w.heap.size < v2.heap.size := by omega
  have HB2 := Lib.hid hb2
  clear hb2
  have hB2 : Below w.heap.size w v2 := by
    have e1 : Below w.heap.size w v1 := below_then (((Below.refl _ _).alloc (Nat.le_refl _) _).alloc (by simp) _) HB1.out (by simp; omega)
    exact below_then (below_set4 e1 (by omega) _ _ _ _) HB2.out (by simp; omega)
  have hK : Blk v2 w.heap.size 27 #[.int .u64 0, .int .u64 0, .int .u64 0, .int .u64 0] := by
    refine Blk.below ?_ HB2.out (by simp; omega)
    exact (((((((Blk.new w 27 _).alloc _).below HB1.out (by simp; omega)).far (by simp) _).far (by simp) _).far (by simp) _).far (by simp) _)
  have HB := Lib.hid hB2
  have HK := Lib.hid hK
  clear hB2 hK
  by_cases hnp : n < PP
  · have hbor : ((bor (n + 115792089237316195423570985008687907853269984665640564039457584007913129639936 - num4 18446744073709551597 18446744073709551615 18446744073709551615 9223372036854775807) : Int) == 1) = true := by
      unfold bor
      rw [H1.out hnp]
      rfl
    have hr := Hm.out
    rw [if_pos hnp] at hr
    have HR := Lib.hid hr
    clear hr
    generalize n + 115792089237316195423570985008687907853269984665640564039457584007913129639936 - num4 18446744073709551597 18446744073709551615 18446744073709551615 9223372036854775807 = m at *
    go_wp2_with (fail)
    refine bodyPost_ret (ret_elem (n := n) rfl rfl (blk_set4 HK.out _ _ _ _)) rfl ⟨?_, below_set4 HB.out (Nat.le_refl _) _ _ _ _⟩
    rw [HR.out]
  · have hbor : ((bor (n + 115792089237316195423570985008687907853269984665640564039457584007913129639936 - num4 18446744073709551597 18446744073709551615 18446744073709551615 9223372036854775807) : Int) == 1) = false := by
      unfold bor
      rw [H2.out hnp]
      rfl
    have hr := Hm.out
    rw [if_neg hnp] at hr
    have he := H3.out hnp
    have HR := Lib.hid hr
    have HE := Lib.hid he
    clear hr he
    generalize n + 115792089237316195423570985008687907853269984665640564039457584007913129639936 - num4 18446744073709551597 18446744073709551615 18446744073709551615 9223372036854775807 = m at *
    go_wp2_with (fail)
    refine bodyPost_ret (ret_elem (n := m) rfl rfl (blk_set4 HK.out _ _ _ _)) rfl ⟨?_, below_set4 HB.out (Nat.le_refl _) _ _ _ _⟩
    rw [HR.out, ← HE.out]
end Go.Proofs.YtcijaoihcckofaaDoor
namespace Go.Proofs.YtcijaoihcckofaaDoor
set_option linter.unusedVariables false
set_option linter.unusedSimpArgs false
open Go.RowKit
theorem PP_lt256 {x : Nat} (h : x < PP) : x < 115792089237316195423570985008687907853269984665640564039457584007913129639936 := by rw [PP_eq] at h; omega
theorem es_one (n : Nat) : (es n).all (·.oneCell') = true := by simp [es, Value.oneCell']
/-- The end of a function whose result is an element: what was stored is read. -/
theorem elem_end {fn : Func} {p : Tmp} (hr : fn.results = #[.cell p 27]) {a : Act} (hd : a.defers = []) {W w : World} {g n : Nat} (hp : a.tmps.getD p undef = .pointer (some ⟨g, 0, none⟩)) (hb : Blk w g 27 (es n)) (hB : Below W.heap.size W w) :
    bodyPost Tryd.prog fn (ElemPost n W) .ret a w :=
  bodyPost_ret (ret_elem (n := n) hr hp hb) hd ⟨rfl, hB⟩
theorem add_small {x y : Nat} (hx : x < PP) (hy : y < PP) : wd4 (x + y) < 39 := by
  rw [PP_eq] at hx hy
  unfold wd4
  omega
set_option maxHeartbeats 1000000 in
theorem add_any (x y : Nat) (w : World) (hpg : PG w) (hx : x < PP) (hy : y < PP) :
    Calls Tryd.prog 35 #[.agg (es x), .agg (es y)] w (ElemPost ((x + y) % PP) w) := by
  have ex := num4_of (PP_lt256 hx)
  have ey := num4_of (PP_lt256 hy)
  have es' := add_small hx hy
  have en := num5_of (x + y)
  have EX := Lib.hid ex
  have EY := Lib.hid ey
  have EN := Lib.hid en
  clear ex ey en
  unfold es
  go_enter Tryd.func35, Tryd.ntmps35
  go_wp2_with (fail)
  refine (plus_any (wd0 x) (wd1 x) (wd2 x) (wd3 x) (wd0 y) (wd1 y) (wd2 y) (wd3 y) _ (wd0_lt x) (wd1_lt x) (wd2_lt x) (wd3_lt x) (wd0_lt y) (wd1_lt y) (wd2_lt y) (wd3_lt y)).mono ?_
  rintro e v1 ⟨he, hb1⟩
  rw [EX.out, EY.out] at he
  unfold ret5 at he
  subst he
  have hp1 : PG v1 := ((((hpg.alloc _).alloc _).alloc _).ext hb1)
  have k1 : Blk v1 (w.heap.size + 1 + 1) 27 #[.int .u64 0, .int .u64 0, .int .u64 0, .int .u64 0] := (Blk.new' _ _ _ _ (by simp)).below hb1 (by simp)
  have b1 : Below w.heap.size w v1 := below_then ((((Below.refl _ _).alloc (Nat.le_refl _) _).alloc (by simp) _).alloc (by simp; omega) _) hb1 (by simp; omega)
  have HP1 := Lib.hid hp1
  have HK1 := Lib.hid k1
  have HB1 := Lib.hid b1
  clear hb1 hp1 k1 b1 hpg
  go_wp2_with (fail)
  refine (settle_any (wd0 (x + y)) (wd1 (x + y)) (wd2 (x + y)) (wd3 (x + y)) (wd4 (x + y)) _ HP1.out (wd0_lt _) (wd1_lt _) (wd2_lt _) (wd3_lt _) es').mono ?_
  rintro e v2 ⟨he, hb2⟩
  rw [EN.out] at he
  subst he
  have k2 := HK1.out.below hb2 HK1.out.lt
  have b2 := below_then HB1.out hb2 HB1.out.size
  have HK2 := Lib.hid k2
  have HB2 := Lib.hid b2
  clear hb2 k2 b2
  go_wp2_with (first | (refine wpList_store_row rfl 27 (.tmp 4) (.tmp 15) rfl (w.heap.size + 1 + 1) (es ((x + y) % PP)) rfl rfl 27 _ HK2.out info_elem rfl (es_one _) ?_))
  exact elem_end (g := w.heap.size + 1 + 1) rfl rfl rfl (setRow_heap _ _ _ _ _ _ HK2.out) (below_setRow HB2.out (by omega) _)
theorem es_zero : es 0 = #[.int .u64 0, .int .u64 0, .int .u64 0, .int .u64 0] := rfl
/-- What minus reckons of p and y. -/
def mP (y : Nat) : Nat := num4 18446744073709551597 18446744073709551615 18446744073709551615 9223372036854775807 + 115792089237316195423570985008687907853269984665640564039457584007913129639936 - y
theorem sub_words {y : Nat} (hy : y < PP) : num4 (wd0 (mP y)) (wd1 (mP y)) (wd2 (mP y)) (wd3 (mP y)) = PP - y := by
  rw [PP_eq] at *
  unfold mP num4 wd0 wd1 wd2 wd3
  omega
theorem sub_small {x y : Nat} (hx : x < PP) : wd4 (x + (PP - y)) < 39 := by
  rw [PP_eq] at *
  unfold wd4
  omega
set_option maxHeartbeats 1000000 in
theorem sub_any (x y : Nat) (w : World) (hpg : PG w) (hx : x < PP) (hy : y < PP) :
    Calls Tryd.prog 37 #[.agg (es x), .agg (es y)] w (ElemPost ((x + (PP - y)) % PP) w) := by
  have ex := num4_of (PP_lt256 hx)
  have ey := num4_of (PP_lt256 hy)
  have es' := sub_small (y := y) hx
  have en := num5_of (x + (PP - y))
  have esw := sub_words hy
  have EX := Lib.hid ex
  have EY := Lib.hid ey
  have EN := Lib.hid en
  have ES := Lib.hid esw
  clear ex ey en esw
  have HPG := Lib.hid hpg
  obtain ⟨hz, p0, p1, p2, p3⟩ := hpg
  have e1 : ¬ (0 = w.heap.size) := by omega
  have e2 : ¬ (w.heap.size = 0) := by omega
  have e3 : ¬ (w.heap.size = 0) := by omega
  have e4 : ¬ (0 = w.heap.size + 1) := by omega
  have e5 : 0 < w.heap.size + 1 + 1 := by omega
  have e6 : 0 < w.heap.size + 1 := by omega
  have e7 : 0 < w.heap.size + 1 + 1 + 1 := by omega
  unfold es
  go_enter Tryd.func37, Tryd.ntmps37
  go_wp2_with (fail)
  refine (minus_any 18446744073709551597 18446744073709551615 18446744073709551615 9223372036854775807 (wd0 y) (wd1 y) (wd2 y) (wd3 y) _ (by omega) (by omega) (by omega) (by omega) (wd0_lt y) (wd1_lt y) (wd2_lt y) (wd3_lt y)).mono ?_
  rintro e v1 ⟨he, hb1⟩
  rw [EY.out] at he
  have he' : e = .returned (retm (mP y)) := he
  clear he
  generalize mP y = m at he' ES
  unfold retm at he'
  subst he'
  have hp1 : PG v1 := ((((HPG.out.alloc _).alloc _).alloc _).ext hb1)
  have k1 : Blk v1 (w.heap.size + 1 + 1) 27 #[.int .u64 0, .int .u64 0, .int .u64 0, .int .u64 0] := (Blk.new' _ _ _ _ (by simp)).below hb1 (by simp)
  have b1 : Below w.heap.size w v1 := below_then ((((Below.refl _ _).alloc (Nat.le_refl _) _).alloc (by simp) _).alloc (by simp; omega) _) hb1 (by simp; omega)
  have x1 : Blk v1 w.heap.size 27 #[.int .u64 (wd0 x : Int), .int .u64 (wd1 x : Int), .int .u64 (wd2 x : Int), .int .u64 (wd3 x : Int)] := (((Blk.new w 27 _).alloc _).alloc _).below hb1 (by simp; omega)
  have c0 := x1.cell 0
  have c1 := x1.cell 1
  have c2 := x1.cell 2
  have c3 := x1.cell 3
  simp at c0 c1 c2 c3
  have HP1 := Lib.hid hp1
  have HK1 := Lib.hid k1
  have HB1 := Lib.hid b1
  clear hb1 hp1 k1 b1 x1
  go_wp2_with (fail)
  refine (plus_any (wd0 x) (wd1 x) (wd2 x) (wd3 x) (wd0 m) (wd1 m) (wd2 m) (wd3 m) _ (wd0_lt x) (wd1_lt x) (wd2_lt x) (wd3_lt x) (wd0_lt m) (wd1_lt m) (wd2_lt m) (wd3_lt m)).mono ?_
  rintro e v2 ⟨he, hb2⟩
  rw [EX.out, ES.out] at he
  unfold ret5 at he
  subst he
  have hp2 := HP1.out.ext hb2
  have k2 := HK1.out.below hb2 HK1.out.lt
  have b2 := below_then HB1.out hb2 HB1.out.size
  have HP2 := Lib.hid hp2
  have HK2 := Lib.hid k2
  have HB2 := Lib.hid b2
  clear hb2 hp2 k2 b2 c0 c1 c2 c3
  go_wp2_with (fail)
  refine (settle_any (wd0 (x + (PP - y))) (wd1 (x + (PP - y))) (wd2 (x + (PP - y))) (wd3 (x + (PP - y))) (wd4 (x + (PP - y))) _ HP2.out (wd0_lt _) (wd1_lt _) (wd2_lt _) (wd3_lt _) es').mono ?_
  rintro e v3 ⟨he, hb3⟩
  rw [EN.out] at he
  subst he
  have k3 := HK2.out.below hb3 HK2.out.lt
  have b3 := below_then HB2.out hb3 HB2.out.size
  have HK3 := Lib.hid k3
  have HB3 := Lib.hid b3
  clear hb3 k3 b3
  go_wp2_with (first | (refine wpList_store_row rfl 27 (.tmp 4) (.tmp 33) rfl (w.heap.size + 1 + 1) (es ((x + (PP - y)) % PP)) rfl rfl 27 _ HK3.out info_elem rfl (es_one _) ?_))
  exact elem_end (g := w.heap.size + 1 + 1) rfl rfl rfl (setRow_heap _ _ _ _ _ _ HK3.out) (below_setRow HB3.out (by omega) _)
theorem row_lt {x n k : Nat} (hx : x < 115792089237316195423570985008687907853269984665640564039457584007913129639936) (hn : n < 18446744073709551616) (hk : k < 115792089237316195423570985008687907853269984665640564039457584007913129639936) :
    x * n + k < 2135987035920910082395021706169552114602704522356652769947041607822219725780640550022962086936576 := by
  have := Nat.mul_le_mul (show x ≤ 115792089237316195423570985008687907853269984665640564039457584007913129639935 by omega) (show n ≤ 18446744073709551615 by omega)
  omega
def R1 (x y : Nat) : Nat := x * wd0 y
def R2 (x y : Nat) : Nat := x * wd1 y + R1 x y / 18446744073709551616
def R3 (x y : Nat) : Nat := x * wd2 y + R2 x y / 18446744073709551616
def R4 (x y : Nat) : Nat := x * wd3 y + R3 x y / 18446744073709551616
def R5 (x y : Nat) : Nat := R4 x y / 18446744073709551616 * 38 + num4 (wd0 (R1 x y)) (wd0 (R2 x y)) (wd0 (R3 x y)) (wd0 (R4 x y))
theorem R_lt {x y : Nat} (hx : x < 115792089237316195423570985008687907853269984665640564039457584007913129639936) :
    R1 x y < 2135987035920910082395021706169552114602704522356652769947041607822219725780640550022962086936576 ∧ R2 x y < 2135987035920910082395021706169552114602704522356652769947041607822219725780640550022962086936576 ∧
    R3 x y < 2135987035920910082395021706169552114602704522356652769947041607822219725780640550022962086936576 ∧ R4 x y < 2135987035920910082395021706169552114602704522356652769947041607822219725780640550022962086936576 := by
  have h1 : R1 x y < 2135987035920910082395021706169552114602704522356652769947041607822219725780640550022962086936576 := row_lt (k := 0) hx (wd0_lt y) (by omega)
  have h2 : R2 x y < 2135987035920910082395021706169552114602704522356652769947041607822219725780640550022962086936576 := row_lt hx (wd1_lt y) (by omega)
  have h3 : R3 x y < 2135987035920910082395021706169552114602704522356652769947041607822219725780640550022962086936576 := row_lt hx (wd2_lt y) (by omega)
  exact ⟨h1, h2, h3, row_lt hx (wd3_lt y) (by omega)⟩
theorem R5_mod {x y : Nat} (hx : x < PP) (hy : y < PP) : R5 x y % PP = x * y % PP ∧ wd4 (R5 x y) < 39 := by
  have hx' := PP_lt256 hx
  have hy' := PP_lt256 hy
  have hxy : x * y = num4 (x * wd0 y) (x * wd1 y) (x * wd2 y) (x * wd3 y) := by
    have := num4_of hy'
    rw (occs := .pos [1]) [← this]
    unfold num4
    grind
  obtain ⟨_, _, _, h4⟩ := R_lt (y := y) hx'
  constructor
  · have : x * y = num4 (wd0 (R1 x y)) (wd0 (R2 x y)) (wd0 (R3 x y)) (wd0 (R4 x y)) + 115792089237316195423570985008687907853269984665640564039457584007913129639936 * (R4 x y / 18446744073709551616) := by
      rw [hxy]
      unfold R4 R3 R2 R1
      generalize x * wd0 y = m0
      generalize x * wd1 y = m1
      generalize x * wd2 y = m2
      generalize x * wd3 y = m3
      unfold num4 wd0
      omega
    rw [this]
    unfold R5
    rw [PP_eq]
    generalize R4 x y / 18446744073709551616 = H
    generalize num4 (wd0 (R1 x y)) (wd0 (R2 x y)) (wd0 (R3 x y)) (wd0 (R4 x y)) = L
    omega
  · have hL := num4_lt (wd0_lt (R1 x y)) (wd0_lt (R2 x y)) (wd0_lt (R3 x y)) (wd0_lt (R4 x y))
    unfold R5
    generalize num4 (wd0 (R1 x y)) (wd0 (R2 x y)) (wd0 (R3 x y)) (wd0 (R4 x y)) = L at *
    generalize R4 x y = r at *
    unfold wd4
    omega
end Go.Proofs.YtcijaoihcckofaaDoor
namespace Go.Proofs.YtcijaoihcckofaaDoor
set_option linter.unusedVariables false
set_option linter.unusedSimpArgs false
open Go.RowKit
theorem row_es (g x n b : Nat) (w : World) (hx : x < 115792089237316195423570985008687907853269984665640564039457584007913129639936) (hb : b < 115792089237316195423570985008687907853269984665640564039457584007913129639936) (hn : n < 18446744073709551616) {t : TypeId} (hB : Blk w g t (es x)) :
    Calls Tryd.prog 70 #[.pointer (some ⟨g, 0, none⟩), .int .u64 (n : Int), .int .u64 (wd0 b : Int), .int .u64 (wd1 b : Int), .int .u64 (wd2 b : Int), .int .u64 (wd3 b : Int)] w
      fun e w' => e = .returned (ret5 (x * n + b)) ∧ w = w' := by
  have h := row_any g (wd0 x) (wd1 x) (wd2 x) (wd3 x) n (wd0 b) (wd1 b) (wd2 b) (wd3 b) w (wd0_lt x) (wd1_lt x) (wd2_lt x) (wd3_lt x) (wd0_lt b) (wd1_lt b) (wd2_lt b) (wd3_lt b) hn (hB.cell 0) (hB.cell 1) (hB.cell 2) (hB.cell 3)
  rw [num4_of hx, num4_of hb] at h
  exact h
/-- What is beyond a word of a row's answer, as the next row takes it. -/
theorem next_words {r : Nat} (h : r < 2135987035920910082395021706169552114602704522356652769947041607822219725780640550022962086936576) :
    wd1 r = wd0 (r / 18446744073709551616) ∧ wd2 r = wd1 (r / 18446744073709551616) ∧ wd3 r = wd2 (r / 18446744073709551616) ∧ wd4 r = wd3 (r / 18446744073709551616) := by
  unfold wd0 wd1 wd2 wd3 wd4
  omega
/-- What row answered, its words told as the next row takes them. -/
def retN (r : Nat) : Value := .tuple #[.int .u64 (wd0 r : Int), .int .u64 (wd0 (r / 18446744073709551616) : Int), .int .u64 (wd1 (r / 18446744073709551616) : Int), .int .u64 (wd2 (r / 18446744073709551616) : Int), .int .u64 (wd3 (r / 18446744073709551616) : Int)]
theorem ret5_next {r : Nat} (h : r < 2135987035920910082395021706169552114602704522356652769947041607822219725780640550022962086936576) : ret5 r = retN r := by
  obtain ⟨h1, h2, h3, h4⟩ := next_words h
  unfold ret5 retN
  rw [h1, h2, h3, h4]
theorem div_small {r : Nat} (h : r < 2135987035920910082395021706169552114602704522356652769947041607822219725780640550022962086936576) : r / 18446744073709551616 < 115792089237316195423570985008687907853269984665640564039457584007913129639936 := by omega
theorem words_of4 {a b c d : Nat} (ha : a < 18446744073709551616) (hb : b < 18446744073709551616) (hc : c < 18446744073709551616) (hd : d < 18446744073709551616) :
    wd0 (num4 a b c d) = a ∧ wd1 (num4 a b c d) = b ∧ wd2 (num4 a b c d) = c ∧ wd3 (num4 a b c d) = d := of_num4 rfl ha hb hc hd
set_option maxHeartbeats 2000000 in
theorem mul_any (x y : Nat) (w : World) (hpg : PG w) (hx : x < PP) (hy : y < PP) :
    Calls Tryd.prog 36 #[.agg (es x), .agg (es y)] w (ElemPost (x * y % PP) w) := by
  have hx' := PP_lt256 hx
  obtain ⟨l1, l2, l3, l4⟩ := R_lt (y := y) hx'
  obtain ⟨hmod, hsm⟩ := R5_mod hx hy
  have r1 : ret5 (x * wd0 y + 0) = retN (R1 x y) := ret5_next l1
  have r2 : ret5 (x * wd1 y + R1 x y / 18446744073709551616) = retN (R2 x y) := ret5_next l2
  have r3 : ret5 (x * wd2 y + R2 x y / 18446744073709551616) = retN (R3 x y) := ret5_next l3
  have r4 : ret5 (x * wd3 y + R3 x y / 18446744073709551616) = retN (R4 x y) := ret5_next l4
  have d1 := div_small l1
  have d2 := div_small l2
  have d3 := div_small l3
  have d4 := div_small l4
  have hL := num4_lt (wd0_lt (R1 x y)) (wd0_lt (R2 x y)) (wd0_lt (R3 x y)) (wd0_lt (R4 x y))
  have hW := words_of4 (wd0_lt (R1 x y)) (wd0_lt (R2 x y)) (wd0_lt (R3 x y)) (wd0_lt (R4 x y))
  have r5 : R4 x y / 18446744073709551616 * 38 + num4 (wd0 (R1 x y)) (wd0 (R2 x y)) (wd0 (R3 x y)) (wd0 (R4 x y)) = R5 x y := rfl
  have en := num5_of (R5 x y)
  generalize R1 x y = q1 at *
  generalize R2 x y = q2 at *
  generalize R3 x y = q3 at *
  generalize R4 x y = q4 at *
  generalize R5 x y = q5 at *
  have H1 := Lib.hid r1
  have H2 := Lib.hid r2
  have H3 := Lib.hid r3
  have H4 := Lib.hid r4
  have H5 := Lib.hid r5
  have EN := Lib.hid en
  have HM := Lib.hid hmod
  have HW := Lib.hid hW
  clear r1 r2 r3 r4 r5 l1 l2 l3 l4 hmod hW en
  rw [show es x = #[.int .u64 (wd0 x : Int), .int .u64 (wd1 x : Int), .int .u64 (wd2 x : Int), .int .u64 (wd3 x : Int)] from rfl, show es y = #[.int .u64 (wd0 y : Int), .int .u64 (wd1 y : Int), .int .u64 (wd2 y : Int), .int .u64 (wd3 y : Int)] from rfl]
  go_enter Tryd.func36, Tryd.ntmps36
  go_wp2_with (fail)
  refine (row_es w.heap.size x (wd0 y) 0 _ hx' (by omega) (wd0_lt y) (t := 27) (by exact ((Blk.new w 27 _).alloc _).alloc _)).mono ?_
  rintro e w' ⟨he, rfl⟩
  rw [H1.out] at he
  unfold retN at he
  subst he
  go_wp2_with (fail)
  refine (row_es w.heap.size x (wd1 y) (q1 / 18446744073709551616) _ hx' d1 (wd1_lt y) (t := 27) (by exact ((Blk.new w 27 _).alloc _).alloc _)).mono ?_
  rintro e w' ⟨he, rfl⟩
  rw [H2.out] at he
  unfold retN at he
  subst he
  go_wp2_with (fail)
  refine (row_es w.heap.size x (wd2 y) (q2 / 18446744073709551616) _ hx' d2 (wd2_lt y) (t := 27) (by exact ((Blk.new w 27 _).alloc _).alloc _)).mono ?_
  rintro e w' ⟨he, rfl⟩
  rw [H3.out] at he
  unfold retN at he
  subst he
  go_wp2_with (fail)
  refine (row_es w.heap.size x (wd3 y) (q3 / 18446744073709551616) _ hx' d3 (wd3_lt y) (t := 27) (by exact ((Blk.new w 27 _).alloc _).alloc _)).mono ?_
  rintro e w' ⟨he, rfl⟩
  rw [H4.out] at he
  unfold retN at he
  subst he
  go_wp2_with (fail)
  have h38 := row_es (w.heap.size + 1 + 1 + 1) (q4 / 18446744073709551616) 38 (num4 (wd0 q1) (wd0 q2) (wd0 q3) (wd0 q4)) ((((w.alloc (.cells #[.int .u64 (wd0 x : Int), .int .u64 (wd1 x : Int), .int .u64 (wd2 x : Int), .int .u64 (wd3 x : Int)] 27)).alloc (.cells #[.int .u64 (wd0 y : Int), .int .u64 (wd1 y : Int), .int .u64 (wd2 y : Int), .int .u64 (wd3 y : Int)] 27)).alloc (.cells #[.int .u64 0, .int .u64 0, .int .u64 0, .int .u64 0] 27)).alloc (.cells (es (q4 / 18446744073709551616)) 25)) d4 hL (by omega) (t := 25) (Blk.new' _ _ _ _ (by simp))
  rw [HW.out.1, HW.out.2.1, HW.out.2.2.1, HW.out.2.2.2, H5.out] at h38
  refine h38.mono ?_
  rintro e w' ⟨he, rfl⟩
  clear h38
  unfold ret5 at he
  subst he
  have hp1 := ((((hpg.alloc (.cells #[.int .u64 (wd0 x : Int), .int .u64 (wd1 x : Int), .int .u64 (wd2 x : Int), .int .u64 (wd3 x : Int)] 27)).alloc (.cells #[.int .u64 (wd0 y : Int), .int .u64 (wd1 y : Int), .int .u64 (wd2 y : Int), .int .u64 (wd3 y : Int)] 27)).alloc (.cells #[.int .u64 0, .int .u64 0, .int .u64 0, .int .u64 0] 27)).alloc (.cells (es (q4 / 18446744073709551616)) 25))
  have HP1 := Lib.hid hp1
  clear hp1 hpg
  go_wp2_with (fail)
  refine (settle_any (wd0 q5) (wd1 q5) (wd2 q5) (wd3 q5) (wd4 q5) _ HP1.out (wd0_lt _) (wd1_lt _) (wd2_lt _) (wd3_lt _) hsm).mono ?_
  rintro e v2 ⟨he, hb2⟩
  rw [EN.out, HM.out] at he
  subst he
  have k2 : Blk v2 (w.heap.size + 1 + 1) 27 #[.int .u64 0, .int .u64 0, .int .u64 0, .int .u64 0] := ((Blk.new' _ _ _ _ (by simp)).alloc _).below hb2 (by simp)
  have b2 : Below w.heap.size w v2 := below_then (((((Below.refl _ _).alloc (Nat.le_refl _) _).alloc (by simp) _).alloc (by simp; omega) _).alloc (by simp; omega) _) hb2 (by simp; omega)
  have HK2 := Lib.hid k2
  have HB2 := Lib.hid b2
  clear hb2 k2 b2
  go_wp2_with (first | (refine wpList_store_row rfl 27 (.tmp 4) (.tmp 85) rfl (w.heap.size + 1 + 1) (es (x * y % PP)) rfl rfl 27 _ HK2.out info_elem rfl (es_one _) ?_))
  exact elem_end (g := w.heap.size + 1 + 1) rfl rfl rfl (setRow_heap _ _ _ _ _ _ HK2.out) (below_setRow HB2.out (by omega) _)
end Go.Proofs.YtcijaoihcckofaaDoor
namespace Go.Proofs.YtcijaoihcckofaaDoor
set_option linter.unusedVariables false
set_option linter.unusedSimpArgs false
open Go
def nc (k : IntKind) (x : Nat) : Value := .int k (x : Int)
/-- An array's cells. -/
def ncs (k : IntKind) (l : List Nat) : Array Value := (l.map (nc k)).toArray
theorem ncs_size (k : IntKind) (l : List Nat) : (ncs k l).size = l.length := by simp [ncs]
theorem ncs_get (k : IntKind) (l : List Nat) (i : Nat) : (ncs k l)[i]? = l[i]?.map (nc k) := by simp [ncs]
theorem ncs_set (k : IntKind) (l : List Nat) (i x : Nat) : (ncs k l).setIfInBounds i (.int k (x : Int)) = ncs k (l.set i x) := by
  show (ncs k l).setIfInBounds i (nc k x) = _
  simp [ncs, List.map_set]
theorem ncs_one (k : IntKind) (l : List Nat) : (ncs k l).all (·.oneCell') = true := by
  rw [Array.all_eq_true_iff_forall_mem]
  intro v hv
  simp only [ncs, List.mem_toArray, List.mem_map] at hv
  obtain ⟨x, _, rfl⟩ := hv
  rfl
theorem all_range_nats : ∀ (xs ys : List Nat), xs.length = ys.length → ((List.range xs.length).all fun i => xs.getD i 0 == ys.getD i 0) = (xs == ys)
  | [], [], _ => rfl
  | x :: xs, y :: ys, h => by
    have ih := all_range_nats xs ys (by simpa using h)
    rw [List.length_cons, List.range_succ_eq_map, List.all_cons, List.all_map]
    simp only [List.getD_cons_zero, Function.comp_def, List.getD_cons_succ, ih]
    simp [List.cons_beq_cons]
  | [], _ :: _, h => by simp at h
  | _ :: _, [], h => by simp at h
section
variable {P : Program} (w : World)
theorem run_equalIn_nats (d : Nat) (t e : TypeId) (n : Nat) (k : IntKind) (ht : P.underlying t = some (.array n e)) (he : P.underlying e = some (.int k)) (hsz : ∀ w, (sizeOf e).run P w = .ok 1 w)
    (xs ys : List Nat) (hx : xs.length = n) (hy : ys.length = n) :
    (Op.equalIn (d + 2) t (.agg (ncs k xs)) (.agg (ncs k ys))).run P w = .ok (xs == ys) w := by
  unfold ncs
  rw [← all_range_nats xs ys (hx.trans hy.symm), hx, List.range_eq_range', Op.equalIn]
  simp only [Sem.run_bind, run_underlying ht, Result.andThen_ok, hsz, Std.Legacy.Range.forIn_eq_forIn_range', Std.Legacy.Range.size, Nat.sub_zero, Nat.add_sub_cancel, Nat.div_one]
  have hl : ∀ i ∈ List.range' 0 n 1, i < n := fun i hi => by simpa using (List.mem_range'_1.1 hi).2
  generalize List.range' 0 n 1 = l at hl ⊢
  induction l with
  | nil => simp
  | cons i l ih =>
    have hi : i < n := hl i (by simp)
    have px : (part e (xs.map (nc k)).toArray (i * 1)).run P w = .ok (nc k (xs.getD i 0)) w := by
      simp [part, isAgg, run_underlying he, List.getD, List.getElem?_eq_getElem (show i < xs.length by omega)]
    have py : (part e (ys.map (nc k)).toArray (i * 1)).run P w = .ok (nc k (ys.getD i 0)) w := by
      simp [part, isAgg, run_underlying he, List.getD, List.getElem?_eq_getElem (show i < ys.length by omega)]
    have pe : (Op.equalIn (d + 1) e (nc k (xs.getD i 0)) (nc k (ys.getD i 0))).run P w = .ok (xs.getD i 0 == ys.getD i 0) w := by
      rw [nc, nc, run_equalIn_int w d e k k _ _ he]
      congr 1
      rw [Bool.eq_iff_iff]
      simp
      omega
    simp only [List.forIn_cons, Sem.run_bind, px, py, pe, Result.andThen_ok, List.all_cons]
    cases hb : (xs.getD i 0 == ys.getD i 0)
    · simp
    · simp only [Bool.not_true, Bool.false_eq_true, if_false, Sem.run_pure, Result.andThen_ok, Bool.true_and]
      exact ih fun j hj => hl j (by simp [hj])
/-- 'a[i]' of an array's value. -/
theorem run_index_nats (t e : TypeId) (n : Nat) (k : IntKind) (ht : P.underlying t = some (.array n e)) (he : P.underlying e = some (.int k)) (hsz : ∀ w, (sizeOf e).run P w = .ok 1 w)
    (l : List Nat) (i x : Nat) (hi : i < n) (hx : l[i]? = some x) : (Instr.index t (.agg (ncs k l)) (.int .i64 (i : Int))).run P w = .ok (.int k (x : Int)) w := by
  have hc : (ncs k l)[i]? = some (.int k (x : Int)) := by rw [ncs_get, hx]; rfl
  simp [Instr.index, asIntOf, run_underlying ht, hsz, part, isAgg, run_underlying he, hc]
  intro h
  exact absurd h (by omega)
end
end Go.Proofs.YtcijaoihcckofaaDoor
namespace Go.Proofs.YtcijaoihcckofaaDoor
set_option linter.unusedVariables false
set_option linter.unusedSimpArgs false
open Go.RowKit
theorem es_show (x : Nat) : es x = #[.int .u64 (wd0 x : Int), .int .u64 (wd1 x : Int), .int .u64 (wd2 x : Int), .int .u64 (wd3 x : Int)] := rfl
set_option maxHeartbeats 1000000 in
theorem square_any (x : Nat) (w : World) (hpg : PG w) (hx : x < PP) :
    Calls Tryd.prog 75 #[.agg (es x)] w (ElemPost (x * x % PP) w) := by
  have HP := Lib.hid hpg
  clear hpg
  rw [es_show]
  go_enter Tryd.func75, Tryd.ntmps75
  go_wp2_with (fail)
  refine (mul_any x x _ ((HP.out.alloc _).alloc _) hx hx).mono ?_
  rintro e v2 ⟨rfl, hb2⟩
  have k2 : Blk v2 (w.heap.size + 1) 27 #[.int .u64 0, .int .u64 0, .int .u64 0, .int .u64 0] := (Blk.new' _ _ _ _ (by simp)).below hb2 (by simp)
  have b2 : Below w.heap.size w v2 := below_then (((Below.refl _ _).alloc (Nat.le_refl _) _).alloc (by simp) _) hb2 (by simp; omega)
  have HK2 := Lib.hid k2
  have HB2 := Lib.hid b2
  clear hb2 k2 b2
  go_wp2_with (first | (refine wpList_store_row rfl 27 (.tmp 2) (.tmp 5) rfl (w.heap.size + 1) (es (x * x % PP)) rfl rfl 27 _ HK2.out info_elem rfl (es_one _) ?_))
  exact elem_end (g := w.heap.size + 1) rfl rfl rfl (setRow_heap _ _ _ _ _ _ HK2.out) (below_setRow HB2.out (by omega) _)
set_option maxHeartbeats 1000000 in
theorem neg_any (x : Nat) (w : World) (hpg : PG w) (hx : x < PP) :
    Calls Tryd.prog 47 #[.agg (es x)] w (ElemPost ((PP - x) % PP) w) := by
  have HP := Lib.hid hpg
  clear hpg
  have h0 : 0 < PP := by rw [PP_eq]; omega
  rw [es_show]
  go_enter Tryd.func47, Tryd.ntmps47
  go_wp2_with (fail)
  have hs := sub_any 0 x ((w.alloc (.cells #[.int .u64 (wd0 x : Int), .int .u64 (wd1 x : Int), .int .u64 (wd2 x : Int), .int .u64 (wd3 x : Int)] 27)).alloc (.cells #[.int .u64 0, .int .u64 0, .int .u64 0, .int .u64 0] 27)) ((HP.out.alloc _).alloc _) h0 hx
  rw [Nat.zero_add] at hs
  refine hs.mono ?_
  clear hs
  rintro e v2 ⟨rfl, hb2⟩
  have k2 : Blk v2 (w.heap.size + 1) 27 #[.int .u64 0, .int .u64 0, .int .u64 0, .int .u64 0] := (Blk.new' _ _ _ _ (by simp)).below hb2 (by simp)
  have b2 : Below w.heap.size w v2 := below_then (((Below.refl _ _).alloc (Nat.le_refl _) _).alloc (by simp) _) hb2 (by simp; omega)
  have HK2 := Lib.hid k2
  have HB2 := Lib.hid b2
  clear hb2 k2 b2
  go_wp2_with (first | (refine wpList_store_row rfl 27 (.tmp 2) (.tmp 5) rfl (w.heap.size + 1) (es ((PP - x) % PP)) rfl rfl 27 _ HK2.out info_elem rfl (es_one _) ?_))
  exact elem_end (g := w.heap.size + 1) rfl rfl rfl (setRow_heap _ _ _ _ _ _ HK2.out) (below_setRow HB2.out (by omega) _)
theorem es_small {n : Nat} (h : n < 18446744073709551616) : es n = #[.int .u64 (n : Int), .int .u64 0, .int .u64 0, .int .u64 0] := by
  have : wd0 n = n ∧ wd1 n = 0 ∧ wd2 n = 0 ∧ wd3 n = 0 := by unfold wd0 wd1 wd2 wd3; omega
  rw [es_show, this.1, this.2.1, this.2.2.1, this.2.2.2]
  rfl
set_option maxHeartbeats 1000000 in
theorem small_any (n : Nat) (w : World) (hn : n < 18446744073709551616) :
    Calls Tryd.prog 34 #[.int .u64 (n : Int)] w (ElemPost n w) := by
  go_enter Tryd.func34, Tryd.ntmps34
  go_wp2_with (fail)
  refine bodyPost_ret (v := .agg (es n)) ?_ rfl ⟨rfl, ?_⟩
  · rw [es_small hn]
    simp [results, Tryd.results34, go_sem]
  · exact (Below.refl _ _).alloc (Nat.le_refl _) _
theorem and_one (x : Nat) : (bits .and .u64 (wd0 x : Int) 1 == 1) = decide (x % 2 = 1) := by
  have h := bits_and_u64_nat (wd0 x) 1 (wd0_lt x) (by omega)
  have e : wd0 x &&& 1 = x % 2 := by
    rw [Nat.and_one_is_mod]
    unfold wd0
    omega
  rw [e] at h
  rw [show (1 : Int) = ((1 : Nat) : Int) from rfl, h, Bool.eq_iff_iff]
  simp
  omega
set_option maxHeartbeats 1000000 in
theorem odd_any (x : Nat) (w : World) :
    Calls Tryd.prog 58 #[.agg (es x)] w fun e w' => e = .returned (.bool (decide (x % 2 = 1))) ∧ Below w.heap.size w w' := by
  rw [es_show]
  go_enter Tryd.func58, Tryd.ntmps58
  go_wp2_with (fail)
  go_ret
  exact ⟨by rw [and_one]; rfl, (Below.refl _ _).alloc (Nat.le_refl _) _⟩
theorem words_eq {x y : Nat} (hx : x < PP) (hy : y < PP) : ([wd0 x, wd1 x, wd2 x, wd3 x] == [wd0 y, wd1 y, wd2 y, wd3 y]) = decide (x = y) := by
  rw [Bool.eq_iff_iff]
  simp
  constructor
  · rintro ⟨h0, h1, h2, h3⟩
    rw [← num4_of (PP_lt256 hx), ← num4_of (PP_lt256 hy), h0, h1, h2, h3]
  · rintro rfl
    exact ⟨rfl, rfl, rfl, rfl⟩
theorem size_u64 (w : World) : (sizeOf 24).run Tryd.prog w = .ok 1 w := by kernel_rfl
set_option maxHeartbeats 1000000 in
theorem equal_any (x y : Nat) (w : World) (hx : x < PP) (hy : y < PP) :
    Calls Tryd.prog 63 #[.agg (es x), .agg (es y)] w fun e w' => e = .returned (.bool (decide (x = y))) ∧ Below w.heap.size w w' := by
  have he : ∀ W, (Op.equalIn 10000 25 (.agg #[.int .u64 (wd0 x : Int), .int .u64 (wd1 x : Int), .int .u64 (wd2 x : Int), .int .u64 (wd3 x : Int)]) (.agg #[.int .u64 (wd0 y : Int), .int .u64 (wd1 y : Int), .int .u64 (wd2 y : Int), .int .u64 (wd3 y : Int)])).run Tryd.prog W = .ok (decide (x = y)) W := fun W => by
    have := run_equalIn_nats (P := Tryd.prog) W 9998 25 24 4 .u64 Tryd.underlying25 Tryd.underlying24 size_u64 [wd0 x, wd1 x, wd2 x, wd3 x] [wd0 y, wd1 y, wd2 y, wd3 y] rfl rfl
    rw [words_eq hx hy] at this
    exact this
  rw [es_show, es_show]
  go_enter Tryd.func63, Tryd.ntmps63
  go_wp2_with (fail)
  go_ret
  exact ⟨rfl, ((Below.refl _ _).alloc (Nat.le_refl _) _).alloc (by simp) _⟩
set_option maxHeartbeats 1000000 in
theorem select_any (x y : Nat) (b : Bool) (w : World) :
    Calls Tryd.prog 46 #[.agg (es x), .agg (es y), .bool b] w (ElemPost (if b then y else x) w) := by
  cases b
  all_goals
    rw [es_show, es_show]
    go_enter Tryd.func46, Tryd.ntmps46
    go_wp2_with (fail)
  · refine bodyPost_ret (v := .agg (es x)) ?_ rfl ⟨rfl, (((Below.refl _ _).alloc (Nat.le_refl _) _).alloc (by simp) _).alloc (by simp; omega) _⟩
    rw [es_show]
    simp [results, Tryd.results46, go_sem]
  · refine bodyPost_ret (v := .agg (es y)) ?_ rfl ⟨rfl, (((Below.refl _ _).alloc (Nat.le_refl _) _).alloc (by simp) _).alloc (by simp; omega) _⟩
    rw [es_show]
    simp [results, Tryd.results46, go_sem]
end Go.Proofs.YtcijaoihcckofaaDoor
namespace Go.Proofs.YtcijaoihcckofaaDoor
set_option linter.unusedVariables false
set_option linter.unusedSimpArgs false
open Go.RowKit
/-- In W, that came of w: the blocks of L hold these rows, those of R rows of these sizes; all that was there in w is as it was. -/
structure Fr (w W : World) (L : List (Nat × TypeId × Array Value)) (R : List (Nat × TypeId × Nat)) : Prop where
  below : Below w.heap.size w W
  rows : ∀ p ∈ L, Blk W p.1 p.2.1 p.2.2
  some_ : ∀ p ∈ R, ∃ cs : Array Value, cs.size = p.2.2 ∧ Blk W p.1 p.2.1 cs
  own : ∀ p ∈ R, w.heap.size ≤ p.1
section
variable {w W W' : World} {L L' : List (Nat × TypeId × Array Value)} {R R' : List (Nat × TypeId × Nat)}
theorem Fr.start (w : World) : Fr w w [] [] := ⟨Below.refl _ _, (fun _ h => by cases h), (fun _ h => by cases h), (fun _ h => by cases h)⟩
theorem Fr.get (h : Fr w W L R) {g : Nat} {t : TypeId} {cs : Array Value} (hm : (g, t, cs) ∈ L) : Blk W g t cs := h.rows _ hm
theorem Fr.ext (h : Fr w W L R) (hb : Below W.heap.size W W') : Fr w W' L R :=
  ⟨h.below.trans (hb.mono h.below.size), fun p hp => (h.rows p hp).below hb (h.rows p hp).lt, fun p hp => by
    obtain ⟨cs, e, k⟩ := h.some_ p hp
    exact ⟨cs, e, k.below hb k.lt⟩, h.own⟩
theorem Fr.drew (h : Fr w W L R) : Fr w W.drew L R := ⟨h.below.drew, h.rows, h.some_, h.own⟩
theorem Fr.row (h : Fr w W L R) (cs : Array Value) (t : TypeId) {g : Nat} (hg : g = W.heap.size) : Fr w (W.alloc (.cells cs t)) ((g, t, cs) :: L) R := by
  subst hg
  refine ⟨h.below.alloc h.below.size _, fun p hp => ?_, fun p hp => ?_, h.own⟩
  · rcases List.mem_cons.1 hp with rfl | hp
    · exact Blk.new _ _ _
    · exact (h.rows p hp).alloc _
  · obtain ⟨cs, e, k⟩ := h.some_ p hp
    exact ⟨cs, e, k.alloc _⟩
theorem Fr.any (h : Fr w W L R) (cs : Array Value) (t : TypeId) (n : Nat) (hn : cs.size = n) {g : Nat} (hg : g = W.heap.size) : Fr w (W.alloc (.cells cs t)) L ((g, t, n) :: R) := by
  subst hg
  refine ⟨h.below.alloc h.below.size _, fun p hp => (h.rows p hp).alloc _, fun p hp => ?_, fun p hp => ?_⟩
  · rcases List.mem_cons.1 hp with rfl | hp
    · exact ⟨cs, hn, Blk.new _ _ _⟩
    · obtain ⟨cs, e, k⟩ := h.some_ p hp
      exact ⟨cs, e, k.alloc _⟩
  · rcases List.mem_cons.1 hp with rfl | hp
    · exact h.below.size
    · exact h.own p hp
theorem Fr.pass (h : Fr w W L R) (o : Obj) : Fr w (W.alloc o) L R := h.ext ((Below.refl _ _).alloc (Nat.le_refl _) _)
theorem Blk.setRow_other {g k : Nat} {t : TypeId} {cs : Array Value} (h : Blk W g t cs) (hne : g ≠ k) (c : Array Value) : Blk (W.setRow k c) g t cs := (Go.setRow_other W k g c hne).trans h
theorem Blk.setRow_same {g : Nat} {t : TypeId} {cs : Array Value} (h : Blk W g t cs) (c : Array Value) : Blk (W.setRow g c) g t c := setRow_heap W g cs c t (0, 0) h
/-- A row of which but the size was known is written. -/
theorem Fr.setAny (h : Fr w W L R) {g : Nat} {t : TypeId} {c : Array Value} {n : Nat} (hc : c.size = n) (hm : (g, t, n) ∈ R) (hne : ∀ p ∈ L, p.1 ≠ g) : Fr w (W.setRow g c) L R := by
  subst hc
  refine ⟨below_setRow h.below (h.own _ hm) _, fun p hp => (h.rows p hp).setRow_other (hne p hp) _, fun p hp => ?_, h.own⟩
  obtain ⟨cs, e, k⟩ := h.some_ p hp
  by_cases hg : p.1 = g
  · obtain ⟨cs', e', k'⟩ := h.some_ _ hm
    rw [hg] at k
    have := (k.inj k').2
    refine ⟨c, ?_, ?_⟩
    · rw [← e, this, e']
    · rw [hg]
      exact k.setRow_same _
  · exact ⟨cs, e, k.setRow_other hg _⟩
/-- A cell of the row that is told first is written. -/
theorem Fr.setHead {g : Nat} {t : TypeId} {cs : Array Value} (h : Fr w W ((g, t, cs) :: L) R) (hL : ∀ p ∈ L, p.1 ≠ g) (hR : ∀ p ∈ R, p.1 ≠ g) (i : Nat) (v : Value) (hw : w.heap.size ≤ g) : Fr w (W.setCell ⟨g, i, none⟩ v) ((g, t, cs.setIfInBounds i v) :: L) R := by
  refine ⟨h.below.setCell hw _, fun p hp => ?_, fun p hp => ?_, h.own⟩
  · rcases List.mem_cons.1 hp with rfl | hp
    · exact (h.rows (g, t, cs) (by simp)).set_ i v
    · exact (h.rows p (by simp [hp])).far (hL p hp) v
  · obtain ⟨c, e, k⟩ := h.some_ p hp
    exact ⟨c, e, k.far (hR p hp) v⟩
/-- The row that is told first is written. -/
theorem Fr.setRowHead {g : Nat} {t : TypeId} {cs : Array Value} (h : Fr w W ((g, t, cs) :: L) R) (hL : ∀ p ∈ L, p.1 ≠ g) (hR : ∀ p ∈ R, p.1 ≠ g) (c : Array Value) (hw : w.heap.size ≤ g) : Fr w (W.setRow g c) ((g, t, c) :: L) R := by
  refine ⟨below_setRow h.below hw _, fun p hp => ?_, fun p hp => ?_, h.own⟩
  · rcases List.mem_cons.1 hp with rfl | hp
    · exact (h.rows (g, t, cs) (by simp)).setRow_same c
    · exact (h.rows p (by simp [hp])).setRow_other (hL p hp) _
  · obtain ⟨d, e, k⟩ := h.some_ p hp
    exact ⟨d, e, k.setRow_other (hR p hp) _⟩
/-- A row that is told in neither list is written. -/
theorem Fr.setOut (h : Fr w W L R) {g : Nat} (hw : w.heap.size ≤ g) (hL : ∀ p ∈ L, p.1 ≠ g) (hR : ∀ p ∈ R, p.1 ≠ g) (c : Array Value) : Fr w (W.setRow g c) L R :=
  ⟨below_setRow h.below hw _, fun p hp => (h.rows p hp).setRow_other (hL p hp) _, fun p hp => by
    obtain ⟨d, e, k⟩ := h.some_ p hp
    exact ⟨d, e, k.setRow_other (hR p hp) _⟩, h.own⟩
/-- The lists may be told otherwise. -/
theorem Fr.sub (h : Fr w W L R) (hL : ∀ p ∈ L', p ∈ L) (hR : ∀ p ∈ R', p ∈ R) : Fr w W L' R' := ⟨h.below, fun p hp => h.rows p (hL p hp), fun p hp => h.some_ p (hR p hp), fun p hp => h.own p (hR p hp)⟩
theorem Fr.more (h : Fr w W L R) {g : Nat} {t : TypeId} {cs : Array Value} (hb : Blk W g t cs) : Fr w W ((g, t, cs) :: L) R := ⟨h.below, fun p hp => by
  rcases List.mem_cons.1 hp with rfl | hp
  · exact hb
  · exact h.rows p hp, h.some_, h.own⟩
theorem Fr.size (h : Fr w W L R) : w.heap.size ≤ W.heap.size := h.below.size
theorem Fr.old (h : Fr w W L R) {g : Nat} {t : TypeId} {n : Nat} (hm : (g, t, n) ∈ R) : ∃ cs : Array Value, cs.size = n ∧ Blk W g t cs := h.some_ _ hm
end
/-- In W, that came of wc in the midst of a statement: the rows of L, all of which were there in wc, are as they were. -/
structure Fn (wc W : World) (L : List (Nat × TypeId × Array Value)) : Prop where
  below : Below wc.heap.size wc W
  rows : ∀ p ∈ L, Blk W p.1 p.2.1 p.2.2
  lt : ∀ p ∈ L, p.1 < wc.heap.size
section
variable {w wc W W' : World} {L : List (Nat × TypeId × Array Value)} {R : List (Nat × TypeId × Nat)}
theorem Fr.now (h : Fr w wc L R) : Fn wc wc L := ⟨Below.refl _ _, h.rows, fun p hp => (h.rows p hp).lt⟩
theorem Fn.get (h : Fn wc W L) {g : Nat} {t : TypeId} {cs : Array Value} (hm : (g, t, cs) ∈ L) : Blk W g t cs := h.rows _ hm
theorem Fn.ext (h : Fn wc W L) (hb : Below W.heap.size W W') : Fn wc W' L := ⟨h.below.trans (hb.mono h.below.size), fun p hp => (h.rows p hp).below hb (h.rows p hp).lt, h.lt⟩
theorem Fn.sub {L' : List (Nat × TypeId × Array Value)} (h : Fn wc W L) (hL : ∀ p ∈ L', p ∈ L) : Fn wc W L' := ⟨h.below, fun p hp => h.rows p (hL p hp), fun p hp => h.lt p (hL p hp)⟩
theorem Fn.drew (h : Fn wc W L) : Fn wc W.drew L := ⟨h.below.drew, h.rows, h.lt⟩
theorem Fn.pass (h : Fn wc W L) (o : Obj) : Fn wc (W.alloc o) L := h.ext ((Below.refl _ _).alloc (Nat.le_refl _) _)
theorem Fn.fresh (h : Fn wc W L) (t : TypeId) (cs : Array Value) : Blk (W.alloc (.cells cs t)) W.heap.size t cs ∧ wc.heap.size ≤ W.heap.size := ⟨Blk.new _ _ _, h.below.size⟩
theorem Fn.setFresh (h : Fn wc W L) {g : Nat} (hg : wc.heap.size ≤ g) (c : Array Value) : Fn wc (W.setRow g c) L :=
  ⟨below_setRow h.below hg _, fun p hp => (h.rows p hp).setRow_other (by have := h.lt p hp; omega) _, h.lt⟩
end
/-- A row that is loaded yields its cells in every world that the region may meet. -/
theorem yields_row {P : Program} {ops : Array Oper} {S : World → Prop} {o : Oper} {a : Act} (hw : Region.wanted o (yielded ops a.tmps) = true) (ty : TypeId) (x : Operand) (ho : o.op = .load ty x) (g : Nat) (hx : a.eval x = .pointer (some ⟨g, 0, none⟩))
    (t : TypeId) (cs : Array Value) (d : TypeDesc) (hB : ∀ W, S W → Blk W g t cs) (hu : P.underlying ty = some d) (hd : (match d with | .struct _ | .array _ _ => true | _ => false) = true) (hi : (P.info? ty).map (·.size) = some cs.size) :
    YieldsIf P ops S o (.agg cs) a :=
  Or.inl ⟨hw, fun w hS => by
    unfold execOp
    simp only [ho, hx, Instr.loadAt, Instr.sureAddr, Sem.run_bind, Sem.run_pure, Result.andThen_ok, run_loadVar_row w g t ty cs (0, 0) d (hB w hS) hu hd hi]⟩
/-- A row and a plain result. -/
theorem results_row_tmp {P : Program} {fn : Func} {p q : Tmp} {ty : TypeId} (h : fn.results = #[.cell p ty, .tmp q]) {tmps : Array Value} {w : World} {g : Nat} {t : TypeId} {cs : Array Value} {v : Value} {d : TypeDesc}
    (hp : tmps.getD p undef = .pointer (some ⟨g, 0, none⟩)) (hq : tmps.getD q undef = v) (hg : Blk w g t cs)
    (hu : P.underlying ty = some d) (hd : (match d with | .struct _ | .array _ _ => true | _ => false) = true) (hi : (P.info? ty).map (·.size) = some cs.size) :
    (results fn tmps).run P w = .ok (.tuple #[.agg cs, v]) w := by
  have hp' : tmps[p]?.getD undef = .pointer (some ⟨g, 0, none⟩) := by simpa using hp
  have hq' : tmps[q]?.getD undef = v := by simpa using hq
  simp [results, h, hp', hq', asAddr, run_loadVar_row w g t ty cs (0, 0) d hg hu hd hi]
end Go.Proofs.YtcijaoihcckofaaDoor
namespace Go.Proofs.YtcijaoihcckofaaDoor
set_option linter.unusedVariables false
set_option linter.unusedSimpArgs false
open Go.RowKit
/-- The 32 bytes of a number, the lowest first. -/
def kb (n : Nat) : List Nat := (List.range 32).map fun i => n / 256 ^ i % 256
theorem kb_len (n : Nat) : (kb n).length = 32 := by simp [kb]
theorem kb_get (n : Nat) {i : Nat} (h : i < 32) : (kb n)[i]? = some (n / 256 ^ i % 256) := by simp [kb, h]
/-- The cells of a key. -/
def ks (n : Nat) : Array Value := ncs .u8 (kb n)
theorem ks_size (n : Nat) : (ks n).size = 32 := by rw [ks, ncs_size, kb_len]
theorem ks_get (n : Nat) {i : Nat} (h : i < 32) : (ks n)[i]? = some (.int .u8 ((n / 256 ^ i % 256 : Nat) : Int)) := by rw [ks, ncs_get, kb_get n h]; rfl
theorem ks_one (n : Nat) : (ks n).all (·.oneCell') = true := ncs_one _ _
theorem info_key : (Tryd.prog.info? 23).map (·.size) = some 32 := by kernel_rfl
theorem info_ks (n : Nat) : (Tryd.prog.info? 23).map (·.size) = some (ks n).size := by rw [ks_size]; exact info_key
/-- Word j. -/
def wj (n j : Nat) : Nat := n / 18446744073709551616 ^ j % 18446744073709551616
theorem es_get (n : Nat) {j : Nat} (h : j < 4) : (es n)[j]? = some (.int .u64 (wj n j : Int)) := by
  have : j = 0 ∨ j = 1 ∨ j = 2 ∨ j = 3 := by omega
  rcases this with rfl | rfl | rfl | rfl
  · simp [es, wj, wd0]
  · simp [es, wj, wd1]
  · simp [es, wj, wd2]
  · simp [es, wj, wd3]
theorem byte_cases {k : Nat} (hk : k < 32) : k = 0 ∨ k = 1 ∨ k = 2 ∨ k = 3 ∨ k = 4 ∨ k = 5 ∨ k = 6 ∨ k = 7 ∨ k = 8 ∨ k = 9 ∨ k = 10 ∨ k = 11 ∨ k = 12 ∨ k = 13 ∨ k = 14 ∨ k = 15 ∨ k = 16 ∨ k = 17 ∨ k = 18 ∨ k = 19 ∨ k = 20 ∨ k = 21 ∨ k = 22 ∨ k = 23 ∨ k = 24 ∨ k = 25 ∨ k = 26 ∨ k = 27 ∨ k = 28 ∨ k = 29 ∨ k = 30 ∨ k = 31 := by omega
set_option maxHeartbeats 2000000 in
theorem byte_step (n k : Nat) (hk : k < 32) : wj (n % 256 ^ (k + 1)) (k / 8) = wj (n % 256 ^ k) (k / 8) + n / 256 ^ k % 256 * 2 ^ (8 * (k % 8)) ∧ wj (n % 256 ^ k) (k / 8) < 2 ^ (8 * (k % 8)) ∧
    (0 ≠ k / 8 → wj (n % 256 ^ k) 0 = wj (n % 256 ^ (k + 1)) 0) ∧ (1 ≠ k / 8 → wj (n % 256 ^ k) 1 = wj (n % 256 ^ (k + 1)) 1) ∧ (2 ≠ k / 8 → wj (n % 256 ^ k) 2 = wj (n % 256 ^ (k + 1)) 2) ∧ (3 ≠ k / 8 → wj (n % 256 ^ k) 3 = wj (n % 256 ^ (k + 1)) 3) := by
  unfold wj
  rcases byte_cases hk with rfl | rfl | rfl | rfl | rfl | rfl | rfl | rfl | rfl | rfl | rfl | rfl | rfl | rfl | rfl | rfl | rfl | rfl | rfl | rfl | rfl | rfl | rfl | rfl | rfl | rfl | rfl | rfl | rfl | rfl | rfl | rfl
  all_goals
    simp only [Nat.reducePow, Nat.reduceDiv, Nat.reduceMod, Nat.reduceMul, Nat.reduceAdd, Nat.div_one, ne_eq, Nat.reduceEqDiff, not_false_eq_true, not_true_eq_false, false_implies, true_implies, true_and, and_true]
    omega
theorem es_wj (n : Nat) : es n = ncs .u64 [wj n 0, wj n 1, wj n 2, wj n 3] := by
  simp [es, ncs, nc, wj, wd0, wd1, wd2, wd3]
theorem es_set (m m' j : Nat) (hj : j < 4) (h0 : 0 ≠ j → wj m 0 = wj m' 0) (h1 : 1 ≠ j → wj m 1 = wj m' 1) (h2 : 2 ≠ j → wj m 2 = wj m' 2) (h3 : 3 ≠ j → wj m 3 = wj m' 3) :
    (es m).setIfInBounds j (.int .u64 (wj m' j : Int)) = es m' := by
  rw [es_wj, es_wj, ncs_set]
  have : j = 0 ∨ j = 1 ∨ j = 2 ∨ j = 3 := by omega
  rcases this with rfl | rfl | rfl | rfl
  · rw [h1 (by omega), h2 (by omega), h3 (by omega)]; rfl
  · rw [h0 (by omega), h2 (by omega), h3 (by omega)]; rfl
  · rw [h0 (by omega), h1 (by omega), h3 (by omega)]; rfl
  · rw [h0 (by omega), h1 (by omega), h2 (by omega)]; rfl
theorem or_byte8 (a x r : Nat) (ha : a < 2 ^ (8 * r)) (hx : x < 256) (hr : r < 8) : bits .or .u64 (a : Int) (IntKind.u64.wrap ((x : Int) * 2 ^ (8 * r))) = ((a + x * 2 ^ (8 * r) : Nat) : Int) := by
  have hp : 2 ^ (8 * r) ≤ 2 ^ 56 := Nat.pow_le_pow_right (by omega) (by omega)
  have hm : x * 2 ^ (8 * r) ≤ 255 * 2 ^ 56 := Nat.mul_le_mul (by omega) hp
  have e : (x : Int) * 2 ^ (8 * r) = ((x * 2 ^ (8 * r) : Nat) : Int) := by push_cast; rfl
  have h2 : (2 : Nat) ^ 56 = 72057594037927936 := by decide
  rw [e, IntKind.wrap_u64, Int.emod_eq_of_lt (by omega) (by omega), u64_or_nat _ _ (by omega) (by omega)]
  have := Nat.two_pow_add_eq_or_of_lt ha x
  rw [Nat.or_comm, Nat.mul_comm x, ← this, Nat.add_comm]
set_option maxHeartbeats 1000000 in
theorem wordsOf_any (n : Nat) (w : World) (hn : n < 115792089237316195423570985008687907853269984665640564039457584007913129639936) :
    Calls Tryd.prog 67 #[.agg (ks n)] w (ElemPost n w) := by
  have hfr := ((((Fr.start w).row (ks n) 23 (g := w.heap.size) rfl).any #[.int .u64 0, .int .u64 0, .int .u64 0, .int .u64 0] 25 4 rfl (g := w.heap.size + 1) (by simp)).row (es 0) 25 (g := w.heap.size + 1 + 1) (by simp))
  have k1 := hfr.get (g := w.heap.size) (t := 23) (cs := ks n) (by simp)
  rw [es_zero] at k1
  have HFR := Lib.hid hfr
  clear hfr
  go_enter Tryd.func67, Tryd.ntmps67
  go_wp2_with (first | (refine wpList_load_row rfl 23 (.tmp 1) rfl w.heap.size rfl 23 (ks n) (0, 0) _ k1 Tryd.underlying23 rfl (info_ks n) ?_))
  go_loopw [7] (fun c wr => ∃ k : Nat, k ≤ 32 ∧ c = .int .i64 k ∧ Fr w wr [(w.heap.size + 1 + 1, 25, es (n % 256 ^ k)), (w.heap.size, 23, ks n)] [(w.heap.size + 1, 25, 4)]) (fun c _ => 32 - (intOf c).toNat)
  case atStart => exact ⟨0, by omega, rfl, by have := HFR.out; rw [Nat.pow_zero, Nat.mod_one]; exact this⟩
  case round =>
    obtain ⟨k, hk, rfl, hF⟩ := hrel
    by_cases hlt : k < 32
    · have hB := hF.get (g := w.heap.size + 1 + 1) (t := 25) (cs := es (n % 256 ^ k)) (by simp)
      have hc : wr.cell? ⟨w.heap.size + 1 + 1, k / 8, none⟩ = some (.int .u64 (wj (n % 256 ^ k) (k / 8) : Int)) := by rw [hB.cell, es_get _ (by omega)]
      have hf := hB.frozen (k / 8)
      have hix := fun W => run_index_nats (P := Tryd.prog) W 23 5 32 .u8 Tryd.underlying23 Tryd.underlying5 (fun W => size_u8 (by kernel_rfl) W) (kb n) k (n / 256 ^ k % 256) hlt (kb_get n hlt)
      have hx8 : n / 256 ^ k % 256 < 256 := Nat.mod_lt _ (by omega)
      have hix2 : ∀ W, (Instr.index 23 (.agg (ks n)) (.int .i64 (k : Int))).run Tryd.prog W = .ok (.int .u8 ((n / 256 ^ k % 256 : Nat) : Int)) W := hix
      clear hix
      obtain ⟨s1, s2, s3, s4, s5, s6⟩ := byte_step n k hlt
      have hset := es_set (n % 256 ^ k) (n % 256 ^ (k + 1)) (k / 8) (by omega) s3 s4 s5 s6
      have hor := or_byte8 (wj (n % 256 ^ k) (k / 8)) (n / 256 ^ k % 256) (k % 8) s2 hx8 (by omega)
      rw [← s1] at hor
      have HS := Lib.hid hset
      have HO := Lib.hid hor
      have HF := Lib.hid hF
      clear s1 s2 s3 s4 s5 s6 hset hor hF hB
      generalize n / 256 ^ k % 256 = x at *
      have b1 : (0 : Int) ≤ (k : Int) / 8 := by omega
      have b2 : (k : Int) / 8 < 4 := by omega
      go_wp2
      go_region
      go_wp2
      go_roundw
      case rel =>
        refine ⟨k + 1, by omega, by go_num, ?_⟩
        rw [HO.out]
        refine Fr.drew ?_
        rw [← HS.out]
        exact HF.out.setHead (by simp <;> omega) (by simp <;> omega) _ _ (by omega)
      case measure => simp [intOf]; omega
    · obtain rfl : k = 32 := by omega
      have e32 : n % 256 ^ 32 = n := Nat.mod_eq_of_lt hn
      rw [e32] at hF
      have kT := hF.get (g := w.heap.size + 1 + 1) (t := 25) (cs := es n) (by simp)
      obtain ⟨old, hold, kR⟩ := hF.old (g := w.heap.size + 1) (t := 25) (n := 4) (by simp)
      have kS := kR.setRow_same (es n)
      have hB := below_setRow hF.below (show w.heap.size ≤ w.heap.size + 1 by omega) (es n)
      have HF := Lib.hid hF
      have HS := Lib.hid kS
      have HB := Lib.hid hB
      have HO := Lib.hid hold
      clear hF e32 kS hB hold
      go_wp2_with (first | (refine wpList_load_row rfl 25 (.tmp 3) rfl (w.heap.size + 1 + 1) rfl 25 (es n) (0, 0) _ kT Tryd.underlying25 rfl info_w4 ?_) | (refine wpList_store_row rfl 25 (.tmp 2) (.tmp 24) rfl (w.heap.size + 1) (es n) rfl rfl 25 old kR info_w4 HO.out (es_one _) ?_))
      exact bodyPost_ret (results_cell_row rfl _ _ (w.heap.size + 1) 25 (es n) (0, 0) _ rfl HS.out Tryd.underlying25 rfl info_w4) rfl ⟨rfl, HB.out⟩
end Go.Proofs.YtcijaoihcckofaaDoor
namespace Go.Proofs.YtcijaoihcckofaaDoor
set_option linter.unusedVariables false
set_option linter.unusedSimpArgs false
open Go.RowKit
theorem dig_mod (b n k i : Nat) (hb : 0 < b) : n % b ^ k / b ^ i % b = if i < k then n / b ^ i % b else 0 := by
  have hp : 0 < b ^ i := Nat.pow_pos hb
  split
  · rename_i h
    obtain ⟨d, rfl⟩ : ∃ d, k = i + (d + 1) := ⟨k - i - 1, by omega⟩
    rw [Nat.pow_add, Nat.mod_mul_right_div_self, Nat.pow_succ, Nat.mod_mul_left_mod]
  · rename_i h
    have h1 : n % b ^ k < b ^ k := Nat.mod_lt _ (Nat.pow_pos hb)
    have h2 : b ^ k ≤ b ^ i := Nat.pow_le_pow_right hb (by omega)
    rw [Nat.div_eq_of_lt (by omega), Nat.zero_mod]
theorem kb_step (n k : Nat) (hk : k < 32) : (kb (n % 256 ^ k)).set k (n / 256 ^ k % 256) = kb (n % 256 ^ (k + 1)) := by
  apply List.ext_getElem?
  intro i
  rw [List.getElem?_set]
  by_cases hi : i < 32
  · rw [kb_get (n % 256 ^ (k + 1)) hi, kb_len, dig_mod 256 n (k + 1) i (by omega)]
    by_cases e : k = i
    · subst e
      rw [if_pos rfl, if_pos hk, if_pos (by omega)]
    · rw [if_neg e, kb_get _ hi, dig_mod 256 n k i (by omega)]
      by_cases h : i < k
      · rw [if_pos h, if_pos (by omega)]
      · rw [if_neg h, if_neg (by omega)]
  · have h1 : (kb (n % 256 ^ (k + 1)))[i]? = none := by simp [kb_len]; omega
    have h2 : (kb (n % 256 ^ k))[i]? = none := by simp [kb_len]; omega
    rw [h1, h2]
    have : k ≠ i := by omega
    simp [this]
theorem ks_step (n k : Nat) (hk : k < 32) : (ks (n % 256 ^ k)).setIfInBounds k (.int .u8 ((n / 256 ^ k % 256 : Nat) : Int)) = ks (n % 256 ^ (k + 1)) := by
  rw [ks, ncs_set, kb_step n k hk, ks]
theorem ks_zero : ks 0 = #[.int .u8 0, .int .u8 0, .int .u8 0, .int .u8 0, .int .u8 0, .int .u8 0, .int .u8 0, .int .u8 0, .int .u8 0, .int .u8 0, .int .u8 0, .int .u8 0, .int .u8 0, .int .u8 0, .int .u8 0, .int .u8 0, .int .u8 0, .int .u8 0, .int .u8 0, .int .u8 0, .int .u8 0, .int .u8 0, .int .u8 0, .int .u8 0, .int .u8 0, .int .u8 0, .int .u8 0, .int .u8 0, .int .u8 0, .int .u8 0, .int .u8 0, .int .u8 0] := by kernel_rfl
set_option maxHeartbeats 2000000 in
theorem byte_of_word (n k : Nat) (hk : k < 32) (hn : n < 115792089237316195423570985008687907853269984665640564039457584007913129639936) : wj n (k / 8) / 2 ^ (8 * (k % 8)) % 256 = n / 256 ^ k % 256 := by
  unfold wj
  rcases byte_cases hk with rfl | rfl | rfl | rfl | rfl | rfl | rfl | rfl | rfl | rfl | rfl | rfl | rfl | rfl | rfl | rfl | rfl | rfl | rfl | rfl | rfl | rfl | rfl | rfl | rfl | rfl | rfl | rfl | rfl | rfl | rfl | rfl
  all_goals
    simp only [Nat.reducePow, Nat.reduceDiv, Nat.reduceMod, Nat.reduceMul, Nat.reduceAdd, Nat.div_one]
    omega
def KeyPost (n : Nat) (w : World) (e : Ending) (w' : World) : Prop := e = .returned (.agg (ks n)) ∧ Below w.heap.size w w'
set_option maxHeartbeats 1000000 in
theorem bytesOf_any (n : Nat) (w : World) (hn : n < 115792089237316195423570985008687907853269984665640564039457584007913129639936) :
    Calls Tryd.prog 73 #[.agg (es n)] w (KeyPost n w) := by
  have hfr := ((((Fr.start w).row (es n) 25 (g := w.heap.size) rfl).any (ks 0) 23 32 (ks_size 0) (g := w.heap.size + 1) (by simp)).row (ks 0) 23 (g := w.heap.size + 1 + 1) (by simp))
  rw [ks_zero] at hfr
  have HFR := Lib.hid hfr
  clear hfr
  go_enter Tryd.func73, Tryd.ntmps73
  go_wp2_with (fail)
  go_loopw [5] (fun c wr => ∃ k : Nat, k ≤ 32 ∧ c = .int .i64 k ∧ Fr w wr [(w.heap.size + 1 + 1, 23, ks (n % 256 ^ k)), (w.heap.size, 25, es n)] [(w.heap.size + 1, 23, 32)]) (fun c _ => 32 - (intOf c).toNat)
  case atStart => exact ⟨0, by omega, rfl, by have := HFR.out; rw [Nat.pow_zero, Nat.mod_one, ks_zero]; exact this⟩
  case round =>
    obtain ⟨k, hk, rfl, hF⟩ := hrel
    by_cases hlt : k < 32
    · have hB := hF.get (g := w.heap.size + 1 + 1) (t := 23) (cs := ks (n % 256 ^ k)) (by simp)
      have hE := hF.get (g := w.heap.size) (t := 25) (cs := es n) (by simp)
      have hc : wr.cell? ⟨w.heap.size, k / 8, none⟩ = some (.int .u64 (wj n (k / 8) : Int)) := by rw [hE.cell, es_get _ (by omega)]
      have hd : wr.cell? ⟨w.heap.size + 1 + 1, k, none⟩ = some (.int .u8 ((n % 256 ^ k / 256 ^ k % 256 : Nat) : Int)) := by rw [hB.cell, ks_get _ hlt]
      have hf := hB.frozen k
      have h8 : (8 : Int) * ((k : Int) % 8) < 65 := by omega
      have hby := byte_of_word n k hlt hn
      have hst := ks_step n k hlt
      have HB := Lib.hid hby
      have HS := Lib.hid hst
      have HF := Lib.hid hF
      clear hby hst hF hB hE
      generalize n % 256 ^ k / 256 ^ k % 256 = z at *
      have b1 : (0 : Int) ≤ (k : Int) / 8 := by omega
      have b2 : (k : Int) / 8 < 4 := by omega
      go_wp2
      go_roundw
      case rel =>
        refine ⟨k + 1, by omega, by go_num, ?_⟩
        have e : (wj n (k / 8) : Int) / 2 ^ (8 * (k % 8)) % 256 = ((n / 256 ^ k % 256 : Nat) : Int) := by
          rw [← HB.out]
          rw [Int.natCast_emod, Int.natCast_ediv, Int.natCast_pow]
          rfl
        rw [e, ← HS.out]
        exact HF.out.setHead (by simp <;> omega) (by simp <;> omega) _ _ (by omega)
      case measure => simp [intOf]; omega
    · obtain rfl : k = 32 := by omega
      have e32 : n % 256 ^ 32 = n := Nat.mod_eq_of_lt hn
      rw [e32] at hF
      have kT := hF.get (g := w.heap.size + 1 + 1) (t := 23) (cs := ks n) (by simp)
      obtain ⟨old, hold, kR⟩ := hF.old (g := w.heap.size + 1) (t := 23) (n := 32) (by simp)
      have kS := kR.setRow_same (ks n)
      have hB := below_setRow hF.below (show w.heap.size ≤ w.heap.size + 1 by omega) (ks n)
      have hold' : old.size = (ks n).size := by rw [hold, ks_size]
      have HF := Lib.hid hF
      have HS := Lib.hid kS
      have HB := Lib.hid hB
      have HO := Lib.hid hold'
      clear hF e32 kS hB hold hold'
      go_wp2_with (first | (refine wpList_load_row rfl 23 (.tmp 3) rfl (w.heap.size + 1 + 1) rfl 23 (ks n) (0, 0) _ kT Tryd.underlying23 rfl (info_ks n) ?_) | (refine wpList_store_row rfl 23 (.tmp 2) (.tmp 20) rfl (w.heap.size + 1) (ks n) rfl rfl 23 old kR (info_ks n) HO.out (ks_one _) ?_))
      exact bodyPost_ret (results_cell_row rfl _ _ (w.heap.size + 1) 23 (ks n) (0, 0) _ rfl HS.out Tryd.underlying23 rfl (info_ks n)) rfl ⟨rfl, HB.out⟩
theorem bit_at (e i : Nat) : e / 256 ^ (i / 8) % 256 / 2 ^ (i % 8) % 2 = e / 2 ^ i % 2 := by
  have h1 : e / 2 ^ i = e / 256 ^ (i / 8) / 2 ^ (i % 8) := by
    rw [show (256 : Nat) = 2 ^ 8 by decide, ← Nat.pow_mul, Nat.div_div_eq_div_mul, ← Nat.pow_add, Nat.div_add_mod]
  rw [h1]
  generalize e / 256 ^ (i / 8) = x
  have : i % 8 = 0 ∨ i % 8 = 1 ∨ i % 8 = 2 ∨ i % 8 = 3 ∨ i % 8 = 4 ∨ i % 8 = 5 ∨ i % 8 = 6 ∨ i % 8 = 7 := by omega
  rcases this with h | h | h | h | h | h | h | h
  all_goals
    rw [h]
    simp only [Nat.reducePow, Nat.div_one]
    omega
theorem and_one8 (x : Nat) (hx : x < 256) : (bits .and .u8 (x : Int) 1 == 1) = decide (x % 2 = 1) := by
  have h := u8_and (x : Int) 1 (by omega) (by omega) (by omega) (by omega)
  rw [h, Bool.eq_iff_iff]
  have e : (x : Int).toNat &&& (1 : Int).toNat = x % 2 := by
    show x &&& 1 = x % 2
    rw [Nat.and_one_is_mod]
  rw [e]
  simp
  omega
def bitB (e i : Nat) : Bool := decide (e / 2 ^ i % 2 = 1)
set_option maxHeartbeats 1000000 in
theorem bit_any (e i : Nat) (w : World) (hi : i < 256) :
    Calls Tryd.prog 89 #[.agg (ks e), .int .i64 (i : Int)] w fun r w' => r = .returned (.bool (bitB e i)) ∧ Below w.heap.size w w' := by
  have hc : (w.alloc (.cells (ks e) 23)).cell? ⟨w.heap.size, i / 8, none⟩ = some (.int .u8 ((e / 256 ^ (i / 8) % 256 : Nat) : Int)) := by
    rw [(Blk.new w 23 (ks e)).cell, ks_get _ (by omega)]
  have hx : e / 256 ^ (i / 8) % 256 < 256 := Nat.mod_lt _ (by omega)
  have hb := bit_at e i
  have ha := and_one8 (e / 256 ^ (i / 8) % 256 / 2 ^ (i % 8)) (Nat.lt_of_le_of_lt (Nat.div_le_self _ _) hx)
  rw [hb, Int.natCast_ediv, Int.natCast_pow] at ha
  have HA := Lib.hid ha
  clear hb ha
  generalize e / 256 ^ (i / 8) % 256 = x at *
  have b1 : (0 : Int) ≤ (i : Int) / 8 := by omega
  have b2 : (i : Int) / 8 < 32 := by omega
  have b3 : ((i : Int) % 8) < 65 := by omega
  go_enter Tryd.func89, Tryd.ntmps89
  go_wp2
  go_ret
  refine ⟨?_, (Below.refl _ _).alloc (Nat.le_refl _) _⟩
  show Ending.returned (.bool (bits .and .u8 ((x : Int) / 2 ^ (i % 8)) 1 == 1)) = _
  have := HA.out
  rw [show ((2 : Nat) : Int) = 2 from rfl] at this
  rw [this]
  rfl
end Go.Proofs.YtcijaoihcckofaaDoor
namespace Go.Proofs.YtcijaoihcckofaaDoor
set_option linter.unusedVariables false
set_option linter.unusedSimpArgs false
open Go.RowKit
theorem key_end {fn : Func} {p : Tmp} (hr : fn.results = #[.cell p 23]) {a : Act} (hd : a.defers = []) {W w : World} {g n : Nat} (hp : a.tmps.getD p undef = .pointer (some ⟨g, 0, none⟩)) (hb : Blk w g 23 (ks n)) (hB : Below W.heap.size W w) :
    bodyPost Tryd.prog fn (KeyPost n W) .ret a w :=
  bodyPost_ret (results_cell_row hr _ _ g 23 (ks n) (0, 0) _ hp hb Tryd.underlying23 rfl (info_ks n)) hd ⟨rfl, hB⟩
set_option maxHeartbeats 1000000 in
theorem bytes_any (n : Nat) (w : World) (hn : n < 115792089237316195423570985008687907853269984665640564039457584007913129639936) :
    Calls Tryd.prog 39 #[.agg (es n)] w (KeyPost n w) := by
  have hfr := ((Fr.start w).row (es n) 27 (g := w.heap.size) rfl).any (ks 0) 23 32 (ks_size 0) (g := w.heap.size + 1) (by simp)
  have k0 := hfr.get (g := w.heap.size) (t := 27) (cs := es n) (by simp)
  rw [ks_zero] at hfr k0
  have HFR := Lib.hid hfr
  clear hfr
  go_enter Tryd.func39, Tryd.ntmps39
  go_wp2_with (first | (refine wpList_load_row rfl 25 (.tmp 3) rfl w.heap.size rfl 27 (es n) (0, 0) _ k0 Tryd.underlying25 rfl info_w4 ?_))
  refine (bytesOf_any n _ hn).mono ?_
  rintro e v ⟨rfl, hb⟩
  have hf := HFR.out.ext hb
  clear hb
  obtain ⟨old, hold, kR⟩ := hf.old (g := w.heap.size + 1) (t := 23) (n := 32) (by simp)
  have kS := kR.setRow_same (ks n)
  have hB := below_setRow hf.below (show w.heap.size ≤ w.heap.size + 1 by omega) (ks n)
  have hold' : old.size = (ks n).size := by rw [hold, ks_size]
  have HS := Lib.hid kS
  have HB := Lib.hid hB
  have HO := Lib.hid hold'
  clear hf kS hB hold hold' k0
  go_wp2_with (first | (refine wpList_store_row rfl 23 (.tmp 2) (.tmp 5) rfl (w.heap.size + 1) (ks n) rfl rfl 23 old kR (info_ks n) HO.out (ks_one _) ?_))
  exact key_end (g := w.heap.size + 1) rfl rfl rfl HS.out HB.out
theorem of_num (n : Nat) (hn : n < 115792089237316195423570985008687907853269984665640564039457584007913129639936) : num5 (wd0 n) (wd1 n) (wd2 n) (wd3 n % 9223372036854775808) 0 = n % 57896044618658097711785492504343953926634992332820282019728792003956564819968 := by
  unfold num5 wd0 wd1 wd2 wd3
  omega
set_option maxHeartbeats 1000000 in
theorem of_any (n : Nat) (w : World) (hpg : PG w) (hn : n < 115792089237316195423570985008687907853269984665640564039457584007913129639936) :
    Calls Tryd.prog 32 #[.agg (ks n)] w (ElemPost (n % 57896044618658097711785492504343953926634992332820282019728792003956564819968 % PP) w) := by
  have hfr := ((Fr.start w).row (ks n) 23 (g := w.heap.size) rfl).any (es 0) 27 4 rfl (g := w.heap.size + 1) (by simp)
  have k0 := hfr.get (g := w.heap.size) (t := 23) (cs := ks n) (by simp)
  rw [es_zero] at hfr k0
  have HFR := Lib.hid hfr
  have HPG := Lib.hid hpg
  have ho := of_num n hn
  have HON := Lib.hid ho
  have at_ := andNot_top (wd3 n) (wd3_lt n)
  clear hfr hpg ho
  go_enter Tryd.func32, Tryd.ntmps32
  go_wp2_with (first | (refine wpList_load_row rfl 23 (.tmp 1) rfl w.heap.size rfl 23 (ks n) (0, 0) _ k0 Tryd.underlying23 rfl (info_ks n) ?_))
  refine (wordsOf_any n _ hn).mono ?_
  rintro e v ⟨he, hb⟩
  rw [es_show] at he
  subst he
  have hf := (HFR.out.ext hb).row (es n) 25 (g := v.heap.size) rfl
  rw [es_show] at hf
  have hp1 := (((HPG.out.alloc _).alloc _).ext hb).alloc (.cells #[.int .u64 (wd0 n : Int), .int .u64 (wd1 n : Int), .int .u64 (wd2 n : Int), .int .u64 (wd3 n : Int)] 25)
  have HF := Lib.hid hf
  have HP1 := Lib.hid hp1
  clear hb k0 hf hp1
  go_wp2_with (fail)
  refine (settle_any (wd0 n) (wd1 n) (wd2 n) (wd3 n % 9223372036854775808) 0 _ HP1.out (wd0_lt n) (wd1_lt n) (wd2_lt n) (Nat.lt_of_le_of_lt (Nat.mod_le _ _) (wd3_lt n)) (by omega)).mono ?_
  rintro e v2 ⟨he, hb⟩
  rw [HON.out] at he
  subst he
  have hf2 := HF.out.ext hb
  clear hb
  obtain ⟨old, hold, kR⟩ := hf2.old (g := w.heap.size + 1) (t := 27) (n := 4) (by simp)
  generalize n % 57896044618658097711785492504343953926634992332820282019728792003956564819968 % PP = r at *
  have kS := kR.setRow_same (es r)
  have hB := below_setRow hf2.below (show w.heap.size ≤ w.heap.size + 1 by omega) (es r)
  have HS := Lib.hid kS
  have HB := Lib.hid hB
  have HO := Lib.hid hold
  clear hf2 kS hB hold
  go_wp2_with (first | (refine wpList_store_row rfl 27 (.tmp 2) (.tmp 15) rfl (w.heap.size + 1) (es r) rfl rfl 27 old kR info_elem HO.out (es_one _) ?_))
  exact elem_end (g := w.heap.size + 1) rfl rfl rfl HS.out HB.out
theorem es_of_num4 {n a b c d : Nat} (h : n = num4 a b c d) (ha : a < 18446744073709551616) (hb : b < 18446744073709551616) (hc : c < 18446744073709551616) (hd : d < 18446744073709551616) :
    es n = #[.int .u64 (a : Int), .int .u64 (b : Int), .int .u64 (c : Int), .int .u64 (d : Int)] := by
  obtain ⟨h0, h1, h2, h3⟩ := of_num4 h ha hb hc hd
  rw [es_show, h0, h1, h2, h3]
theorem rootPower_num : num4 18446744073709551613 18446744073709551615 18446744073709551615 1152921504606846975 = EE := by decide +kernel
set_option maxHeartbeats 1000000 in
theorem rootPower_any (w : World) : Calls Tryd.prog 94 #[] w (KeyPost EE w) := by
  have hfr := (Fr.start w).any (ks 0) 23 32 (ks_size 0) (g := w.heap.size) rfl
  rw [ks_zero] at hfr
  have HFR := Lib.hid hfr
  clear hfr
  have hb0 := bytesOf_any EE
  rw [show es EE = #[.int .u64 18446744073709551613, .int .u64 18446744073709551615, .int .u64 18446744073709551615, .int .u64 1152921504606846975] from es_of_num4 rootPower_num.symm (by decide) (by decide) (by decide) (by decide)] at hb0
  go_enter Tryd.func94, Tryd.ntmps94
  go_wp2_with (fail)
  refine (hb0 _ (by decide +kernel)).mono ?_
  rintro e v ⟨rfl, hb⟩
  have hf := HFR.out.ext hb
  clear hb hb0
  obtain ⟨old, hold, kR⟩ := hf.old (g := w.heap.size) (t := 23) (n := 32) (by simp)
  have kS := kR.setRow_same (ks EE)
  have hB := below_setRow hf.below (show w.heap.size ≤ w.heap.size by omega) (ks EE)
  have hold' : old.size = (ks EE).size := by rw [hold, ks_size]
  have HS := Lib.hid kS
  have HB := Lib.hid hB
  have HO := Lib.hid hold'
  clear hf kS hB hold hold'
  go_wp2_with (first | (refine wpList_store_row rfl 23 (.tmp 0) (.tmp 2) rfl w.heap.size (ks EE) rfl rfl 23 old kR (info_ks EE) HO.out (ks_one _) ?_))
  exact key_end (g := w.heap.size) rfl rfl rfl HS.out HB.out
end Go.Proofs.YtcijaoihcckofaaDoor
namespace Go.Proofs.YtcijaoihcckofaaDoor
set_option linter.unusedVariables false
set_option linter.unusedSimpArgs false
open Go.RowKit
theorem Fr.pg {w W : World} {L : List (Nat × TypeId × Array Value)} {R : List (Nat × TypeId × Nat)} (h : Fr w W L R) (hp : PG w) : PG W := hp.ext h.below
/-- What Power has come to behind k rounds. -/
def pw (x e k : Nat) : Nat := x ^ (e / 2 ^ (256 - k)) % PP
theorem pw_lt (x e k : Nat) : pw x e k < PP := Nat.mod_lt _ (by rw [PP_eq]; omega)
theorem pw_zero (x e : Nat) (he : e < 115792089237316195423570985008687907853269984665640564039457584007913129639936) : pw x e 0 = 1 := by
  have h : e / 2 ^ (256 - 0) = 0 := Nat.div_eq_of_lt he
  unfold pw
  rw [h, Nat.pow_zero, PP_eq]
theorem pw_all (x e : Nat) : pw x e 256 = x ^ e % PP := by
  unfold pw
  rw [Nat.sub_self, Nat.pow_zero, Nat.div_one]
theorem half_step (e k : Nat) (hk : k < 256) : e / 2 ^ (256 - (k + 1)) = 2 * (e / 2 ^ (256 - k)) + e / 2 ^ (255 - k) % 2 := by
  have h1 : 256 - (k + 1) = 255 - k := by omega
  have h2 : 256 - k = (255 - k) + 1 := by omega
  rw [h1, h2, Nat.pow_succ, ← Nat.div_div_eq_div_mul]
  omega
theorem pw_no (x e k : Nat) (hk : k < 256) (hb : bitB e (255 - k) = false) : pw x e k * pw x e k % PP = pw x e (k + 1) := by
  unfold pw
  rw [half_step e k hk]
  have : e / 2 ^ (255 - k) % 2 = 0 := by
    unfold bitB at hb
    have := of_decide_eq_false hb
    omega
  rw [this, Nat.add_zero, ← Nat.mul_mod, ← Nat.pow_add]
  congr 2
  omega
theorem pw_yes (x e k : Nat) (hk : k < 256) (hb : bitB e (255 - k) = true) : pw x e k * pw x e k % PP * x % PP = pw x e (k + 1) := by
  unfold pw
  rw [half_step e k hk]
  have : e / 2 ^ (255 - k) % 2 = 1 := of_decide_eq_true hb
  rw [this, ← Nat.mul_mod, ← Nat.pow_add, Nat.mod_mul_mod, ← Nat.pow_succ]
  congr 2
  omega
set_option maxRecDepth 100000 in
set_option maxHeartbeats 2000000 in
theorem power_any (x e : Nat) (w : World) (hpg : PG w) (hx : x < PP) (he : e < 115792089237316195423570985008687907853269984665640564039457584007913129639936) :
    Calls Tryd.prog 72 #[.agg (es x), .agg (ks e)] w (ElemPost (x ^ e % PP) w) := by
  have hfr := (((Fr.start w).row (es x) 27 (g := w.heap.size) rfl).row (ks e) 23 (g := w.heap.size + 1) (by simp)).any (es 0) 27 4 rfl (g := w.heap.size + 1 + 1) (by simp)
  rw [es_zero] at hfr
  have HFR := Lib.hid hfr
  have HPG := Lib.hid hpg
  have hpz := pw_zero x e he
  have HPZ := Lib.hid hpz
  clear hfr hpg hpz he
  go_enter Tryd.func72, Tryd.ntmps72
  go_wp2_with (fail)
  refine (small_any 1 _ (by omega)).mono ?_
  rintro r v ⟨hr, hb⟩
  rw [es_small (by omega)] at hr
  subst hr
  have hf := (HFR.out.ext hb).row (es 1) 27 (g := v.heap.size) rfl
  rw [es_small (show 1 < 18446744073709551616 by omega)] at hf
  have hz : w.heap.size + 1 + 1 < v.heap.size := by have := hb.size; simp at this; omega
  have HF0 := Lib.hid hf
  clear hb hf
  go_wp2_with (fail)
  generalize hgp : v.heap.size = gp at *
  have HGP := Lib.hid hgp
  clear hgp
  go_loopw [8] (fun c wr => ∃ k : Nat, k ≤ 256 ∧ c = .int .i64 k ∧ Fr w wr [(gp, 27, es (pw x e k)), (w.heap.size + 1, 23, ks e), (w.heap.size, 27, es x)] [(w.heap.size + 1 + 1, 27, 4)]) (fun c _ => 256 - (intOf c).toNat)
  case atStart => exact ⟨0, by omega, rfl, by rw [HPZ.out, es_small (by omega)]; exact HF0.out⟩
  case round =>
    obtain ⟨k, hk, rfl, hF⟩ := hrel
    have hr := pw_lt x e k
    have k5 := hF.get (g := gp) (t := 27) (cs := es (pw x e k)) (by simp)
    by_cases hlt : k < 256
    · have hno := pw_no x e k hlt
      have hyes := pw_yes x e k hlt
      have hbit := bit_any e (255 - k)
      rw [show ((255 - k : Nat) : Int) = 255 - (k : Int) by omega] at hbit
      have hr2 : pw x e k * pw x e k % PP < PP := Nat.mod_lt _ (by rw [PP_eq]; omega)
      obtain ⟨r2, hq2⟩ : ∃ r2, r2 = pw x e k * pw x e k % PP := ⟨_, rfl⟩
      rw [← hq2] at hno hyes hr2
      have HQ := Lib.hid hq2
      have HN := Lib.hid hno
      have HY := Lib.hid hyes
      clear hq2
      generalize pw x e k = r0 at *
      have HF := Lib.hid hF
      clear hno hyes hF
      cases hbv : bitB e (255 - k)
      · rw [hbv] at hbit
        have hst := HN.out hbv
        have HST := Lib.hid hst
        have HBI := Lib.hid hbit
        clear hbv hst hbit
        go_wp2_with (first | (refine wpList_load_row rfl 27 (.tmp 5) rfl gp rfl 27 (es r0) (0, 0) _ k5 Tryd.underlying27 rfl info_elem ?_))
        refine (square_any r0 _ (HF.out.pg HPG.out) hr).mono ?_
        rintro r v1 ⟨hq, hb⟩
        rw [← HQ.out] at hq
        subst hq
        have f1 := HF.out.ext hb
        have k6 := f1.get (g := gp) (t := 27) (cs := es r0) (by simp)
        have f2 := f1.setRowHead (by simp <;> omega) (by simp <;> omega) (es r2) (by omega)
        have k7 := f2.get (g := w.heap.size + 1) (t := 23) (cs := ks e) (by simp)
        have F2 := Lib.hid f2
        clear f1 f2 hb k5
        go_wp2_with (first | (refine wpList_store_row rfl 27 (.tmp 5) (.tmp 12) rfl gp (es r2) rfl rfl 27 (es r0) k6 info_elem rfl (es_one _) ?_) | (refine wpList_load_row rfl 23 (.tmp 3) rfl (w.heap.size + 1) rfl 23 (ks e) (0, 0) _ k7 Tryd.underlying23 rfl (info_ks e) ?_))
        refine (HBI.out _ (by omega)).mono ?_
        rintro r v2 ⟨rfl, hb⟩
        have f3 := F2.out.ext hb
        have F3 := Lib.hid f3
        clear f3 hb k6 k7
        go_wp2_with (fail)
        go_roundw
        case rel => exact ⟨k + 1, by omega, by go_num, by rw [← HST.out]; exact F3.out⟩
        case measure => simp [intOf]; omega
      · rw [hbv] at hbit
        have hst := HY.out hbv
        have HST := Lib.hid hst
        have HBI := Lib.hid hbit
        clear hbv hst hbit
        go_wp2_with (first | (refine wpList_load_row rfl 27 (.tmp 5) rfl gp rfl 27 (es r0) (0, 0) _ k5 Tryd.underlying27 rfl info_elem ?_))
        refine (square_any r0 _ (HF.out.pg HPG.out) hr).mono ?_
        rintro r v1 ⟨hq, hb⟩
        rw [← HQ.out] at hq
        subst hq
        have f1 := HF.out.ext hb
        have k6 := f1.get (g := gp) (t := 27) (cs := es r0) (by simp)
        have f2 := f1.setRowHead (by simp <;> omega) (by simp <;> omega) (es r2) (by omega)
        have k7 := f2.get (g := w.heap.size + 1) (t := 23) (cs := ks e) (by simp)
        have F2 := Lib.hid f2
        clear f1 f2 hb k5
        go_wp2_with (first | (refine wpList_store_row rfl 27 (.tmp 5) (.tmp 12) rfl gp (es r2) rfl rfl 27 (es r0) k6 info_elem rfl (es_one _) ?_) | (refine wpList_load_row rfl 23 (.tmp 3) rfl (w.heap.size + 1) rfl 23 (ks e) (0, 0) _ k7 Tryd.underlying23 rfl (info_ks e) ?_))
        refine (HBI.out _ (by omega)).mono ?_
        rintro r v2 ⟨rfl, hb⟩
        have f3 := F2.out.ext hb
        have k8 := f3.get (g := gp) (t := 27) (cs := es r2) (by simp)
        have k9 := f3.get (g := w.heap.size) (t := 27) (cs := es x) (by simp)
        have F3 := Lib.hid f3
        clear f3 hb k6 k7
        go_wp2_with (first | (refine wpList_load_row rfl 27 (.tmp 5) rfl gp rfl 27 (es r2) (0, 0) _ k8 Tryd.underlying27 rfl info_elem ?_) | (refine wpList_load_row rfl 27 (.tmp 2) rfl w.heap.size rfl 27 (es x) (0, 0) _ k9 Tryd.underlying27 rfl info_elem ?_))
        refine (mul_any r2 x _ (F3.out.pg HPG.out) hr2 hx).mono ?_
        rintro r v3 ⟨hq, hb⟩
        rw [HST.out] at hq
        subst hq
        have f4 := F3.out.ext hb
        have ka := f4.get (g := gp) (t := 27) (cs := es r2) (by simp)
        have f5 := f4.setRowHead (by simp <;> omega) (by simp <;> omega) (es (pw x e (k + 1))) (by omega)
        have F5 := Lib.hid f5
        clear f4 f5 hb k8 k9
        go_wp2_with (first | (refine wpList_store_row rfl 27 (.tmp 5) (.tmp 19) rfl gp (es (pw x e (k + 1))) rfl rfl 27 (es r2) ka info_elem rfl (es_one _) ?_))
        go_roundw
        case rel => exact ⟨k + 1, by omega, by go_num, F5.out⟩
        case measure => simp [intOf]; omega
    · obtain rfl : k = 256 := by omega
      rw [pw_all] at hF k5
      obtain ⟨old, hold, kR⟩ := hF.old (g := w.heap.size + 1 + 1) (t := 27) (n := 4) (by simp)
      generalize x ^ e % PP = r at *
      have kS := kR.setRow_same (es r)
      have hB := below_setRow hF.below (show w.heap.size ≤ w.heap.size + 1 + 1 by omega) (es r)
      have HS := Lib.hid kS
      have HB := Lib.hid hB
      have HO := Lib.hid hold
      clear hF kS hB hold hr
      go_wp2_with (first | (refine wpList_load_row rfl 27 (.tmp 5) rfl gp rfl 27 (es r) (0, 0) _ k5 Tryd.underlying27 rfl info_elem ?_) | (refine wpList_store_row rfl 27 (.tmp 4) (.tmp 21) rfl (w.heap.size + 1 + 1) (es r) rfl rfl 27 old kR info_elem HO.out (es_one _) ?_))
      exact elem_end (g := w.heap.size + 1 + 1) rfl rfl rfl HS.out HB.out
end Go.Proofs.YtcijaoihcckofaaDoor
namespace Go.Proofs.YtcijaoihcckofaaDoor
set_option linter.unusedVariables false
set_option linter.unusedSimpArgs false
set_option maxRecDepth 100000
open Go.RowKit
theorem select_no (x y : Nat) (w : World) : Calls Tryd.prog 46 #[.agg (es x), .agg (es y), .bool false] w (ElemPost x w) := select_any x y false w
theorem select_yes (x y : Nat) (w : World) : Calls Tryd.prog 46 #[.agg (es x), .agg (es y), .bool true] w (ElemPost y w) := select_any x y true w
end Go.Proofs.YtcijaoihcckofaaDoor
namespace Go.Proofs.YtcijaoihcckofaaDoor
set_option linter.unusedVariables false
set_option linter.unusedSimpArgs false
open Go.RowKit
/-- An element's cells. -/
def ev (x : Fin PP) : Array Value := es x.val
theorem ev_size (x : Fin PP) : (ev x).size = 4 := rfl
theorem ev_one (x : Fin PP) : (ev x).all (·.oneCell') = true := es_one _
theorem info_ev (x : Fin PP) : (Tryd.prog.info? 27).map (·.size) = some (ev x).size := info_elem
def EPost (x : Fin PP) (w : World) (e : Ending) (w' : World) : Prop := e = .returned (.agg (ev x)) ∧ Below w.heap.size w w'
def BPost (b : Bool) (w : World) (e : Ending) (w' : World) : Prop := e = .returned (.bool b) ∧ Below w.heap.size w w'
section
variable (x y : Fin PP) (w : World)
theorem addF (hp : PG w) : Calls Tryd.prog 35 #[.agg (ev x), .agg (ev y)] w (EPost (x + y) w) := add_any x.val y.val w hp x.isLt y.isLt
theorem subF (hp : PG w) : Calls Tryd.prog 37 #[.agg (ev x), .agg (ev y)] w (EPost (x - y) w) := by
  have h := sub_any x.val y.val w hp x.isLt y.isLt
  rw [Nat.add_comm] at h
  exact h
theorem mulF (hp : PG w) : Calls Tryd.prog 36 #[.agg (ev x), .agg (ev y)] w (EPost (x * y) w) := mul_any x.val y.val w hp x.isLt y.isLt
theorem squareF (hp : PG w) : Calls Tryd.prog 75 #[.agg (ev x)] w (EPost (x * x) w) := square_any x.val w hp x.isLt
theorem negF (hp : PG w) : Calls Tryd.prog 47 #[.agg (ev x)] w (EPost (-x) w) := neg_any x.val w hp x.isLt
theorem powerF (e : Nat) (hp : PG w) (he : e < 115792089237316195423570985008687907853269984665640564039457584007913129639936) : Calls Tryd.prog 72 #[.agg (ev x), .agg (ks e)] w (EPost (x ^ e) w) := by
  have h := power_any x.val e w hp x.isLt he
  rw [← fp_pow_val] at h
  exact h
theorem equalF : Calls Tryd.prog 63 #[.agg (ev x), .agg (ev y)] w (BPost (decide (x = y)) w) := by
  have h := equal_any x.val y.val w x.isLt y.isLt
  have e : decide (x.val = y.val) = decide (x = y) := by
    rw [Bool.eq_iff_iff]
    simp [Fin.ext_iff]
  rw [e] at h
  exact h
theorem equal_yes {x y : Fin PP} (h : x = y) (w : World) : Calls Tryd.prog 63 #[.agg (ev x), .agg (ev y)] w (BPost true w) := by
  have := equalF x y w
  rw [decide_eq_true h] at this
  exact this
theorem equal_no {x y : Fin PP} (h : ¬ x = y) (w : World) : Calls Tryd.prog 63 #[.agg (ev x), .agg (ev y)] w (BPost false w) := by
  have := equalF x y w
  rw [decide_eq_false h] at this
  exact this
theorem oddF : Calls Tryd.prog 58 #[.agg (ev x)] w (BPost (decide (x.val % 2 = 1)) w) := odd_any x.val w
theorem odd_yes {x : Fin PP} (h : x.val % 2 = 1) (w : World) : Calls Tryd.prog 58 #[.agg (ev x)] w (BPost true w) := by
  have := oddF x w
  rw [decide_eq_true h] at this
  exact this
theorem odd_no {x : Fin PP} (h : ¬ x.val % 2 = 1) (w : World) : Calls Tryd.prog 58 #[.agg (ev x)] w (BPost false w) := by
  have := oddF x w
  rw [decide_eq_false h] at this
  exact this
theorem selF_no : Calls Tryd.prog 46 #[.agg (ev x), .agg (ev y), .bool false] w (EPost x w) := select_no x.val y.val w
theorem selF_yes : Calls Tryd.prog 46 #[.agg (ev x), .agg (ev y), .bool true] w (EPost y w) := select_yes x.val y.val w
theorem bytesF : Calls Tryd.prog 39 #[.agg (ev x)] w (KeyPost x.val w) := bytes_any x.val w (PP_lt256 x.isLt)
end
/-- The number of a key's lowest 255 bits. -/
def ofK (n : Nat) : Fin PP := Fin.ofNat PP (n % 57896044618658097711785492504343953926634992332820282019728792003956564819968)
theorem ofF (n : Nat) (w : World) (hp : PG w) (hn : n < 115792089237316195423570985008687907853269984665640564039457584007913129639936) : Calls Tryd.prog 32 #[.agg (ks n)] w (EPost (ofK n) w) := of_any n w hp hn
/-- A small number. -/
def sm (n : Nat) : Fin PP := Fin.ofNat PP n
theorem smallF (n : Nat) (w : World) (hn : n < 18446744073709551616) : Calls Tryd.prog 34 #[.int .u64 (n : Int)] w (EPost (sm n) w) := by
  have h := small_any n w hn
  have e : n = (Fin.ofNat PP n).val := by
    show n = n % PP
    rw [Nat.mod_eq_of_lt (by rw [PP_eq]; omega)]
  rw [e] at h
  have h2 : ((Fin.ofNat PP n).val : Int) = (n : Int) := by rw [← e]
  rw [h2] at h
  exact h
theorem fourth_num : num4 18446744073709551611 18446744073709551615 18446744073709551615 2305843009213693951 = 2 * EE + 1 := by decide +kernel
theorem two_pow_II : sm 2 ^ (2 * EE + 1) = II := II_eq
set_option maxHeartbeats 1000000 in
theorem rootI_any (w : World) (hpg : PG w) : Calls Tryd.prog 95 #[] w (EPost II w) := by
  have hfr := (Fr.start w).any (es 0) 27 4 rfl (g := w.heap.size) rfl
  rw [es_zero] at hfr
  have HFR := Lib.hid hfr
  have HPG := Lib.hid hpg
  clear hfr hpg
  have hb0 := bytesOf_any (2 * EE + 1)
  rw [show es (2 * EE + 1) = #[.int .u64 18446744073709551611, .int .u64 18446744073709551615, .int .u64 18446744073709551615, .int .u64 2305843009213693951] from es_of_num4 fourth_num.symm (by decide) (by decide) (by decide) (by decide)] at hb0
  have HB0 := Lib.hid hb0
  clear hb0
  go_enter Tryd.func95, Tryd.ntmps95
  go_wp2_with (fail)
  refine (smallF 2 _ (by omega)).mono ?_
  rintro e v ⟨rfl, hb⟩
  have hf := HFR.out.ext hb
  have HF := Lib.hid hf
  clear hb hf
  go_wp2_with (fail)
  refine (HB0.out _ (by decide +kernel)).mono ?_
  rintro e v2 ⟨rfl, hb⟩
  have hf := HF.out.ext hb
  have HF2 := Lib.hid hf
  clear hb hf
  go_wp2_with (fail)
  refine (powerF _ _ _ (HF2.out.pg HPG.out) (by decide +kernel)).mono ?_
  rintro e v3 ⟨he, hb⟩
  rw [two_pow_II] at he
  subst he
  have hf := HF2.out.ext hb
  clear hb
  obtain ⟨old, hold, kR⟩ := hf.old (g := w.heap.size) (t := 27) (n := 4) (by simp)
  have kS := kR.setRow_same (ev II)
  have hB := below_setRow hf.below (show w.heap.size ≤ w.heap.size by omega) (ev II)
  have HS := Lib.hid kS
  have HB := Lib.hid hB
  have HO := Lib.hid hold
  clear hf kS hB hold
  go_wp2_with (first | (refine wpList_store_row rfl 27 (.tmp 0) (.tmp 4) rfl w.heap.size (ev II) rfl rfl 27 old kR (info_ev _) HO.out (ev_one _) ?_))
  exact elem_end (g := w.heap.size) rfl rfl rfl HS.out HB.out
end Go.Proofs.YtcijaoihcckofaaDoor
namespace Go.Proofs.YtcijaoihcckofaaDoor
set_option linter.unusedVariables false
set_option linter.unusedSimpArgs false
set_option maxRecDepth 100000
open Go.ChangeShapes Go.WideShapes Go.ChangeAt Go.RowKit
theorem own : ownKnob Tryd.prog.godebug = none := by kernel_rfl
theorem laidOut : laidOutB Tryd.prog = true := by kernel_rfl
/-- The number of bytes. -/
def numL : List Nat → Nat
  | [] => 0
  | b :: r => b + 256 * numL r
theorem numL_dig : ∀ (l : List Nat), (∀ b ∈ l, b < 256) → ∀ i, i < l.length → some (numL l / 256 ^ i % 256) = l[i]?
  | [], _, i, h => absurd h (by simp)
  | b :: r, hl, 0, _ => by
    have hb := hl b (by simp)
    simp [numL]
    omega
  | b :: r, hl, i + 1, h => by
    have hb := hl b (by simp)
    have ih := numL_dig r (fun c hc => hl c (by simp [hc])) i (by simpa using h)
    have e : (b + 256 * numL r) / 256 ^ (i + 1) = numL r / 256 ^ i := by
      rw [Nat.pow_succ', ← Nat.div_div_eq_div_mul]
      congr 1
      omega
    show some ((b + 256 * numL r) / 256 ^ (i + 1) % 256) = (b :: r)[i + 1]?
    rw [e, ih]
    simp
theorem numL_lt : ∀ (l : List Nat), (∀ b ∈ l, b < 256) → numL l < 256 ^ l.length
  | [], _ => by simp [numL]
  | b :: r, hl => by
    have hb := hl b (by simp)
    have ih := numL_lt r (fun c hc => hl c (by simp [hc]))
    rw [List.length_cons, Nat.pow_succ]
    unfold numL
    omega
theorem kb_numL {l : List Nat} (h : l.length = 32) (hl : ∀ b ∈ l, b < 256) : kb (numL l) = l := by
  apply List.ext_getElem?
  intro i
  by_cases hi : i < 32
  · rw [kb_get _ hi, numL_dig l hl i (by omega)]
  · rw [List.getElem?_eq_none (by rw [kb_len]; omega), List.getElem?_eq_none (by omega)]
section
variable {H : Type} {enc : TypeId × Value → H}
theorem cells_key : Tryd.prog.cellsOf 23 = 32 := by kernel_rfl
theorem cells_u8 : Tryd.prog.cellsOf 5 = 1 := by kernel_rfl
def natOf : Value → Nat
  | .int _ n => n.toNat
  | _ => 0
theorem key_open {W : World} {base : Nat} {v : Value} {d : DataW H} {p : List MemPlace} (hv : Value.okWide Tryd.prog W .any base 23 v) (h : DataW.Trod enc Tryd.prog W 0 (fun _ => true) true 23 v d p) :
    ∃ n, v = .agg (ks n) ∧ n < 115792089237316195423570985008687907853269984665640564039457584007913129639936 := by
  obtain ⟨cs, rfl, hsz, _⟩ : ∃ cs, v = .agg cs ∧ cs.size = Tryd.prog.cellsOf 23 ∧ Row.okWide Tryd.prog W .any base 23 cs := by
    simpa [Value.okWide, Tryd.underlying23] using hv
  rw [cells_key] at hsz
  obtain ⟨fuel, hf⟩ := h
  obtain ⟨xs, m, rfl, hx, hlen, hn, hel⟩ := DataW.trod_array Tryd.underlying23 hf
  obtain ⟨l⟩ := cs
  have hl32 : l.length = 32 := by simpa using hsz
  have hcell : ∀ i, i < 32 → ∃ b : Nat, l[i]? = some (.int .u8 (b : Int)) ∧ b < 256 := by
    intro i hi
    have h1 := hel i hi
    rw [cells_u8, Nat.mul_one] at h1
    have hxi : xs[i]? = some xs[i] := List.getElem?_eq_getElem (by omega)
    rw [hxi] at h1
    obtain ⟨k, e1, e2, e3⟩ := DataW.trod_int Tryd.underlying5 h1
    have hli : l[i]? = some l[i] := List.getElem?_eq_getElem (by omega)
    have hd : (l.drop i).take 1 = [l[i]] := by
      rw [List.drop_eq_getElem_cons (by omega)]
      rfl
    have hv : l[i] = .int .u8 k := by
      have : (l.drop i).take 1 = [.int .u8 k] := e1
      rw [hd] at this
      simpa using this
    have hk : 0 ≤ k ∧ k < 256 := by
      have := e3
      simp [Lit.wf, IntKind.min, IntKind.max, IntKind.signed, IntKind.bits] at this
      omega
    obtain ⟨b, rfl⟩ := Int.eq_ofNat_of_zero_le hk.1
    exact ⟨b, by rw [hli, hv], by omega⟩
  have hmap : l = (l.map natOf).map (nc .u8) := by
    apply List.ext_getElem?
    intro i
    by_cases hi : i < 32
    · obtain ⟨b, hb, _⟩ := hcell i hi
      rw [List.getElem?_map, List.getElem?_map, hb]
      rfl
    · rw [List.getElem?_eq_none (by omega), List.getElem?_eq_none (by simp; omega)]
  have hlt : ∀ b ∈ l.map natOf, b < 256 := by
    intro b hb
    obtain ⟨x, hx, rfl⟩ := List.mem_map.1 hb
    obtain ⟨i, hi, rfl⟩ := List.getElem_of_mem hx
    obtain ⟨c, hc, hc2⟩ := hcell i (by omega)
    rw [List.getElem?_eq_getElem hi] at hc
    injection hc with hc
    rw [hc]
    exact hc2
  refine ⟨numL (l.map natOf), ?_, ?_⟩
  · rw [ks, kb_numL (by simp [hl32]) hlt, ncs, ← hmap]
  · have := numL_lt (l.map natOf) hlt
    rw [List.length_map, hl32] at this
    exact this
end
def laidP : List (String × DataW Unit) := [("escutcheon/field.p", Rows.laid_escutcheon_field_p)]
theorem gP : Tryd.prog.globalNamed "escutcheon/field.p" = some 0 := by kernel_rfl
theorem tP : (Tryd.prog.globals[0]?).map (·.type) = some 25 := by kernel_rfl
theorem cells_u64 : Tryd.prog.cellsOf 24 = 1 := by kernel_rfl
theorem door_met (os : Os) (args : Array Value) : laidMetH Tryd.prog laidP ((World.doorLaid Tryd.prog 400 os).forCall (fun _ _ => 0) ⟨#[], args, []⟩).memory :=
  laidMetH_of_parts3 (fuel := 8) (laidMet_of_run' 8 (by kernel_rfl) (by kernel_rfl)) (by kernel_rfl) (by kernel_rfl)
theorem pg_of_laid {W : World} (h : laidMetH Tryd.prog laidP W) : PG W := by
  rw [MakeChecks.laidMetH_plain _ _ _ (by kernel_rfl)] at h
  obtain ⟨ps, ⟨g0, t0, cs0, f0, p0, q0, hg0, ht0, hv0, hd0, _, _⟩, _, _⟩ := h
  obtain rfl := Option.some.inj (gP.symm.trans hg0)
  obtain rfl := Option.some.inj (tP.symm.trans ht0)
  obtain ⟨xs, m1, rfl, hx1, hlen, hn3, hel⟩ := DataW.trod_array Tryd.underlying25 hd0
  have hc4 : Tryd.prog.cellsOf 25 = 4 := by kernel_rfl
  simp only [Prod.mk.injEq, Rows.laid_escutcheon_field_p, DataW.agg.injEq] at hx1
  have hcell : ∀ i : Nat, i < 4 → ∃ k : Int, cs0.toList[i]? = some (.int .u64 k) ∧ (xs.map (·.1))[i]? = some (.lit (.int .u64 k)) := by
    intro i hi
    have h1 := hel i hi
    rw [cells_u64, Nat.mul_one] at h1
    have hxi : xs[i]? = some xs[i] := List.getElem?_eq_getElem (by omega)
    rw [hxi] at h1
    obtain ⟨k, e1, e2, e3⟩ := DataW.trod_int Tryd.underlying24 h1
    have hl : i < cs0.toList.length := by rw [hlen, hc4]; omega
    have hd : (cs0.toList.drop i).take 1 = [cs0.toList[i]] := by
      rw [List.drop_eq_getElem_cons hl]
      rfl
    refine ⟨k, ?_, ?_⟩
    · have : (cs0.toList.drop i).take 1 = [.int .u64 k] := e1
      rw [hd] at this
      rw [List.getElem?_eq_getElem hl]
      simpa using this
    · rw [List.getElem?_map, hxi]
      simp [e2]
  have hat : ∀ (i : Nat) (k : Int), i < 4 → [DataW.lit (H := Unit) (.int .u64 18446744073709551597), .lit (.int .u64 18446744073709551615), .lit (.int .u64 18446744073709551615), .lit (.int .u64 9223372036854775807)][i]? = some (.lit (.int .u64 k)) → W.cell? ⟨0, i, none⟩ = some (.int .u64 k) := by
    intro i k hi hk
    obtain ⟨k', h1, h2⟩ := hcell i hi
    rw [← hx1.1] at h2
    rw [hk] at h2
    injection h2 with h2
    injection h2 with h2
    injection h2 with h2 h3
    subst h3
    have := World.var?_cell hg0 hv0 i
    rw [this]
    rw [← h1]
    simp
  have c0 := hat 0 _ (by omega) rfl
  exact ⟨block_lt_of_cell c0, c0, hat 1 _ (by omega) rfl, hat 2 _ (by omega) rfl, hat 3 _ (by omega) rfl⟩
end Go.Proofs.YtcijaoihcckofaaDoor
namespace Go.Proofs.YtcijaoihcckofaaDoor
set_option linter.unusedVariables false
set_option linter.unusedSimpArgs false
open Go Go.RowKit
abbrev Env := List (Nat × Value)
abbrev Hep := List (Nat × TypeId × Array Value)
/-- In a, of n slots, the slots of e hold these values; in w, that came of w0, the blocks of h hold these rows. -/
structure St (n : Nat) (w0 : World) (a : Act) (w : World) (e : Env) (h : Hep) : Prop where
  size : a.tmps.size = n
  defers : a.defers = []
  env : ∀ p ∈ e, a.tmps[p.1]? = some p.2
  below : Below w0.heap.size w0 w
  heap : ∀ p ∈ h, Blk w p.1 p.2.1 p.2.2
  own : ∀ p ∈ h, w0.heap.size ≤ p.1
  apart : h.Pairwise (fun p q => p.1 ≠ q.1)
/-- An operand's value, by the slots that are known. -/
def look : Env → Nat → Option Value
  | [], _ => none
  | p :: r, k => bif Nat.beq p.1 k then some p.2 else look r k
def sev (e : Env) : Operand → Option Value
  | .tmp k => look e k
  | .const v => some v
  | .global g => some (.pointer (some ⟨g, 0, none⟩))
  | .func f => some (.func (.func f) #[] #[])
def sevs (e : Env) : List Operand → Option (List Value)
  | [] => some []
  | x :: r => match sev e x, sevs e r with
    | some v, some vs => some (v :: vs)
    | _, _ => none
theorem look_mem {e : Env} {k : Nat} {v : Value} (h : look e k = some v) : (k, v) ∈ e := by
  induction e with
  | nil => cases h
  | cons p r ih =>
    unfold look at h
    cases hb : Nat.beq p.1 k with
    | true =>
      rw [hb] at h
      have hk := Nat.eq_of_beq_eq_true hb
      injection h with h
      subst h
      subst hk
      exact List.mem_cons_self
    | false =>
      rw [hb] at h
      exact List.mem_cons_of_mem _ (ih h)
section
variable {P : Program} {n : Nat} {w0 w w' : World} {a : Act} {e : Env} {h : Hep} {Q : Exit → Act → World → Prop} {ops : Array Oper} {rest : List Oper} {o : Oper}
theorem St.slot (H : St n w0 a w e h) {k : Nat} {v : Value} (hv : look e k = some v) : a.tmps[k]? = some v := H.env _ (look_mem hv)
theorem St.ev (H : St n w0 a w e h) {x : Operand} {v : Value} (hv : sev e x = some v) : a.eval x = v := by
  cases x with
  | tmp k =>
    have := H.slot hv
    simp [Act.eval, this]
  | const u => exact Option.some.inj hv
  | global g => exact Option.some.inj hv
  | func f => exact Option.some.inj hv
theorem St.evs (H : St n w0 a w e h) : ∀ {xs : List Operand} {vs : List Value}, sevs e xs = some vs → xs.map a.eval = vs
  | [], vs, hv => Option.some.inj hv
  | x :: r, vs, hv => by
    unfold sevs at hv
    cases h1 : sev e x with
    | none => rw [h1] at hv; cases hv
    | some v =>
      cases h2 : sevs e r with
      | none => rw [h1, h2] at hv; cases hv
      | some us =>
        rw [h1, h2] at hv
        injection hv with hv
        rw [List.map_cons, H.ev h1, H.evs h2, hv]
/-- Beginning: the arguments' slots. -/
def fills : Nat → List Value → Env
  | _, [] => []
  | k, v :: r => (k, v) :: fills (k + 1) r
theorem fills_get {k : Nat} {vs : List Value} {p : Nat × Value} (hp : p ∈ fills k vs) : ∃ j, p.1 = k + j ∧ vs[j]? = some p.2 := by
  induction vs generalizing k with
  | nil => cases hp
  | cons v r ih =>
    rcases List.mem_cons.1 hp with rfl | hp
    · exact ⟨0, rfl, rfl⟩
    · obtain ⟨j, h1, h2⟩ := ih hp
      exact ⟨j + 1, by omega, h2⟩
theorem St.start (vs : List Value) (n : Nat) (w : World) (hn : vs.length ≤ n) : St n w { tmps := vs.toArray ++ Array.replicate (n - vs.toArray.size) undef, defers := [] } w (fills 0 vs) [] := by
  refine ⟨?_, rfl, fun p hp => ?_, Below.refl _ _, (fun p hp => by cases hp), (fun p hp => by cases hp), List.Pairwise.nil⟩
  · simp
    omega
  · obtain ⟨j, h1, h2⟩ := fills_get hp
    have hj : j < vs.length := (List.getElem?_eq_some_iff.1 h2).1
    rw [h1, Nat.zero_add]
    dsimp only
    rw [Array.getElem?_append_left (by simpa using hj)]
    simpa using h2
/-- A function's body. -/
theorem calls_st {f : FuncId} {fn : Func} {c : Code} {vs : List Value} {R : Ending → World → Prop} (n : Nat) (hf : P.funcs[f]? = some fn) (hb : fn.body = some c) (hn : fn.ntmps = n) (hl : Nat.ble vs.length n = true)
    (hc : ∀ a W, St n w a W (fills 0 vs) [] → c.wp P (bodyPost P fn R) a W) : Calls P f vs.toArray w R := by
  subst hn
  exact calls_of_wp hf hb (hc _ _ (St.start vs _ w (Nat.le_of_ble_eq_true hl)))
theorem St.put (H : St n w0 a w e h) {d : Nat} (v : Value) (hd : Nat.blt d n = true) (hf : e.all (fun p => !Nat.beq p.1 d) = true) : St n w0 (a.put (some d) v) w ((d, v) :: e) h := by
  have hd' : d < a.tmps.size := by rw [H.size]; simpa [Nat.blt_eq] using hd
  refine ⟨by simp [Act.put, H.size], H.defers, fun p hp => ?_, H.below, H.heap, H.own, H.apart⟩
  rcases List.mem_cons.1 hp with rfl | hp
  · show (a.tmps.setIfInBounds d v)[d]? = some v
    simp [hd']
  · have hne : d ≠ p.1 := by
      have := List.all_eq_true.1 hf p hp
      intro e1
      rw [e1, Nat.beq_refl] at this
      cases this
    show (a.tmps.setIfInBounds d v)[p.1]? = some p.2
    rw [Array.getElem?_setIfInBounds_ne hne]
    exact H.env p hp
theorem St.call (H : St n w0 a w e h) (hb : Below w.heap.size w w') : St n w0 a w' e h :=
  ⟨H.size, H.defers, H.env, H.below.trans (hb.mono H.below.size), fun p hp => (H.heap p hp).below hb (H.heap p hp).lt, H.own, H.apart⟩
theorem St.drew (H : St n w0 a w e h) : St n w0 a w.drew e h := ⟨H.size, H.defers, H.env, H.below.drew, H.heap, H.own, H.apart⟩
theorem St.alloc (H : St n w0 a w e h) (cs : Array Value) (t : TypeId) : St n w0 a (w.alloc (.cells cs t)) e ((w.heap.size, t, cs) :: h) := by
  refine ⟨H.size, H.defers, H.env, H.below.alloc H.below.size _, fun p hp => ?_, fun p hp => ?_, List.pairwise_cons.2 ⟨fun p hp => ?_, H.apart⟩⟩
  · rcases List.mem_cons.1 hp with rfl | hp
    · exact Blk.new _ _ _
    · exact (H.heap p hp).alloc _
  · rcases List.mem_cons.1 hp with rfl | hp
    · exact H.below.size
    · exact H.own p hp
  · exact Nat.ne_of_gt (H.heap p hp).lt
theorem setAt_mem {h : Hep} {k : Nat} {x : Nat × TypeId × Array Value} {p : Nat × TypeId × Array Value} (hp : p ∈ h.set k x) : p = x ∨ ∃ j, j ≠ k ∧ h[j]? = some p := by
  obtain ⟨j, hj⟩ := List.mem_iff_getElem?.1 hp
  by_cases e : j = k
  · subst e
    left
    have hl : j < h.length := by
      have := (List.getElem?_eq_some_iff.1 hj).1
      simpa using this
    rw [List.getElem?_set_self hl] at hj
    exact (Option.some.inj hj).symm
  · right
    exact ⟨j, e, by rw [List.getElem?_set_ne (Ne.symm e)] at hj; exact hj⟩
theorem pw_ne {h : Hep} (hp : h.Pairwise (fun p q => p.1 ≠ q.1)) {i j : Nat} (hij : i ≠ j) {x y : Nat × TypeId × Array Value} (hx : h[i]? = some x) (hy : h[j]? = some y) : x.1 ≠ y.1 := by
  obtain ⟨hi, rfl⟩ := List.getElem?_eq_some_iff.1 hx
  obtain ⟨hj, rfl⟩ := List.getElem?_eq_some_iff.1 hy
  rcases Nat.lt_or_ge i j with hl | hl
  · exact List.pairwise_iff_getElem.1 hp i j hi hj hl
  · exact Ne.symm (List.pairwise_iff_getElem.1 hp j i hj hi (by omega))
theorem pw_of {h : Hep} (hp : ∀ (i j : Nat) (x y : Nat × TypeId × Array Value), i < j → h[i]? = some x → h[j]? = some y → x.1 ≠ y.1) : h.Pairwise (fun p q => p.1 ≠ q.1) :=
  List.pairwise_iff_getElem.2 fun i j hi hj hl => hp i j _ _ hl (List.getElem?_eq_getElem hi) (List.getElem?_eq_getElem hj)
/-- A block's row is written, whatever of it: f is what becomes of a world, c what the row becomes. -/
theorem St.write (H : St n w0 a w e h) {k g : Nat} {t : TypeId} {cs c : Array Value} (hk : h[k]? = some (g, t, cs)) (hs : Blk w' g t c) (hb : Below w0.heap.size w0 w') (ho : ∀ (b : Nat) (t' : TypeId) (d : Array Value), b ≠ g → Blk w b t' d → Blk w' b t' d) :
    St n w0 a w' e (h.set k (g, t, c)) := by
  refine ⟨H.size, H.defers, H.env, hb, fun p hp => ?_, fun p hp => ?_, pw_of fun i j x y hl hx hy => ?_⟩
  · rcases setAt_mem hp with rfl | ⟨j, hj, hp⟩
    · exact hs
    · exact ho _ _ _ (pw_ne H.apart hj hp hk) (H.heap p (List.mem_iff_getElem?.2 ⟨j, hp⟩))
  · rcases setAt_mem hp with rfl | ⟨j, hj, hp⟩
    · exact H.own (g, t, cs) (List.mem_iff_getElem?.2 ⟨k, hk⟩)
    · exact H.own p (List.mem_iff_getElem?.2 ⟨j, hp⟩)
  · have fst : ∀ (m : Nat) (z : Nat × TypeId × Array Value), (h.set k (g, t, c))[m]? = some z → ∃ u : Nat × TypeId × Array Value, h[m]? = some u ∧ u.1 = z.1 := by
      intro m z hz
      by_cases e1 : m = k
      · subst e1
        have hl : m < h.length := (List.getElem?_eq_some_iff.1 hk).1
        rw [List.getElem?_set_self hl] at hz
        exact ⟨_, hk, by rw [← Option.some.inj hz]⟩
      · rw [List.getElem?_set_ne (Ne.symm e1)] at hz
        exact ⟨_, hz, rfl⟩
    obtain ⟨u, hu, eu⟩ := fst i x hx
    obtain ⟨v, hv, ev⟩ := fst j y hy
    rw [← eu, ← ev]
    exact pw_ne H.apart (by omega) hu hv
theorem St.setRow (H : St n w0 a w e h) {k g : Nat} {t : TypeId} {cs : Array Value} (hk : h[k]? = some (g, t, cs)) (c : Array Value) : St n w0 a (w.setRow g c) e (h.set k (g, t, c)) := by
  have hm : (g, t, cs) ∈ h := List.mem_iff_getElem?.2 ⟨k, hk⟩
  exact H.write hk ((H.heap _ hm).setRow_same c) (below_setRow H.below (H.own _ hm) c) (fun b t' d hne hb => hb.setRow_other hne c)
/-- Cells that are written one after another. -/
def setV (cs : Array Value) (o : Nat) : List Value → Array Value
  | [] => cs
  | v :: r => setV (cs.setIfInBounds o v) (o + 1) r
theorem Blk.setV {g : Nat} {t : TypeId} : ∀ (vs : List Value) (o : Nat) (cs : Array Value) (W : World), Blk W g t cs → Blk (W.setCells g o vs) g t (setV cs o vs)
  | [], _, _, _, h => h
  | v :: r, o, cs, W, h => Blk.setV r (o + 1) _ _ (h.set_ o v)
theorem Blk.setCells_other {g b : Nat} {t : TypeId} {d : Array Value} (hne : b ≠ g) : ∀ (vs : List Value) (o : Nat) (W : World), Blk W b t d → Blk (W.setCells g o vs) b t d
  | [], _, _, h => h
  | v :: r, o, W, h => Blk.setCells_other hne r (o + 1) _ (h.far hne v)
theorem below_setCells {B g : Nat} {w0 : World} (hg : B ≤ g) : ∀ (vs : List Value) (o : Nat) (W : World), Below B w0 W → Below B w0 (W.setCells g o vs)
  | [], _, _, h => h
  | v :: r, o, W, h => below_setCells hg r (o + 1) _ (h.setCell hg v)
theorem St.setCells (H : St n w0 a w e h) {k g : Nat} {t : TypeId} {cs c : Array Value} (hk : h[k]? = some (g, t, cs)) (o : Nat) (vs : List Value) (hc : setV cs o vs = c) : St n w0 a (w.setCells g o vs) e (h.set k (g, t, c)) := by
  have hm : (g, t, cs) ∈ h := List.mem_iff_getElem?.2 ⟨k, hk⟩
  subst hc
  exact H.write hk (Blk.setV vs o cs w (H.heap _ hm)) (below_setCells (H.own _ hm) vs o w H.below) (fun b t' d hne hb => Blk.setCells_other hne vs o w hb)
/-- What is known may be told otherwise, or in part. -/
theorem St.sub (H : St n w0 a w e h) {e' : Env} {h' : Hep} (he : ∀ p ∈ e', p ∈ e) (hh : ∀ p ∈ h', p ∈ h) (hp : h'.Pairwise (fun p q => p.1 ≠ q.1)) : St n w0 a w e' h' :=
  ⟨H.size, H.defers, fun p hp => H.env p (he p hp), H.below, fun p hp => H.heap p (hh p hp), fun p hp => H.own p (hh p hp), hp⟩
def picks {α : Type} (l : List α) : List Nat → List α
  | [] => []
  | k :: r => match l[k]? with
    | some x => x :: picks l r
    | none => picks l r
theorem picks_get {α : Type} {l : List α} {ks : List Nat} {x : α} (hx : x ∈ picks l ks) : ∃ k ∈ ks, l[k]? = some x := by
  induction ks with
  | nil => cases hx
  | cons k r ih =>
    unfold picks at hx
    cases hk : l[k]? with
    | none =>
      rw [hk] at hx
      obtain ⟨j, hj, e⟩ := ih hx
      exact ⟨j, List.mem_cons_of_mem _ hj, e⟩
    | some y =>
      rw [hk] at hx
      rcases List.mem_cons.1 hx with rfl | hx
      · exact ⟨k, List.mem_cons_self, hk⟩
      · obtain ⟨j, hj, e⟩ := ih hx
        exact ⟨j, List.mem_cons_of_mem _ hj, e⟩
def rises : List Nat → Bool
  | [] => true
  | k :: r => r.all (fun j => Nat.blt k j) && rises r
theorem picks_pw {l : Hep} (hl : l.Pairwise (fun p q => p.1 ≠ q.1)) : ∀ {ks : List Nat}, rises ks = true → (picks l ks).Pairwise (fun p q => p.1 ≠ q.1)
  | [], _ => List.Pairwise.nil
  | k :: r, hr => by
    unfold rises at hr
    rw [Bool.and_eq_true] at hr
    unfold picks
    cases hk : l[k]? with
    | none => exact picks_pw hl hr.2
    | some y =>
      refine List.pairwise_cons.2 ⟨fun p hp => ?_, picks_pw hl hr.2⟩
      obtain ⟨j, hj, e⟩ := picks_get hp
      have := List.all_eq_true.1 hr.1 j hj
      rw [Nat.blt_eq] at this
      exact pw_ne hl (by omega) hk e
theorem St.pick (H : St n w0 a w e h) (es hs : List Nat) (hr : rises hs = true) : St n w0 a w (picks e es) (picks h hs) := by
  refine H.sub (fun p hp => ?_) (fun p hp => ?_) (picks_pw H.apart hr)
  · obtain ⟨k, _, hk⟩ := picks_get hp
    exact List.mem_iff_getElem?.2 ⟨k, hk⟩
  · obtain ⟨k, _, hk⟩ := picks_get hp
    exact List.mem_iff_getElem?.2 ⟨k, hk⟩
/-- It comes to the value v, and leaves what was there. -/
def Does (P : Program) (Q : Exit → Act → World → Prop) (n : Nat) (w0 : World) (e : Env) (h : Hep) (o : Oper) (v : Value) : Prop :=
  ∀ a w, St n w0 a w e h → o.wp P a w (fun a' w' => a' = a.put o.dst v ∧ Below w.heap.size w w') Q
/-- It comes to the value v, and to nothing else. -/
def Runs (P : Program) (n : Nat) (e : Env) (h : Hep) (o : Oper) (v : Value) : Prop := ∀ w0 a w, St n w0 a w e h → (execOp a.eval o).run P w = .ok (.value v) w
theorem Runs.does {v : Value} (hr : Runs P n e h o v) : Does P Q n w0 e h o v := fun a w H => by
  unfold Oper.wp
  rw [hr w0 a w H]
  exact ⟨rfl, Below.refl _ _⟩
theorem does_run {v : Value} (hv : ∀ a w, St n w0 a w e h → (execOp a.eval o).run P w = .ok (.value v) w) : Does P Q n w0 e h o v := fun a w H => by
  unfold Oper.wp
  rw [hv a w H]
  exact ⟨rfl, Below.refl _ _⟩
theorem runs_move {x : Operand} {v : Value} (ho : o.op = .move x) (hx : sev e x = some v) : Runs P n e h o v := fun w0 a w H => by
  unfold execOp
  simp only [ho, H.ev hx, Sem.run_pure]
theorem does_move {x : Operand} {v : Value} (ho : o.op = .move x) (hx : sev e x = some v) : Does P Q n w0 e h o v := (runs_move ho hx).does
theorem runs_assign {x : Operand} {v : Value} (ho : o.op = .assign x) (hx : sev e x = some v) : Runs P n e h o v := fun w0 a w H => by
  unfold execOp
  simp only [ho, H.ev hx, Sem.run_pure]
theorem does_assign {x : Operand} {v : Value} (ho : o.op = .assign x) (hx : sev e x = some v) : Does P Q n w0 e h o v := (runs_assign ho hx).does
theorem runs_pick {c x y : Operand} {b : Bool} {v : Value} (ho : o.op = .pick c x y) (hc : sev e c = some (.bool b)) (hx : b = true → sev e x = some v) (hy : b = false → sev e y = some v) : Runs P n e h o v := fun w0 a w H => by
  unfold execOp
  cases b with
  | true => simp [ho, H.ev hc, H.ev (hx rfl), asBool]
  | false => simp [ho, H.ev hc, H.ev (hy rfl), asBool]
theorem does_pick {c x y : Operand} {b : Bool} {v : Value} (ho : o.op = .pick c x y) (hc : sev e c = some (.bool b)) (hx : b = true → sev e x = some v) (hy : b = false → sev e y = some v) : Does P Q n w0 e h o v := (runs_pick ho hc hx hy).does
theorem runs_extract {x : Operand} {k : Nat} {vs : Array Value} {v : Value} (ho : o.op = .extract x k) (hx : sev e x = some (.tuple vs)) (hv : ∀ W, (Instr.extract (.tuple vs) k).run P W = .ok v W) : Runs P n e h o v := fun w0 a w H => by
  unfold execOp
  simp only [ho, H.ev hx, Sem.run_bind, hv, Result.andThen_ok, Sem.run_pure]
theorem does_extract {x : Operand} {k : Nat} {vs : Array Value} {v : Value} (ho : o.op = .extract x k) (hx : sev e x = some (.tuple vs)) (hv : ∀ W, (Instr.extract (.tuple vs) k).run P W = .ok v W) : Does P Q n w0 e h o v := (runs_extract ho hx hv).does
theorem runs_unOp {op : UnOp} {t : TypeId} {x : Operand} {u v : Value} (ho : o.op = .unOp op t x) (hx : sev e x = some u) (hv : ∀ W, (Op.unary op u).run P W = .ok v W) : Runs P n e h o v := fun w0 a w H => by
  unfold execOp
  simp only [ho, H.ev hx, Sem.run_bind, hv, Result.andThen_ok, Sem.run_pure]
theorem does_unOp {op : UnOp} {t : TypeId} {x : Operand} {u v : Value} (ho : o.op = .unOp op t x) (hx : sev e x = some u) (hv : ∀ W, (Op.unary op u).run P W = .ok v W) : Does P Q n w0 e h o v := (runs_unOp ho hx hv).does
theorem does_binOp {op : BinOp} {t t2 : TypeId} {x y : Operand} {u1 u2 v : Value} (ho : o.op = .binOp op t x y t2) (hx : sev e x = some u1) (hy : sev e y = some u2)
    (hv : ∀ W, (do eqGuard op t x y u1 u2; binOp op t u1 u2 : Sem Value).run P W = .ok v W) : Does P Q n w0 e h o v := does_run fun a w H => by
  unfold execOp
  simp only [ho, H.ev hx, H.ev hy]
  rw [Sem.run_bind, hv w]
  rfl
theorem does_index {t : TypeId} {x y : Operand} {u1 u2 v : Value} (ho : o.op = .index t x y) (hx : sev e x = some u1) (hy : sev e y = some u2) (hv : ∀ W, (Instr.index t u1 u2).run P W = .ok v W) : Does P Q n w0 e h o v := does_run fun a w H => by
  unfold execOp
  simp only [ho, H.ev hx, H.ev hy, Sem.run_bind, hv, Result.andThen_ok, Sem.run_pure]
theorem does_convert {s t : TypeId} {x : Operand} {u v : Value} (ho : o.op = .convert s t x) (hx : sev e x = some u) (hv : ∀ W, (convert s t u).run P W = .ok v W) : Does P Q n w0 e h o v := does_run fun a w H => by
  unfold execOp
  simp only [ho, H.ev hx, Sem.run_bind, hv, Result.andThen_ok, Sem.run_pure]
theorem does_fieldAddr {t : TypeId} {x : Operand} {k : Nat} {u v : Value} (ho : o.op = .fieldAddr t x k) (hx : sev e x = some u) (hv : ∀ W, (Instr.fieldAt t u k).run P W = .ok v W) : Does P Q n w0 e h o v := does_run fun a w H => by
  unfold execOp
  simp only [ho, H.ev hx, Sem.run_bind, hv, Result.andThen_ok, Sem.run_pure]
theorem does_indexAddr {t : TypeId} {x y : Operand} {u1 u2 v : Value} (ho : o.op = .indexAddr t x y) (hx : sev e x = some u1) (hy : sev e y = some u2) (hv : ∀ W, (Instr.indexAt t u1 u2).run P W = .ok v W) : Does P Q n w0 e h o v := does_run fun a w H => by
  unfold execOp
  simp only [ho, H.ev hx, H.ev hy, Sem.run_bind, hv, Result.andThen_ok, Sem.run_pure]
/-- The parts of what is built. -/
def sevp (e : Env) : List (Nat × Operand) → Option (List (Nat × Value))
  | [] => some []
  | p :: r => match sev e p.2, sevp e r with
    | some v, some vs => some ((p.1, v) :: vs)
    | _, _ => none
theorem St.evp (H : St n w0 a w e h) : ∀ {ps : List (Nat × Operand)} {vs : List (Nat × Value)}, sevp e ps = some vs → ps.map (fun p => (p.1, a.eval p.2)) = vs
  | [], vs, hv => Option.some.inj hv
  | p :: r, vs, hv => by
    unfold sevp at hv
    cases h1 : sev e p.2 with
    | none => rw [h1] at hv; cases hv
    | some v =>
      cases h2 : sevp e r with
      | none => rw [h1, h2] at hv; cases hv
      | some us =>
        rw [h1, h2] at hv
        injection hv with hv
        rw [List.map_cons, H.ev h1, H.evp h2, hv]
theorem does_build {t : TypeId} {ps : List (Nat × Operand)} {vs : List (Nat × Value)} {v : Value} (ho : o.op = .build t ps.toArray) (hx : sevp e ps = some vs) (hv : ∀ W, (Instr.build t vs.toArray).run P W = .ok v W) : Does P Q n w0 e h o v := does_run fun a w H => by
  unfold execOp
  have e1 : ps.toArray.map (fun (p : Nat × Operand) => (p.1, a.eval p.2)) = vs.toArray := by rw [List.map_toArray, H.evp hx]
  simp only [ho]
  show (do let x ← Instr.build t (ps.toArray.map (fun (p : Nat × Operand) => (p.1, a.eval p.2))); pure (Next.value x) : Sem Next).run P w = _
  rw [e1, Sem.run_bind, hv]
  rfl
/-- A load of a whole block. -/
theorem does_load {t : TypeId} {x : Operand} {g k : Nat} {t' : TypeId} {cs : Array Value} {d : TypeDesc} (ho : o.op = .load t x) (hx : sev e x = some (.pointer (some ⟨g, 0, none⟩))) (hk : h[k]? = some (g, t', cs))
    (hu : P.underlying t = some d) (hd : (match d with | .struct _ | .array _ _ => true | _ => false) = true) (hi : (P.info? t).map (·.size) = some cs.size) : Does P Q n w0 e h o (.agg cs) := fun a w H =>
  wp_load_row t x ho g (H.ev hx) t' cs (0, 0) d (H.heap _ (List.mem_iff_getElem?.2 ⟨k, hk⟩)) hu hd hi ⟨rfl, Below.refl _ _⟩
/-- A load of a part of a block: what it yields is said of whatever world has that block. -/
theorem does_loadAt {t : TypeId} {x : Operand} {g f k : Nat} {t' : TypeId} {cs : Array Value} {v : Value} (ho : o.op = .load t x) (hx : sev e x = some (.pointer (some ⟨g, f, none⟩))) (hk : h[k]? = some (g, t', cs))
    (hv : ∀ W, Blk W g t' cs → (Instr.loadAt t (.pointer (some ⟨g, f, none⟩))).run P W = .ok v W) : Does P Q n w0 e h o v := does_run fun a w H => by
  unfold execOp
  simp only [ho, H.ev hx, Sem.run_bind, hv w (H.heap _ (List.mem_iff_getElem?.2 ⟨k, hk⟩)), Result.andThen_ok, Sem.run_pure]
/-- A function of the program's own, that has a body. -/
def Ours (P : Program) (f : FuncId) : Prop := ∃ fn, P.funcs[f]? = some fn ∧ (fn.name == "runtime.NumGoroutine" || fn.body.isNone) = false
theorem run_callFunc {f : FuncId} (hf : Ours P f) (args : Array Value) (W : World) : (callFunc f args).run P W = .ok (.enter f args) W := by
  obtain ⟨fn, h1, h2⟩ := hf
  rw [Bool.or_eq_false_iff] at h2
  unfold callFunc
  have n1 : fn.name ≠ "runtime.NumGoroutine" := by simpa using h2.1
  have n2 : fn.body ≠ none := by
    intro e
    have := h2.2
    rw [e] at this
    cases this
  simp [Sem.run_bind, h1, n1, n2]
theorem run_call {ρ : Operand → Value} {f : FuncId} {args : List Operand} {tys : Array TypeId} (ho : o.op = .call { callee := .value (.func f), args := args.toArray, argTypes := tys }) (hf : Ours P f) (hρ : ρ (.func f) = .func (.func f) #[] #[]) (W : World) :
    (execOp ρ o).run P W = .ok (.enter f (args.map ρ).toArray) W := by
  unfold execOp
  simp only [ho, resolve, hρ, Deferred.ofValue, List.map_toArray]
  simp [Sem.run_bind, Sem.run_pure, invoke, run_callFunc hf]
theorem does_call {f : FuncId} {args : List Operand} {tys : Array TypeId} {vs : List Value} {v : Value} (ho : o.op = .call { callee := .value (.func f), args := args.toArray, argTypes := tys }) (hf : Ours P f) (hx : sevs e args = some vs)
    (hc : ∀ W, Below w0.heap.size w0 W → Calls P f vs.toArray W (fun r W' => r = .returned v ∧ Below W.heap.size W W')) : Does P Q n w0 e h o v := fun a w H => by
  unfold Oper.wp
  rw [run_call ho hf rfl, H.evs hx, Oper.upon_enter]
  refine (hc w H.below).mono ?_
  rintro r W' ⟨rfl, hb⟩
  exact ⟨rfl, hb⟩
theorem pl_does {d : Nat} {v : Value} (hd : Does P Q n w0 e h o v) (hg : o.guard = none) (hdst : o.dst = some d) (hl : Nat.blt d n = true) (hf : e.all (fun p => !Nat.beq p.1 d) = true)
    (H : St n w0 a w e h) (next : ∀ a w, St n w0 a w ((d, v) :: e) h → wpList P ops Q rest a w) : wpList P ops Q (o :: rest) a w :=
  wpList_plain hg fun K hK => Oper.wp_mono (fun a' w' hw => by
    obtain ⟨rfl, hb⟩ := hw
    refine hK _ _ (next _ _ ?_)
    rw [hdst]
    exact (H.call hb).put v hl hf) (hd a w H)
theorem pl_skip {d : Nat} (hw : ∀ a w, St n w0 a w e h → Region.wanted o (yielded ops a.tmps) = false) (hdst : o.dst = some d) (hl : Nat.blt d n = true) (hf : e.all (fun p => !Nat.beq p.1 d) = true)
    (H : St n w0 a w e h) (next : ∀ a w, St n w0 a w ((d, undef) :: e) h → wpList P ops Q rest a w) : wpList P ops Q (o :: rest) a w :=
  wpList_step fun K hK => by
    rw [hw a w H]
    refine hK _ _ (next _ _ ?_)
    rw [hdst]
    exact H.put _ hl hf
theorem pl_does_g {d : Nat} {v : Value} (hd : Does P Q n w0 e h o v) (hw : ∀ a w, St n w0 a w e h → Region.wanted o (yielded ops a.tmps) = true) (hdst : o.dst = some d) (hl : Nat.blt d n = true) (hf : e.all (fun p => !Nat.beq p.1 d) = true)
    (H : St n w0 a w e h) (next : ∀ a w, St n w0 a w ((d, v) :: e) h → wpList P ops Q rest a w) : wpList P ops Q (o :: rest) a w :=
  wpList_step fun K hK => by
    rw [hw a w H, if_pos rfl]
    exact Oper.wp_mono (fun a' w' hw => by
      obtain ⟨rfl, hb⟩ := hw
      refine hK _ _ (next _ _ ?_)
      rw [hdst]
      exact (H.call hb).put v hl hf) (hd a w H)
/-- A new variable. -/
def News (P : Program) (o : Oper) (t : TypeId) (z : Array Value) : Prop := ∀ (a : Act) (w : World), (execOp a.eval o).run P w = .ok (.value (.pointer (some ⟨w.heap.size, 0, none⟩))) (w.alloc (.cells z t))
theorem pl_new {d : Nat} {t : TypeId} {z : Array Value} (hd : News P o t z) (hg : o.guard = none) (hdst : o.dst = some d) (hl : Nat.blt d n = true) (hf : e.all (fun p => !Nat.beq p.1 d) = true)
    (H : St n w0 a w e h) (next : ∀ (g : Nat) a w, St n w0 a w ((d, .pointer (some ⟨g, 0, none⟩)) :: e) ((g, t, z) :: h) → wpList P ops Q rest a w) : wpList P ops Q (o :: rest) a w :=
  wpList_plain hg fun K hK => by
    unfold Oper.wp
    rw [hd a w]
    refine hK _ _ (next w.heap.size _ _ ?_)
    rw [hdst]
    exact (H.alloc z t).put _ hl hf
/-- A variable for an argument. -/
theorem pl_box {d : Nat} {t : TypeId} {x : Operand} {v : Value} {z : Array Value} (ho : o.op = .box t x) (hx : sev e x = some v) (hr : ∀ W, (Instr.box t v).run P W = .ok (.pointer (some ⟨W.heap.size, 0, none⟩)) (W.alloc (.cells z t)))
    (hg : o.guard = none) (hdst : o.dst = some d) (hl : Nat.blt d n = true) (hf : e.all (fun p => !Nat.beq p.1 d) = true)
    (H : St n w0 a w e h) (next : ∀ (g : Nat) a w, St n w0 a w ((d, .pointer (some ⟨g, 0, none⟩)) :: e) ((g, t, z) :: h) → wpList P ops Q rest a w) : wpList P ops Q (o :: rest) a w :=
  wpList_plain hg fun K hK => by
    unfold Oper.wp execOp
    simp only [ho, H.ev hx, Sem.run_bind, hr, Result.andThen_ok, Sem.run_pure]
    refine hK _ _ (next w.heap.size _ _ ?_)
    rw [hdst]
    exact (H.alloc z t).put _ hl hf
/-- A store of a whole block. -/
theorem pl_store {t : TypeId} {x y : Operand} {g k : Nat} {t' : TypeId} {cs c : Array Value} (ho : o.op = .store t x y) (hx : sev e x = some (.pointer (some ⟨g, 0, none⟩))) (hy : sev e y = some (.agg c)) (hk : h[k]? = some (g, t', cs))
    (hi : (P.info? t).map (·.size) = some c.size) (hs : cs.size = c.size) (h1 : c.all (·.oneCell') = true) (hg : o.guard = none) (hdst : o.dst = none)
    (H : St n w0 a w e h) (next : ∀ a w, St n w0 a w e (h.set k (g, t', c)) → wpList P ops Q rest a w) : wpList P ops Q (o :: rest) a w :=
  wpList_plain hg fun K hK => wp_store_row t x y ho g c (H.ev hx) (H.ev hy) t' cs (H.heap _ (List.mem_iff_getElem?.2 ⟨k, hk⟩)) hi hs h1 (hK _ _ (next _ _ (by
    rw [hdst]
    exact H.setRow hk c)))
/-- A store of a part of a block. -/
theorem pl_storeAt {t : TypeId} {x y : Operand} {g f k : Nat} {t' : TypeId} {cs c : Array Value} {v : Value} {vs : List Value} (ho : o.op = .store t x y) (hx : sev e x = some (.pointer (some ⟨g, f, none⟩))) (hy : sev e y = some v) (hk : h[k]? = some (g, t', cs))
    (hr : ∀ W, Blk W g t' cs → (Instr.storeAt t (.pointer (some ⟨g, f, none⟩)) v).run P W = .ok () (W.setCells g f vs)) (hc : setV cs f vs = c) (hg : o.guard = none) (hdst : o.dst = none)
    (H : St n w0 a w e h) (next : ∀ a w, St n w0 a w e (h.set k (g, t', c)) → wpList P ops Q rest a w) : wpList P ops Q (o :: rest) a w :=
  wpList_plain hg fun K hK => by
    unfold Oper.wp execOp
    simp only [ho, H.ev hx, H.ev hy, Sem.run_bind, hr w (H.heap _ (List.mem_iff_getElem?.2 ⟨k, hk⟩)), Result.andThen_ok, Sem.run_pure]
    refine hK _ _ (next _ _ ?_)
    rw [hdst]
    exact H.setCells hk f vs hc
theorem pl_end (next : Q .normal a w) : wpList P ops Q [] a w := next
theorem rg_plain {id : Nat} {l : List Oper} (h : wpList P l.toArray Q l a w) : (Code.region id l.toArray false).wp P Q a w := wp_region_lit h
end
inductive Item where
  /-- It comes to v in slot d; it hangs on the values of the operations ps. -/
  | val (d : Nat) (v : Value) (ps : List Nat)
  /-- It comes to v in slot d, whatever the blocks hold: it may come behind some of the rest. -/
  | pur (d : Nat) (v : Value) (ps : List Nat)
  /-- It is not wanted. -/
  | off (d : Nat) (ps : List Nat)
  | new (d : Nat) (t : TypeId) (z : Array Value)
def Item.d : Item → Nat
  | .val d _ _ => d
  | .pur d _ _ => d
  | .off d _ => d
  | .new d _ _ => d
def Item.out (g : Nat) : Item → Value
  | .val _ v _ => v
  | .pur _ v _ => v
  | .off _ _ => undef
  | .new _ _ _ => .pointer (some ⟨g, 0, none⟩)
def outs (G : Nat → Nat) : Nat → List Item → Env
  | _, [] => []
  | k, it :: r => (it.d, it.out (G k)) :: outs G (k + 1) r
def newHep (G : Nat → Nat) : Nat → List Item → Hep
  | _, [] => []
  | k, .new d t z :: r => (G k, t, z) :: newHep G (k + 1) r
  | k, _ :: r => newHep G (k + 1) r
/-- The values of some operations. -/
def depE (plan : List Item) : List Nat → Env
  | [] => []
  | p :: r => match plan[p]? with
    | some (.val d v _) => (d, v) :: depE plan r
    | some (.pur d v _) => (d, v) :: depE plan r
    | some (.off d _) => (d, undef) :: depE plan r
    | _ => depE plan r
def Item.ps : Item → List Nat
  | .val _ _ ps => ps
  | .pur _ _ ps => ps
  | .off _ ps => ps
  | .new _ _ _ => []
/-- What is to be shown of each. -/
def Item.ob (P : Program) (ops : Array Oper) (Q : Exit → Act → World → Prop) (n : Nat) (w0 : World) (e : Env) (h : Hep) (plan : List Item) (o : Oper) : Item → Prop
  | .val d v ps => Does P Q n w0 (depE plan ps ++ e) h o v ∧ ∀ a w, St n w0 a w (depE plan ps ++ e) h → Region.wanted o (yielded ops a.tmps) = true
  | .pur d v ps => Runs P n (depE plan ps ++ e) [] o v ∧ o.guard = none
  | .off d ps => ∀ a w, St n w0 a w (depE plan ps ++ e) h → Region.wanted o (yielded ops a.tmps) = false
  | .new d t z => News P o t z ∧ o.guard = none
/-- The operations that one waits for. -/
def waits (o : Oper) : List Nat := (o.after.toList.filter (fun x => Region.binds .any x)).map (·.on)
def maskOf : List Nat → Nat
  | [] => 0
  | k :: r => Nat.lor (Nat.shiftLeft 1 k) (maskOf r)
def masks (ops : Array Oper) : List Nat := ops.toList.map (fun o => maskOf (waits o))
/-- All that they wait for, and what those wait for. -/
def closeM (ms : List Nat) : Nat → Nat → Nat
  | 0, S => S
  | i + 1, S => closeM ms i (bif Nat.testBit S i then Nat.lor S (ms.getD i 0) else S)
def distinct : List Nat → Bool
  | [] => true
  | k :: r => r.all (fun j => !Nat.beq j k) && distinct r
def downs : Nat → List Nat → Bool
  | _, [] => true
  | k, m :: r => Nat.blt m (Nat.shiftLeft 1 k) && downs (k + 1) r
end Go.Proofs.YtcijaoihcckofaaDoor
namespace Go.Proofs.YtcijaoihcckofaaDoor
set_option linter.unusedVariables false
set_option linter.unusedSimpArgs false
open Go Go.RowKit
theorem maskOf_bit {ks : List Nat} {j : Nat} : (maskOf ks).testBit j = true ↔ j ∈ ks := by
  induction ks with
  | nil => simp [maskOf]
  | cons k r ih =>
    show (Nat.lor (Nat.shiftLeft 1 k) (maskOf r)).testBit j = true ↔ _
    have e1 : Nat.lor (Nat.shiftLeft 1 k) (maskOf r) = (1 <<< k) ||| maskOf r := rfl
    rw [e1, Nat.testBit_or, Bool.or_eq_true, ih, List.mem_cons]
    have : ((1 <<< k).testBit j = true) ↔ j = k := by
      rw [Nat.shiftLeft_eq, Nat.one_mul, Nat.testBit_two_pow]
      simp only [decide_eq_true_eq]
      exact eq_comm
    rw [this]
section
variable {P : Program} {n : Nat} {w0 w w' : World} {a : Act} {e : Env} {h : Hep} {Q : Exit → Act → World → Prop} {ops : Array Oper} {plan : List Item} {ms : List Nat}
theorem masks_get {i : Nat} {o : Oper} (hm : masks ops = ms) (ho : ops[i]? = some o) : ms[i]? = some (maskOf (waits o)) := by
  subst hm
  unfold masks
  simp [ho]
theorem mem_waits {o : Oper} {j : Nat} : j ∈ waits o ↔ ∃ x ∈ o.after, Region.binds .any x = true ∧ x.on = j := by
  unfold waits
  simp only [List.mem_map, List.mem_filter, Array.mem_toList_iff]
  constructor
  · rintro ⟨x, ⟨h1, h2⟩, rfl⟩
    exact ⟨x, h1, h2, rfl⟩
  · rintro ⟨x, h1, h2, rfl⟩
    exact ⟨x, ⟨h1, h2⟩, rfl⟩
/-- What one waits for has come before it. -/
def Down (ops : Array Oper) (l : Array Bool) : Prop := ∀ i o, ops[i]? = some o → l.getD i false = true → ∀ x ∈ o.after, Region.binds .any x = true → l.getD x.on false = true
theorem size_of_listed {l : Array Bool} {i : Nat} (h : l.getD i false = true) : i < l.size := by
  apply Nat.lt_of_not_le
  intro hl
  simp [Array.getElem?_eq_none hl] at h
theorem close_listed {l : Array Bool} (hm : masks ops = ms) (hd : Down ops l) (hs : l.size = ops.size) : ∀ (k S : Nat), (∀ j, S.testBit j = true → l.getD j false = true) → ∀ j, (closeM ms k S).testBit j = true → l.getD j false = true
  | 0, S, h, j, hj => h j hj
  | k + 1, S, h, j, hj => by
    unfold closeM at hj
    cases hb : Nat.testBit S k with
    | false =>
      rw [hb] at hj
      exact close_listed hm hd hs k S h j hj
    | true =>
      rw [hb] at hj
      refine close_listed hm hd hs k _ (fun i hi => ?_) j hj
      have hi : (S ||| ms.getD k 0).testBit i = true := hi
      rw [Nat.testBit_or, Bool.or_eq_true] at hi
      rcases hi with hi | hi
      · exact h i hi
      · have hk := h k hb
        have hlt := size_of_listed hk
        rw [hs] at hlt
        have ho : ops[k]? = some ops[k] := Array.getElem?_eq_getElem hlt
        have hg := masks_get hm ho
        have e2 : ms.getD k 0 = maskOf (waits ops[k]) := by simp [hg]
        rw [e2, maskOf_bit, mem_waits] at hi
        obtain ⟨x, hx, hb2, rfl⟩ := hi
        exact hd k _ ho hk x hx hb2
theorem ready_waits {l : Array Bool} {i : Nat} (hm : masks ops = ms) (hr : i ∈ Region.ready .any ops l) : ∀ j, (ms.getD i 0).testBit j = true → l.getD j false = true := by
  obtain ⟨_, o, ho, hall⟩ := mem_ready.1 hr
  intro j hj
  have hg := masks_get hm ho
  have e2 : ms.getD i 0 = maskOf (waits o) := by simp [hg]
  rw [e2, maskOf_bit, mem_waits] at hj
  obtain ⟨x, hx, hb, rfl⟩ := hj
  exact hall x hx hb
theorem downs_get {k : Nat} {l : List Nat} (hl : downs k l = true) : ∀ j m, l[j]? = some m → ∀ i, m.testBit i = true → i < k + j := by
  induction l generalizing k with
  | nil => intro j m hj; cases hj
  | cons m0 r ih =>
    intro j m hj i hi
    unfold downs at hl
    rw [Bool.and_eq_true] at hl
    cases j with
    | zero =>
      injection hj with hj
      subst hj
      have h1 : m0 < 2 ^ k := by
        have := hl.1
        rw [Nat.blt_eq] at this
        have e1 : Nat.shiftLeft 1 k = 2 ^ k := by
          show 1 <<< k = _
          rw [Nat.shiftLeft_eq, Nat.one_mul]
        rwa [e1] at this
      apply Nat.lt_of_not_le
      intro hk
      have h2 : m0 < 2 ^ i := Nat.lt_of_lt_of_le h1 (Nat.pow_le_pow_right (by omega) hk)
      rw [Nat.testBit_lt_two_pow h2] at hi
      cases hi
    | succ j =>
      have := ih hl.2 j m hj i hi
      omega
/-- What is known in the midst. -/
structure Mid (plan : List Item) (n : Nat) (w0 : World) (e : Env) (h : Hep) (l : Array Bool) (G : Nat → Nat) (a : Act) (w : World) : Prop where
  base : St n w0 a w e h
  vals : ∀ j it, plan[j]? = some it → l.getD j false = true → a.tmps[it.d]? = some (it.out (G j))
  news : ∀ j d t z, plan[j]? = some (.new d t z) → l.getD j false = true → Blk w (G j) t z ∧ w0.heap.size ≤ G j ∧ ∀ p ∈ h, p.1 ≠ G j
  dist : ∀ j k d t z d' t' z', plan[j]? = some (.new d t z) → plan[k]? = some (.new d' t' z') → l.getD j false = true → l.getD k false = true → j ≠ k → G j ≠ G k
theorem outs_mem {G : Nat → Nat} {k : Nat} {r : List Item} {p : Nat × Value} (hp : p ∈ outs G k r) : ∃ (j : Nat) (it : Item), r[j]? = some it ∧ p = (it.d, it.out (G (k + j))) := by
  induction r generalizing k with
  | nil => cases hp
  | cons it r ih =>
    rcases List.mem_cons.1 hp with rfl | hp
    · exact ⟨0, it, rfl, rfl⟩
    · obtain ⟨j, it', h1, rfl⟩ := ih hp
      exact ⟨j + 1, it', h1, by rw [show k + (j + 1) = k + 1 + j by omega]⟩
theorem newHep_mem {G : Nat → Nat} {k : Nat} {r : List Item} {p : Nat × TypeId × Array Value} (hp : p ∈ newHep G k r) : ∃ (j d : Nat) (t : TypeId) (z : Array Value), r[j]? = some (.new d t z) ∧ p = (G (k + j), t, z) := by
  induction r generalizing k with
  | nil => cases hp
  | cons it r ih =>
    have go : p ∈ newHep G (k + 1) r → ∃ (j d : Nat) (t : TypeId) (z : Array Value), (it :: r)[j]? = some (.new d t z) ∧ p = (G (k + j), t, z) := fun hp => by
      obtain ⟨j, d, t, z, h1, rfl⟩ := ih hp
      exact ⟨j + 1, d, t, z, h1, by rw [show k + (j + 1) = k + 1 + j by omega]⟩
    cases it with
    | val d v ps => exact go hp
    | pur d v ps => exact go hp
    | off d ps => exact go hp
    | new d t z =>
      rcases List.mem_cons.1 hp with rfl | hp
      · exact ⟨0, d, t, z, rfl, rfl⟩
      · exact go hp
theorem newHep_pw {G : Nat → Nat} {k : Nat} {r : List Item} (hd : ∀ (i j d : Nat) (t : TypeId) (z : Array Value) (d' : Nat) (t' : TypeId) (z' : Array Value), r[i]? = some (.new d t z) → r[j]? = some (.new d' t' z') → i ≠ j → G (k + i) ≠ G (k + j)) : (newHep G k r).Pairwise (fun p q => p.1 ≠ q.1) := by
  induction r generalizing k with
  | nil => exact List.Pairwise.nil
  | cons it r ih =>
    have go : (newHep G (k + 1) r).Pairwise (fun p q => p.1 ≠ q.1) := ih fun i j d t z d' t' z' h1 h2 hne => by
      have := hd (i + 1) (j + 1) d t z d' t' z' h1 h2 (by omega)
      rw [show k + 1 + i = k + (i + 1) by omega, show k + 1 + j = k + (j + 1) by omega]
      exact this
    cases it with
    | val d v ps => exact go
    | pur d v ps => exact go
    | off d ps => exact go
    | new d t z =>
      refine List.pairwise_cons.2 ⟨fun p hp => ?_, go⟩
      obtain ⟨j, d', t', z', h1, rfl⟩ := newHep_mem hp
      have := hd 0 (j + 1) d t z d' t' z' rfl h1 (by omega)
      rw [show k + 1 + j = k + (j + 1) by omega]
      exact this
theorem Mid.all {l : Array Bool} {G : Nat → Nat} (H : Mid plan n w0 e h l G a w) (hl : ∀ i, i < plan.length → l.getD i false = true) : St n w0 a w (outs G 0 plan ++ e) (newHep G 0 plan ++ h) := by
  have lt : ∀ {j : Nat} {it : Item}, plan[j]? = some it → l.getD j false = true := fun hj => hl _ (List.getElem?_eq_some_iff.1 hj).1
  refine ⟨H.base.size, H.base.defers, fun p hp => ?_, H.base.below, fun p hp => ?_, fun p hp => ?_, List.pairwise_append.2 ⟨newHep_pw fun i j d t z d' t' z' h1 h2 hne => ?_, H.base.apart, fun p hp q hq => ?_⟩⟩
  · rcases List.mem_append.1 hp with hp | hp
    · obtain ⟨j, it, h1, rfl⟩ := outs_mem hp
      rw [Nat.zero_add]
      exact H.vals j it h1 (lt h1)
    · exact H.base.env p hp
  · rcases List.mem_append.1 hp with hp | hp
    · obtain ⟨j, d, t, z, h1, rfl⟩ := newHep_mem hp
      rw [Nat.zero_add]
      exact (H.news j d t z h1 (lt h1)).1
    · exact H.base.heap p hp
  · rcases List.mem_append.1 hp with hp | hp
    · obtain ⟨j, d, t, z, h1, rfl⟩ := newHep_mem hp
      rw [Nat.zero_add]
      exact (H.news j d t z h1 (lt h1)).2.1
    · exact H.base.own p hp
  · rw [Nat.zero_add, Nat.zero_add]
    exact H.dist i j d t z d' t' z' h1 h2 (lt h1) (lt h2) hne
  · obtain ⟨j, d, t, z, h1, rfl⟩ := newHep_mem hp
    rw [Nat.zero_add]
    exact Ne.symm ((H.news j d t z h1 (lt h1)).2.2 q hq)
theorem listed_set {l : Array Bool} {i j : Nat} (h : (l.setIfInBounds i true).getD j false = true) (hne : j ≠ i) : l.getD j false = true := by
  rw [getD_set_ne false (Ne.symm hne)] at h
  exact h
/-- One more has come to its value. -/
theorem Mid.put {l : Array Bool} {G : Nat → Nat} (H : Mid plan n w0 e h l G a w) {i : Nat} {it : Item} {v : Value} (hi : plan[i]? = some it) (hv : ∀ g, it.out g = v) (hnew : ∀ d t z, it ≠ .new d t z) (hlt : it.d < n) (he : ∀ p ∈ e, p.1 ≠ it.d)
    (hd : ∀ j jt, plan[j]? = some jt → j ≠ i → jt.d ≠ it.d) (hb : Below w.heap.size w w') : Mid plan n w0 e h (l.setIfInBounds i true) G (a.put (some it.d) v) w' := by
  have hlt' : it.d < a.tmps.size := by rw [H.base.size]; exact hlt
  have keep : ∀ k x, k ≠ it.d → a.tmps[k]? = some x → (a.put (some it.d) v).tmps[k]? = some x := fun k x hne hx => by
    show (a.tmps.setIfInBounds it.d v)[k]? = some x
    rw [Array.getElem?_setIfInBounds_ne (Ne.symm hne)]
    exact hx
  refine ⟨⟨by simp [Act.put, H.base.size], H.base.defers, fun p hp => keep _ _ (he p hp) (H.base.env p hp), H.base.below.trans (hb.mono H.base.below.size), fun p hp => (H.base.heap p hp).below hb (H.base.heap p hp).lt, H.base.own, H.base.apart⟩, fun j jt hj hl => ?_, fun j d t z hj hl => ?_, fun j k d t z d' t' z' hj hk hlj hlk hne => ?_⟩
  · by_cases hji : j = i
    · subst hji
      rw [hi] at hj
      injection hj with hj
      subst hj
      rw [hv]
      show (a.tmps.setIfInBounds it.d v)[it.d]? = some v
      simp [hlt']
    · exact keep _ _ (hd j jt hj hji) (H.vals j jt hj (listed_set hl hji))
  · have hji : j ≠ i := fun e1 => by
      subst e1
      rw [hi] at hj
      injection hj with hj
      exact hnew d t z hj
    obtain ⟨h1, h2, h3⟩ := H.news j d t z hj (listed_set hl hji)
    exact ⟨h1.below hb h1.lt, h2, h3⟩
  · have nj : ∀ k d t z, plan[k]? = some (.new d t z) → k ≠ i := fun k d t z hk e1 => by
      subst e1
      rw [hi] at hk
      injection hk with hk
      exact hnew d t z hk
    exact H.dist j k d t z d' t' z' hj hk (listed_set hlj (nj j d t z hj)) (listed_set hlk (nj k d' t' z' hk)) hne
/-- One more variable. -/
theorem Mid.more {l : Array Bool} {G : Nat → Nat} (H : Mid plan n w0 e h l G a w) {i d : Nat} {t : TypeId} {z : Array Value} (hi : plan[i]? = some (.new d t z)) (hlt : d < n) (he : ∀ p ∈ e, p.1 ≠ d)
    (hd : ∀ j jt, plan[j]? = some jt → j ≠ i → jt.d ≠ d) : Mid plan n w0 e h (l.setIfInBounds i true) (fun j => if j = i then w.heap.size else G j) (a.put (some d) (.pointer (some ⟨w.heap.size, 0, none⟩))) (w.alloc (.cells z t)) := by
  have hlt' : d < a.tmps.size := by rw [H.base.size]; exact hlt
  have keep : ∀ k x, k ≠ d → a.tmps[k]? = some x → (a.put (some d) (.pointer (some ⟨w.heap.size, 0, none⟩))).tmps[k]? = some x := fun k x hne hx => by
    show (a.tmps.setIfInBounds d _)[k]? = some x
    rw [Array.getElem?_setIfInBounds_ne (Ne.symm hne)]
    exact hx
  refine ⟨⟨by simp [Act.put, H.base.size], H.base.defers, fun p hp => keep _ _ (he p hp) (H.base.env p hp), H.base.below.alloc H.base.below.size _, fun p hp => (H.base.heap p hp).alloc _, H.base.own, H.base.apart⟩, fun j jt hj hl => ?_, fun j d' t' z' hj hl => ?_, fun j k d1 t1 z1 d2 t2 z2 hj hk hlj hlk hne => ?_⟩
  · by_cases hji : j = i
    · subst hji
      rw [hi] at hj
      injection hj with hj
      subst hj
      rw [if_pos rfl]
      show (a.tmps.setIfInBounds d _)[d]? = some _
      simp [hlt', Item.out]
    · rw [if_neg hji]
      exact keep _ _ (hd j jt hj hji) (H.vals j jt hj (listed_set hl hji))
  · by_cases hji : j = i
    · subst hji
      rw [hi] at hj
      injection hj with hj
      injection hj with h1 h2 h3
      subst h1 h2 h3
      rw [if_pos rfl]
      exact ⟨Blk.new _ _ _, H.base.below.size, fun p hp => Nat.ne_of_lt (H.base.heap p hp).lt⟩
    · rw [if_neg hji]
      obtain ⟨h1, h2, h3⟩ := H.news j d' t' z' hj (listed_set hl hji)
      exact ⟨h1.alloc _, h2, h3⟩
  · by_cases hji : j = i
    · by_cases hki : k = i
      · omega
      · rw [if_pos hji, if_neg hki]
        have := (H.news k d2 t2 z2 hk (listed_set hlk hki)).1.lt
        omega
    · by_cases hki : k = i
      · rw [if_neg hji, if_pos hki]
        have := (H.news j d1 t1 z1 hj (listed_set hlj hji)).1.lt
        omega
      · rw [if_neg hji, if_neg hki]
        exact H.dist j k d1 t1 z1 d2 t2 z2 hj hk (listed_set hlj hji) (listed_set hlk hki) hne
/-- How many of the first m have not come. -/
def left (l : Array Bool) : Nat → Nat
  | 0 => 0
  | m + 1 => left l m + (if l.getD m false = true then 0 else 1)
theorem left_le (l : Array Bool) : ∀ m, left l m ≤ m
  | 0 => Nat.le_refl _
  | m + 1 => by
    have := left_le l m
    unfold left
    split <;> omega
theorem left_zero {l : Array Bool} : ∀ {m : Nat}, left l m = 0 → ∀ i, i < m → l.getD i false = true
  | 0, _, i, hi => absurd hi (by omega)
  | m + 1, h, i, hi => by
    unfold left at h
    by_cases hm : l.getD m false = true
    · rw [if_pos hm] at h
      by_cases e1 : i = m
      · rw [e1]; exact hm
      · exact left_zero (m := m) (by omega) i (by omega)
    · rw [if_neg hm] at h
      omega
theorem left_mono {l : Array Bool} {i : Nat} : ∀ m, left (l.setIfInBounds i true) m ≤ left l m
  | 0 => Nat.le_refl _
  | m + 1 => by
    have := left_mono (l := l) (i := i) m
    unfold left
    by_cases hm : l.getD m false = true
    · rw [if_pos hm, if_pos (getD_set_true hm)]
      omega
    · rw [if_neg hm]
      split <;> omega
theorem left_set {l : Array Bool} {i : Nat} (hs : i < l.size) (hu : ¬ l.getD i false = true) : ∀ m, i < m → left (l.setIfInBounds i true) m + 1 ≤ left l m
  | 0, h => absurd h (by omega)
  | m + 1, h => by
    unfold left
    by_cases e1 : i = m
    · subst e1
      have := left_mono (l := l) (i := i) i
      rw [if_neg hu, if_pos (by simp [hs])]
      omega
    · have := left_set hs hu m (by omega)
      rw [getD_set_ne false e1]
      omega
theorem first_left {l : Array Bool} : ∀ m, (∃ i, i < m ∧ ¬ l.getD i false = true) → ∃ i, i < m ∧ ¬ l.getD i false = true ∧ ∀ j, j < i → l.getD j false = true
  | 0, ⟨i, hi, _⟩ => absurd hi (by omega)
  | m + 1, ⟨i, hi, hu⟩ => by
    by_cases h : ∃ i, i < m ∧ ¬ l.getD i false = true
    · obtain ⟨j, h1, h2, h3⟩ := first_left m h
      exact ⟨j, by omega, h2, h3⟩
    · have hall : ∀ j, j < m → l.getD j false = true := fun j hj => Classical.byContradiction fun hn => h ⟨j, hj, hn⟩
      have e1 : i = m := by
        apply Nat.le_antisymm (by omega)
        apply Nat.le_of_not_lt
        intro hlt
        exact hu (hall i hlt)
      subst e1
      exact ⟨i, hi, hu, hall⟩
theorem down_set {l : Array Bool} {i : Nat} (hd : Down ops l) (hr : i ∈ Region.ready .any ops l) : Down ops (l.setIfInBounds i true) := by
  intro j o ho hj x hx hb
  by_cases e1 : j = i
  · subst e1
    obtain ⟨_, o', ho', hall⟩ := mem_ready.1 hr
    rw [ho] at ho'
    injection ho' with ho'
    subst ho'
    exact getD_set_true (hall x hx hb)
  · exact getD_set_true (hd j o ho (listed_set hj e1) x hx hb)
theorem not_listed {l : Array Bool} {i : Nat} (hr : i ∈ Region.ready .any ops l) : ¬ l.getD i false = true := by
  intro hl
  have h0 := (mem_ready.1 hr).1
  have := size_of_listed hl
  simp [Array.getElem?_eq_getElem this] at h0 hl
  rw [h0] at hl
  cases hl
end
end Go.Proofs.YtcijaoihcckofaaDoor
namespace Go.Proofs.YtcijaoihcckofaaDoor
set_option linter.unusedVariables false
set_option linter.unusedSimpArgs false
open Go Go.RowKit
section
variable {P : Program} {n : Nat} {w0 w w' : World} {a : Act} {e : Env} {h : Hep} {Q : Exit → Act → World → Prop} {ops : Array Oper} {rest : List Oper} {o : Oper}
theorem news_of {t : TypeId} {z : Array Value} (ho : o.op = .alloc t) (hz : ∀ W, (Instr.alloc t true (.tuple #[])).run P W = .ok (.pointer (some ⟨W.heap.size, 0, none⟩)) (W.alloc (.cells z t))) : News P o t z := fun a w => by
  unfold execOp
  simp only [ho, Sem.run_bind, hz, Result.andThen_ok, Sem.run_pure]
theorem wanted_none (hg : o.guard = none) : ∀ a w, St n w0 a w e h → Region.wanted o (yielded ops a.tmps) = true := fun a w _ => by simp [Region.wanted, hg]
theorem wanted_some {j d : Nat} {b c : Bool} {oj : Oper} (hg : o.guard = some (j, b)) (hj : ops[j]? = some oj) (hd : oj.dst = some d) (hv : look e d = some (.bool c)) {r : Bool} (hr : (c == b) = r) : ∀ a w, St n w0 a w e h → Region.wanted o (yielded ops a.tmps) = r := fun a w H => by
  have := H.slot hv
  subst hr
  simp [Region.wanted, hg, yielded, hj, hd, this]
theorem wanted_off {j d : Nat} {b : Bool} {oj : Oper} (hg : o.guard = some (j, b)) (hj : ops[j]? = some oj) (hd : oj.dst = some d) (hv : look e d = some undef) : ∀ a w, St n w0 a w e h → Region.wanted o (yielded ops a.tmps) = false := fun a w H => by
  have := H.slot hv
  simp [Region.wanted, hg, yielded, hj, hd, this, undef]
theorem end_cell {fn : Func} {R : Ending → World → Prop} {p : Tmp} {t t' : TypeId} {g k : Nat} {cs : Array Value} {d : TypeDesc} (hr : fn.results = #[.cell p t]) (hp : look e p = some (.pointer (some ⟨g, 0, none⟩))) (hk : h[k]? = some (g, t', cs))
    (hu : P.underlying t = some d) (hd : (match d with | .struct _ | .array _ _ => true | _ => false) = true) (hi : (P.info? t).map (·.size) = some cs.size) (H : St n w0 a w e h) (hR : Below w0.heap.size w0 w → R (.returned (.agg cs)) w) : bodyPost P fn R .ret a w :=
  bodyPost_ret (results_cell_row hr _ _ g t' cs (0, 0) d (H.ev (x := .tmp p) hp) (H.heap _ (List.mem_iff_getElem?.2 ⟨k, hk⟩)) hu hd hi) H.defers (hR H.below)
theorem end_tmp {fn : Func} {R : Ending → World → Prop} {p : Tmp} {v : Value} (hr : fn.results = #[.tmp p]) (hp : look e p = some v) (H : St n w0 a w e h) (hR : Below w0.heap.size w0 w → R (.returned v) w) : bodyPost P fn R .ret a w := by
  refine bodyPost_ret (v := v) ?_ H.defers (hR H.below)
  rw [results_tmp hr]
  have := H.ev (x := .tmp p) hp
  exact congrArg (Result.ok · w) this
theorem end_cell_tmp {fn : Func} {R : Ending → World → Prop} {p q : Tmp} {t t' : TypeId} {g k : Nat} {cs : Array Value} {v : Value} {d : TypeDesc} (hr : fn.results = #[.cell p t, .tmp q]) (hp : look e p = some (.pointer (some ⟨g, 0, none⟩))) (hq : look e q = some v) (hk : h[k]? = some (g, t', cs))
    (hu : P.underlying t = some d) (hd : (match d with | .struct _ | .array _ _ => true | _ => false) = true) (hi : (P.info? t).map (·.size) = some cs.size) (H : St n w0 a w e h) (hR : Below w0.heap.size w0 w → R (.returned (.tuple #[.agg cs, v])) w) : bodyPost P fn R .ret a w :=
  bodyPost_ret (results_row_tmp hr (H.ev (x := .tmp p) hp) (H.ev (x := .tmp q) hq) (H.heap _ (List.mem_iff_getElem?.2 ⟨k, hk⟩)) hu hd hi) H.defers (hR H.below)
/-- A row that a result's variable holds. -/
theorem run_cell {p : Tmp} {t t' : TypeId} {g k : Nat} {cs : Array Value} {d : TypeDesc} (hp : look e p = some (.pointer (some ⟨g, 0, none⟩))) (hk : h[k]? = some (g, t', cs))
    (hu : P.underlying t = some d) (hd : (match d with | .struct _ | .array _ _ => true | _ => false) = true) (hi : (P.info? t).map (·.size) = some cs.size) (H : St n w0 a w e h) : a.tmps[p]?.getD undef = .pointer (some ⟨g, 0, none⟩) ∧ (loadVar t ⟨g, 0, none⟩).run P w = .ok (.agg cs) w := by
  refine ⟨?_, run_loadVar_row w g t' t cs (0, 0) d (H.heap _ (List.mem_iff_getElem?.2 ⟨k, hk⟩)) hu hd hi⟩
  rw [H.slot hp]
  rfl
theorem end_cells {fn : Func} {R : Ending → World → Prop} {p q : Tmp} {t t' s s' : TypeId} {g k g2 k2 : Nat} {cs ds : Array Value} {d d2 : TypeDesc} (hr : fn.results = #[.cell p t, .cell q s]) (hp : look e p = some (.pointer (some ⟨g, 0, none⟩))) (hk : h[k]? = some (g, t', cs))
    (hu : P.underlying t = some d) (hd : (match d with | .struct _ | .array _ _ => true | _ => false) = true) (hi : (P.info? t).map (·.size) = some cs.size) (hq : look e q = some (.pointer (some ⟨g2, 0, none⟩))) (hk2 : h[k2]? = some (g2, s', ds))
    (hu2 : P.underlying s = some d2) (hd2 : (match d2 with | .struct _ | .array _ _ => true | _ => false) = true) (hi2 : (P.info? s).map (·.size) = some ds.size) (H : St n w0 a w e h) (hR : Below w0.heap.size w0 w → R (.returned (.tuple #[.agg cs, .agg ds])) w) : bodyPost P fn R .ret a w := by
  refine bodyPost_ret ?_ H.defers (hR H.below)
  obtain ⟨h1, h2⟩ := run_cell hp hk hu hd hi H
  obtain ⟨h3, h4⟩ := run_cell hq hk2 hu2 hd2 hi2 H
  simp [results, hr, h1, h3, asAddr, h2, h4]
theorem least {p : Nat → Prop} : ∀ m, p m → ∃ m, p m ∧ ∀ j, p j → m ≤ j := by
  intro m
  induction m using Nat.strongRecOn with
  | _ m ih =>
    intro hm
    by_cases h : ∃ j, j < m ∧ p j
    · obtain ⟨j, hj, hpj⟩ := h
      exact ih j hj hpj
    · exact ⟨m, hm, fun j hj => Nat.le_of_not_lt fun hl => h ⟨j, hl, hj⟩⟩
/-- A loop of at most N rounds: I k is what holds behind k of them. -/
theorem wp_rounds {c : Code} (N : Nat) (I : Nat → Act → World → Prop) {k0 : Nat} (h0 : I k0 a w) (hk : k0 ≤ N)
    (round : ∀ k a w, k ≤ N → I k a w → c.wp P (Exit.then (fun a' w' => ∃ k', k < k' ∧ k' ≤ N ∧ I k' a' w') Q) a w) : (Code.loop c).wp P Q a w := by
  have hex : ∀ (q : Act × World), ∃ m : Nat, (∃ k, k ≤ N ∧ I k q.1 q.2) → (∃ k, k ≤ N ∧ I k q.1 q.2 ∧ N - k = m) ∧ ∀ k, k ≤ N → I k q.1 q.2 → m ≤ N - k := by
    intro q
    by_cases hq : ∃ k, k ≤ N ∧ I k q.1 q.2
    · obtain ⟨k, h1, h2⟩ := hq
      obtain ⟨m, ⟨j, hj1, hj2, hj3⟩, hmin⟩ := least (p := fun m => ∃ k, k ≤ N ∧ I k q.1 q.2 ∧ N - k = m) (N - k) ⟨k, h1, h2, rfl⟩
      exact ⟨m, fun _ => ⟨⟨j, hj1, hj2, hj3⟩, fun i hi1 hi2 => hmin _ ⟨i, hi1, hi2, rfl⟩⟩⟩
    · exact ⟨0, fun h => absurd h hq⟩
  obtain ⟨μ, hμ⟩ := Classical.axiomOfChoice hex
  refine wp_loop (fun a w => ∃ k, k ≤ N ∧ I k a w) (fun a w => μ (a, w)) ⟨k0, hk, h0⟩ (fun a w hI => ?_)
  obtain ⟨⟨k, hk1, hk2, hk3⟩, _⟩ := hμ (a, w) hI
  refine Code.wp_mono ?_ (round k a w hk1 hk2)
  intro e a' w' hq
  cases e with
  | normal =>
    obtain ⟨k', h1, h2, h3⟩ := hq
    have hI' : ∃ k, k ≤ N ∧ I k a' w' := ⟨k', h2, h3⟩
    have := (hμ (a', w') hI').2 k' h2 h3
    exact ⟨hI', by show μ (a', w') < μ (a, w); omega⟩
  | _ => exact hq
end
section
variable {P : Program} {t : TypeId}
theorem i_lss (k m : Int) (x y : Operand) (W : World) : (do eqGuard .lss t x y (.int .i64 k) (.int .i64 m); binOp .lss t (.int .i64 k) (.int .i64 m) : Sem Value).run P W = .ok (.bool (decide (k < m))) W := by go_simp
theorem i_lss_yes {k m : Nat} (h : k < m) (x y : Operand) (W : World) : (do eqGuard .lss t x y (.int .i64 (k : Int)) (.int .i64 (m : Int)); binOp .lss t (.int .i64 (k : Int)) (.int .i64 (m : Int)) : Sem Value).run P W = .ok (.bool true) W := by
  rw [i_lss, decide_eq_true (by omega)]
theorem i_lss_no {k m : Nat} (h : ¬ k < m) (x y : Operand) (W : World) : (do eqGuard .lss t x y (.int .i64 (k : Int)) (.int .i64 (m : Int)); binOp .lss t (.int .i64 (k : Int)) (.int .i64 (m : Int)) : Sem Value).run P W = .ok (.bool false) W := by
  rw [i_lss, decide_eq_false (by omega)]
theorem i_geq (k m : Int) (x y : Operand) (W : World) : (do eqGuard .geq t x y (.int .i64 k) (.int .i64 m); binOp .geq t (.int .i64 k) (.int .i64 m) : Sem Value).run P W = .ok (.bool (decide (k ≥ m))) W := by go_simp
theorem i_add (k m : Int) (hl : -9223372036854775808 ≤ k + m ∧ k + m ≤ 9223372036854775807) (x y : Operand) (W : World) : (do eqGuard .add t x y (.int .i64 k) (.int .i64 m); binOp .add t (.int .i64 k) (.int .i64 m) : Sem Value).run P W = .ok (.int .i64 (k + m)) W := by
  go_simp
  exact IntWalk.i64_in _ hl
theorem i_sub (k m : Int) (hl : -9223372036854775808 ≤ k - m ∧ k - m ≤ 9223372036854775807) (x y : Operand) (W : World) : (do eqGuard .sub t x y (.int .i64 k) (.int .i64 m); binOp .sub t (.int .i64 k) (.int .i64 m) : Sem Value).run P W = .ok (.int .i64 (k - m)) W := by
  go_simp
  exact IntWalk.i64_in _ hl
theorem i_inc {k : Nat} (h : k < 9223372036854775807) (x y : Operand) (W : World) : (do eqGuard .add t x y (.int .i64 (k : Int)) (.int .i64 1); binOp .add t (.int .i64 (k : Int)) (.int .i64 1) : Sem Value).run P W = .ok (.int .i64 ((k + 1 : Nat) : Int)) W := by
  rw [i_add _ _ (by omega)]
  rfl
theorem i_from {k m : Nat} (h : k ≤ m) (hm : m < 9223372036854775807) (x y : Operand) (W : World) : (do eqGuard .sub t x y (.int .i64 (m : Int)) (.int .i64 (k : Int)); binOp .sub t (.int .i64 (m : Int)) (.int .i64 (k : Int)) : Sem Value).run P W = .ok (.int .i64 ((m - k : Nat) : Int)) W := by
  rw [i_sub _ _ (by omega), show (m : Int) - (k : Int) = ((m - k : Nat) : Int) by omega]
theorem i_quo8 (k : Int) (h : 0 ≤ k ∧ k ≤ 9223372036854775807) (x y : Operand) (W : World) : (do eqGuard .quo t x y (.int .i64 k) (.int .i64 8); binOp .quo t (.int .i64 k) (.int .i64 8) : Sem Value).run P W = .ok (.int .i64 (k / 8)) W := by
  go_simp
  exact IntWalk.i64_quo _ _ ⟨h.1, h.2, by omega⟩
theorem i_rem8 (k : Int) (h : 0 ≤ k ∧ k ≤ 9223372036854775807) (x y : Operand) (W : World) : (do eqGuard .rem t x y (.int .i64 k) (.int .i64 8); binOp .rem t (.int .i64 k) (.int .i64 8) : Sem Value).run P W = .ok (.int .i64 (k % 8)) W := by
  go_simp
  exact Int.tmod_eq_emod_of_nonneg h.1
end
section
variable {P : Program} {w : World} {a : Act} {Q : Exit → Act → World → Prop} {K : Act → World → Prop}
theorem then_ret (h : Q .ret a w) : Exit.then K Q .ret a w := h
theorem blk_ret {id : Nat} (h : Q .ret a w) : Exit.inBlock id Q .ret a w := h
theorem blk_normal {id : Nat} (h : Q .normal a w) : Exit.inBlock id Q .normal a w := h
theorem then_exit {id : Nat} (h : Q (.exit id) a w) : Exit.then K Q (.exit id) a w := h
theorem blk_exit {id : Nat} (h : Q .normal a w) : Exit.inBlock id Q (.exit id) a w := by
  show (if id = id then Q .normal a w else Q (.exit id) a w)
  rw [if_pos rfl]
  exact h
end
end Go.Proofs.YtcijaoihcckofaaDoor
namespace Go.Proofs.YtcijaoihcckofaaDoor
set_option linter.unusedVariables false
set_option linter.unusedSimpArgs false
open Go Go.RowKit
inductive It where
  /-- It comes to v in slot d; it hangs on the values of the operations ps and on the rows hs, as they were. -/
  | val (d : Nat) (v : Value) (ps hs : List Nat)
  | off (d : Nat) (ps : List Nat)
  | new (d : Nat) (t : TypeId) (z : Array Value)
  /-- The row k, which held cs in block g, holds c. -/
  | sto (k g : Nat) (t : TypeId) (cs c : Array Value) (ps : List Nat)
  /-- The row of the new variable j holds c. -/
  | ston (j d : Nat) (t : TypeId) (z c : Array Value) (ps : List Nat)
def It.dst : It → Option Nat
  | .val d _ _ _ => some d
  | .off d _ => some d
  | .new d _ _ => some d
  | _ => none
def It.out (g : Nat) : It → Value
  | .val _ v _ _ => v
  | .new _ _ _ => .pointer (some ⟨g, 0, none⟩)
  | _ => undef
def It.ps : It → List Nat
  | .val _ _ ps _ => ps
  | .off _ ps => ps
  | .new _ _ _ => []
  | .sto _ _ _ _ _ ps => ps
  | .ston _ _ _ _ _ ps => ps
def It.hs : It → List Nat
  | .val _ _ _ hs => hs
  | _ => []
def outS (G : Nat → Nat) : Nat → List It → Env
  | _, [] => []
  | k, it :: r => match it.dst with
    | some d => (d, it.out (G k)) :: outS G (k + 1) r
    | none => outS G (k + 1) r
/-- What a row, or a new variable's row, is at the end. -/
def endB : List It → Nat → Array Value → Array Value
  | [], _, cs => cs
  | .sto k _ _ _ c _ :: r, j, cs => bif Nat.beq k j then c else endB r j cs
  | _ :: r, j, cs => endB r j cs
def endN : List It → Nat → Array Value → Array Value
  | [], _, cs => cs
  | .ston k _ _ _ c _ :: r, j, cs => bif Nat.beq k j then c else endN r j cs
  | _ :: r, j, cs => endN r j cs
def heapS (plan : List It) : Nat → Hep → Hep
  | _, [] => []
  | k, p :: r => (p.1, p.2.1, endB plan k p.2.2) :: heapS plan (k + 1) r
def newS (plan : List It) (G : Nat → Nat) : Nat → List It → Hep
  | _, [] => []
  | k, .new _ t z :: r => (G k, t, endN plan k z) :: newS plan G (k + 1) r
  | k, _ :: r => newS plan G (k + 1) r
def depS (plan : List It) : List Nat → Env
  | [] => []
  | p :: r => match plan[p]? with
    | some (.val d v _ _) => (d, v) :: depS plan r
    | some (.off d _) => (d, undef) :: depS plan r
    | _ => depS plan r
/-- A store. -/
def Stores (w w' : World) (g : Nat) (t : TypeId) (c : Array Value) : Prop :=
  Blk w' g t c ∧ (∀ (b : Nat) (t' : TypeId) (d : Array Value), b ≠ g → Blk w b t' d → Blk w' b t' d) ∧ (∀ (B : Nat) (w0 : World), B ≤ g → Below B w0 w → Below B w0 w') ∧ w.heap.size ≤ w'.heap.size
section
variable {P : Program} {n : Nat} {w0 w w' : World} {a : Act} {e : Env} {h : Hep} {Q : Exit → Act → World → Prop} {ops : Array Oper} {o : Oper}
theorem stores_row {g : Nat} {t : TypeId} {cs : Array Value} (hb : Blk w g t cs) (c : Array Value) : Stores w (w.setRow g c) g t c :=
  ⟨hb.setRow_same c, fun b t' d hne h => h.setRow_other hne c, fun B w0 hB h => below_setRow h hB c, by have := (below_setRow (Below.refl 0 w) (Nat.zero_le g) c).size; exact this⟩
theorem stores_cells {g : Nat} {t : TypeId} {cs c : Array Value} (hb : Blk w g t cs) (o : Nat) (vs : List Value) (hc : setV cs o vs = c) : Stores w (w.setCells g o vs) g t c := by
  subst hc
  exact ⟨Blk.setV vs o cs w hb, fun b t' d hne h => Blk.setCells_other hne vs o w h, fun B w0 hB h => below_setCells hB vs o w h, (below_setCells (Nat.zero_le g) vs o w (Below.refl 0 w)).size⟩
/-- What a store does. -/
def Sto (P : Program) (Q : Exit → Act → World → Prop) (n : Nat) (w0 : World) (e : Env) (o : Oper) (g : Nat) (t : TypeId) (cs c : Array Value) : Prop :=
  ∀ a w, St n w0 a w e [(g, t, cs)] → o.wp P a w (fun a' w' => a' = a.put o.dst undef ∧ Stores w w' g t c) Q
theorem sto_row {ty : TypeId} {x y : Operand} {g : Nat} {t : TypeId} {cs c : Array Value} (ho : o.op = .store ty x y) (hx : sev e x = some (.pointer (some ⟨g, 0, none⟩))) (hy : sev e y = some (.agg c))
    (hi : (P.info? ty).map (·.size) = some c.size) (hs : cs.size = c.size) (h1 : c.all (·.oneCell') = true) : Sto P Q n w0 e o g t cs c := fun a w H => by
  have hb : Blk w g t cs := H.heap _ List.mem_cons_self
  exact wp_store_row ty x y ho g c (H.ev hx) (H.ev hy) t cs hb hi hs h1 ⟨rfl, stores_row hb c⟩
theorem sto_at {ty : TypeId} {x y : Operand} {g f : Nat} {t : TypeId} {cs c : Array Value} {v : Value} {vs : List Value} (ho : o.op = .store ty x y) (hx : sev e x = some (.pointer (some ⟨g, f, none⟩))) (hy : sev e y = some v)
    (hr : ∀ W, Blk W g t cs → (Instr.storeAt ty (.pointer (some ⟨g, f, none⟩)) v).run P W = .ok () (W.setCells g f vs)) (hc : setV cs f vs = c) : Sto P Q n w0 e o g t cs c := fun a w H => by
  have hb : Blk w g t cs := H.heap _ List.mem_cons_self
  unfold Oper.wp execOp
  simp only [ho, H.ev hx, H.ev hy, Sem.run_bind, hr w hb, Result.andThen_ok, Sem.run_pure]
  exact ⟨rfl, stores_cells hb f vs hc⟩
def It.ob (P : Program) (ops : Array Oper) (Q : Exit → Act → World → Prop) (n : Nat) (w0 : World) (e : Env) (h : Hep) (plan : List It) (o : Oper) : It → Prop
  | .val d v ps hs => Does P Q n w0 (depS plan ps ++ e) (picks h hs) o v ∧ ∀ a w, St n w0 a w (depS plan ps ++ e) [] → Region.wanted o (yielded ops a.tmps) = true
  | .off d ps => ∀ a w, St n w0 a w (depS plan ps ++ e) [] → Region.wanted o (yielded ops a.tmps) = false
  | .new d t z => News P o t z ∧ o.guard = none
  | .sto k g t cs c ps => h[k]? = some (g, t, cs) ∧ o.guard = none ∧ Sto P Q n w0 (depS plan ps ++ e) o g t cs c
  | .ston j d t z c ps => plan[j]? = some (.new d t z) ∧ o.guard = none ∧ ∀ g, Sto P Q n w0 ((d, .pointer (some ⟨g, 0, none⟩)) :: (depS plan ps ++ e)) o g t z c
def ObsS (P : Program) (ops : Array Oper) (Q : Exit → Act → World → Prop) (n : Nat) (w0 : World) (e : Env) (h : Hep) (plan : List It) : List Oper → List It → Prop
  | o :: os, it :: r => it.ob P ops Q n w0 e h plan o ∧ ObsS P ops Q n w0 e h plan os r
  | _, _ => True
end
def ends : List It → List Nat
  | [] => []
  | it :: r => match it.dst with
    | some d => d :: ends r
    | none => ends r
def tgtB : List It → List Nat
  | [] => []
  | .sto k _ _ _ _ _ :: r => k :: tgtB r
  | _ :: r => tgtB r
def tgtN : List It → List Nat
  | [] => []
  | .ston k _ _ _ _ _ :: r => k :: tgtN r
  | _ :: r => tgtN r
def psOkS : List Nat → List It → Bool
  | m :: ms, it :: r => it.ps.all (fun j => Nat.testBit m j) && (match it with | .ston j _ _ _ _ _ => Nat.testBit m j | _ => true) && rises it.hs && psOkS ms r
  | _, [] => true
  | [], _ :: _ => false
def dstOkS : List Oper → List It → Bool
  | o :: os, it :: r => (match o.dst, it.dst with | some d, some d' => Nat.beq d d' | none, none => true | _, _ => false) && dstOkS os r
  | _, [] => true
  | [], _ :: _ => false
/-- Who reads a row that is written comes before that. -/
def readOk (ms : List Nat) (plan : List It) : Bool :=
  (List.range plan.length).all fun j => match plan[j]? with
    | some (.sto k _ _ _ _ _) => (List.range plan.length).all fun i => match plan[i]? with
      | some (.val _ _ _ hs) => !hs.contains k || Nat.testBit (closeM ms j (ms.getD j 0)) i
      | _ => true
    | _ => true
def planOkS (ops : Array Oper) (n : Nat) (e : Env) (plan : List It) (ms : List Nat) : Bool :=
  Nat.beq plan.length ops.size && downs 0 ms && psOkS ms plan && dstOkS ops.toList plan && distinct (ends plan) && (ends plan).all (fun d => Nat.blt d n && e.all (fun p => !Nat.beq p.1 d)) && distinct (tgtB plan) && distinct (tgtN plan) && readOk ms plan
end Go.Proofs.YtcijaoihcckofaaDoor
namespace Go.Proofs.YtcijaoihcckofaaDoor
set_option linter.unusedVariables false
set_option linter.unusedSimpArgs false
open Go Go.RowKit
section
variable {P : Program} {n : Nat} {w0 w w' : World} {a : Act} {e : Env} {h : Hep} {Q : Exit → Act → World → Prop} {ops : Array Oper} {plan : List It} {ms : List Nat}
structure MidS (plan : List It) (n : Nat) (w0 : World) (e : Env) (h : Hep) (l : Array Bool) (G : Nat → Nat) (a : Act) (w : World) : Prop where
  size : a.tmps.size = n
  defers : a.defers = []
  below : Below w0.heap.size w0 w
  env : ∀ p ∈ e, a.tmps[p.1]? = some p.2
  vals : ∀ (j : Nat) (it : It) (d : Nat), plan[j]? = some it → it.dst = some d → l.getD j false = true → a.tmps[d]? = some (it.out (G j))
  own : ∀ x ∈ h, w0.heap.size ≤ x.1 ∧ x.1 < w.heap.size
  apart : h.Pairwise (fun p q => p.1 ≠ q.1)
  baseA : ∀ (k : Nat) (x : Nat × TypeId × Array Value), h[k]? = some x → (∀ j g t cs c ps, plan[j]? = some (.sto k g t cs c ps) → ¬ l.getD j false = true) → Blk w x.1 x.2.1 x.2.2
  baseB : ∀ (k : Nat) (x : Nat × TypeId × Array Value) (j g : Nat) (t : TypeId) (cs c : Array Value) (ps : List Nat), h[k]? = some x → plan[j]? = some (.sto k g t cs c ps) → l.getD j false = true → Blk w x.1 x.2.1 c
  news : ∀ (j d : Nat) (t : TypeId) (z : Array Value), plan[j]? = some (.new d t z) → l.getD j false = true → w0.heap.size ≤ G j ∧ G j < w.heap.size ∧ ∀ x ∈ h, x.1 ≠ G j
  newA : ∀ (j d : Nat) (t : TypeId) (z : Array Value), plan[j]? = some (.new d t z) → l.getD j false = true → (∀ i d' t' z' c ps, plan[i]? = some (.ston j d' t' z' c ps) → ¬ l.getD i false = true) → Blk w (G j) t z
  newB : ∀ (j d : Nat) (t : TypeId) (z : Array Value) (i d' : Nat) (t' : TypeId) (z' c : Array Value) (ps : List Nat), plan[j]? = some (.new d t z) → l.getD j false = true → plan[i]? = some (.ston j d' t' z' c ps) → l.getD i false = true → Blk w (G j) t c
  dist : ∀ (j k d : Nat) (t : TypeId) (z : Array Value) (d' : Nat) (t' : TypeId) (z' : Array Value), plan[j]? = some (.new d t z) → plan[k]? = some (.new d' t' z') → l.getD j false = true → l.getD k false = true → j ≠ k → G j ≠ G k
theorem set_other {l : Array Bool} {i j : Nat} (hne : j ≠ i) : (l.setIfInBounds i true).getD j false = l.getD j false := getD_set_ne false (Ne.symm hne)
theorem put_keep {a : Act} {d k : Nat} {v x : Value} (hne : k ≠ d) (hx : a.tmps[k]? = some x) : (a.put (some d) v).tmps[k]? = some x := by
  show (a.tmps.setIfInBounds d v)[k]? = some x
  rw [Array.getElem?_setIfInBounds_ne (Ne.symm hne)]
  exact hx
theorem MidS.put {l : Array Bool} {G : Nat → Nat} (H : MidS plan n w0 e h l G a w) {i d : Nat} {it : It} {v : Value} (hi : plan[i]? = some it) (hdst : it.dst = some d) (hv : ∀ g, it.out g = v) (hnew : ∀ d t z, it ≠ .new d t z) (hlt : d < n) (he : ∀ p ∈ e, p.1 ≠ d)
    (hd : ∀ (j : Nat) (jt : It) (x : Nat), plan[j]? = some jt → j ≠ i → jt.dst = some x → x ≠ d) (hb : Below w.heap.size w w') : MidS plan n w0 e h (l.setIfInBounds i true) G (a.put (some d) v) w' := by
  have hlt' : d < a.tmps.size := by rw [H.size]; exact hlt
  have ni : ∀ (j : Nat) (jt : It), plan[j]? = some jt → jt ≠ it → j ≠ i := fun j jt hj hne e1 => by
    subst e1
    rw [hi] at hj
    exact hne (Option.some.inj hj).symm
  have nsto : ∀ k g t cs c ps, It.sto k g t cs c ps ≠ it := fun k g t cs c ps e1 => by rw [← e1] at hdst; cases hdst
  have nston : ∀ j d t z c ps, It.ston j d t z c ps ≠ it := fun k g t cs c ps e1 => by rw [← e1] at hdst; cases hdst
  have nnew : ∀ d t z, It.new d t z ≠ it := fun d t z e1 => hnew d t z e1.symm
  refine ⟨by simp [Act.put, H.size], H.defers, H.below.trans (hb.mono H.below.size), fun p hp => put_keep (he p hp) (H.env p hp), fun j jt x hj hx hl => ?_, fun x hx => ⟨(H.own x hx).1, Nat.lt_of_lt_of_le (H.own x hx).2 hb.size⟩, H.apart, fun k x hx hno => ?_, fun k x j g t cs c ps hx hj hl => ?_, fun j d t z hj hl => ?_, fun j d t z hj hl hno => ?_, fun j d t z i' d' t' z' c ps hj hl hi' hl' => ?_, fun j k d t z d' t' z' hj hk hlj hlk hne => ?_⟩
  · by_cases hji : j = i
    · subst hji
      rw [hi] at hj
      injection hj with hj
      subst hj
      rw [hdst] at hx
      injection hx with hx
      subst hx
      rw [hv]
      show (a.tmps.setIfInBounds d v)[d]? = some v
      simp [hlt']
    · rw [set_other hji] at hl
      exact put_keep (hd j jt x hj hji hx) (H.vals j jt x hj hx hl)
  · have hB := H.baseA k x hx fun j g t cs c ps hj hl => hno j g t cs c ps hj (by rw [set_other (ni j _ hj (nsto _ _ _ _ _ _))]; exact hl)
    exact hB.below hb hB.lt
  · rw [set_other (ni j _ hj (nsto _ _ _ _ _ _))] at hl
    have hB := H.baseB k x j g t cs c ps hx hj hl
    exact hB.below hb hB.lt
  · rw [set_other (ni j _ hj (nnew _ _ _))] at hl
    obtain ⟨h1, h2, h3⟩ := H.news j d t z hj hl
    exact ⟨h1, Nat.lt_of_lt_of_le h2 hb.size, h3⟩
  · rw [set_other (ni j _ hj (nnew _ _ _))] at hl
    have hB := H.newA j d t z hj hl fun i' d' t' z' c ps hi' hl' => hno i' d' t' z' c ps hi' (by rw [set_other (ni i' _ hi' (nston _ _ _ _ _ _))]; exact hl')
    exact hB.below hb hB.lt
  · rw [set_other (ni j _ hj (nnew _ _ _))] at hl
    rw [set_other (ni i' _ hi' (nston _ _ _ _ _ _))] at hl'
    have hB := H.newB j d t z i' d' t' z' c ps hj hl hi' hl'
    exact hB.below hb hB.lt
  · rw [set_other (ni j _ hj (nnew _ _ _))] at hlj
    rw [set_other (ni k _ hk (nnew _ _ _))] at hlk
    exact H.dist j k d t z d' t' z' hj hk hlj hlk hne
theorem MidS.more {l : Array Bool} {G : Nat → Nat} (H : MidS plan n w0 e h l G a w) {i d : Nat} {t : TypeId} {z : Array Value} (hi : plan[i]? = some (.new d t z)) (hu : ∀ i' d' t' z' c ps, plan[i']? = some (.ston i d' t' z' c ps) → ¬ l.getD i' false = true) (hlt : d < n) (he : ∀ p ∈ e, p.1 ≠ d)
    (hd : ∀ (j : Nat) (jt : It) (x : Nat), plan[j]? = some jt → j ≠ i → jt.dst = some x → x ≠ d) : MidS plan n w0 e h (l.setIfInBounds i true) (fun j => if j = i then w.heap.size else G j) (a.put (some d) (.pointer (some ⟨w.heap.size, 0, none⟩))) (w.alloc (.cells z t)) := by
  have hlt' : d < a.tmps.size := by rw [H.size]; exact hlt
  have hsz : w.heap.size < (w.alloc (.cells z t)).heap.size := (Blk.new w t z).lt
  have nsto : ∀ (j k g : Nat) (t' : TypeId) (cs c : Array Value) (ps : List Nat), plan[j]? = some (.sto k g t' cs c ps) → j ≠ i := fun j k g t' cs c ps hj e1 => by subst e1; rw [hi] at hj; cases hj
  have nston : ∀ (j k g : Nat) (t' : TypeId) (cs c : Array Value) (ps : List Nat), plan[j]? = some (.ston k g t' cs c ps) → j ≠ i := fun j k g t' cs c ps hj e1 => by subst e1; rw [hi] at hj; cases hj
  refine ⟨by simp [Act.put, H.size], H.defers, H.below.alloc H.below.size _, fun p hp => put_keep (he p hp) (H.env p hp), fun j jt x hj hx hl => ?_, fun x hx => ⟨(H.own x hx).1, Nat.lt_trans (H.own x hx).2 hsz⟩, H.apart, fun k x hx hno => ?_, fun k x j g t cs c ps hx hj hl => ?_, fun j d' t' z' hj hl => ?_, fun j d' t' z' hj hl hno => ?_, fun j d1 t1 z1 i' d' t' z' c ps hj hl hi' hl' => ?_, fun j k d1 t1 z1 d2 t2 z2 hj hk hlj hlk hne => ?_⟩
  · by_cases hji : j = i
    · subst hji
      rw [hi] at hj
      injection hj with hj
      subst hj
      injection hx with hx
      subst hx
      rw [if_pos rfl]
      show (a.tmps.setIfInBounds d _)[d]? = some _
      simp [hlt', It.out]
    · rw [set_other hji] at hl
      rw [if_neg hji]
      exact put_keep (hd j jt x hj hji hx) (H.vals j jt x hj hx hl)
  · exact (H.baseA k x hx fun j g t cs c ps hj hl => hno j g t cs c ps hj (by rw [set_other (nsto j k g t cs c ps hj)]; exact hl)).alloc _
  · rw [set_other (nsto j k g t cs c ps hj)] at hl
    exact (H.baseB k x j g t cs c ps hx hj hl).alloc _
  · by_cases hji : j = i
    · rw [if_pos hji]
      exact ⟨H.below.size, hsz, fun x hx => Nat.ne_of_lt (H.own x hx).2⟩
    · rw [set_other hji] at hl
      rw [if_neg hji]
      obtain ⟨h1, h2, h3⟩ := H.news j d' t' z' hj hl
      exact ⟨h1, Nat.lt_trans h2 hsz, h3⟩
  · by_cases hji : j = i
    · subst hji
      rw [hi] at hj
      injection hj with hj
      injection hj with h1 h2 h3
      subst h1 h2 h3
      rw [if_pos rfl]
      exact Blk.new _ _ _
    · rw [set_other hji] at hl
      rw [if_neg hji]
      exact (H.newA j d' t' z' hj hl fun i' d' t' z' c ps hi' hl' => hno i' d' t' z' c ps hi' (by rw [set_other (nston i' j d' t' z' c ps hi')]; exact hl')).alloc _
  · rw [set_other (nston i' j d' t' z' c ps hi')] at hl'
    by_cases hji : j = i
    · subst hji
      exact absurd hl' (hu i' d' t' z' c ps hi')
    · rw [set_other hji] at hl
      rw [if_neg hji]
      exact (H.newB j d1 t1 z1 i' d' t' z' c ps hj hl hi' hl').alloc _
  · by_cases hji : j = i
    · by_cases hki : k = i
      · omega
      · rw [set_other hki] at hlk
        rw [if_pos hji, if_neg hki]
        have := (H.news k d2 t2 z2 hk hlk).2.1
        omega
    · rw [set_other hji] at hlj
      by_cases hki : k = i
      · rw [if_neg hji, if_pos hki]
        have := (H.news j d1 t1 z1 hj hlj).2.1
        omega
      · rw [set_other hki] at hlk
        rw [if_neg hji, if_neg hki]
        exact H.dist j k d1 t1 z1 d2 t2 z2 hj hk hlj hlk hne
/-- A row is written. -/
theorem MidS.sto {l : Array Bool} {G : Nat → Nat} (H : MidS plan n w0 e h l G a w) {i k g : Nat} {t : TypeId} {cs c : Array Value} {ps : List Nat} (hi : plan[i]? = some (.sto k g t cs c ps)) (hk : h[k]? = some (g, t, cs))
    (hinj : ∀ (j : Nat) (g' : Nat) (t' : TypeId) (cs' c' : Array Value) (ps' : List Nat), plan[j]? = some (.sto k g' t' cs' c' ps') → j = i) (hil : i < l.size) (hs : Stores w w' g t c) : MidS plan n w0 e h (l.setIfInBounds i true) G a w' := by
  obtain ⟨hs1, hs2, hs3, hs4⟩ := hs
  have hm : (g, t, cs) ∈ h := List.mem_iff_getElem?.2 ⟨k, hk⟩
  have hg := H.own _ hm
  have ni : ∀ (j : Nat) (jt : It), plan[j]? = some jt → (∀ k g t cs c ps, jt ≠ .sto k g t cs c ps) → j ≠ i := fun j jt hj hne e1 => by
    subst e1
    rw [hi] at hj
    exact hne k g t cs c ps (Option.some.inj hj).symm
  refine ⟨H.size, H.defers, hs3 _ _ hg.1 H.below, H.env, fun j jt x hj hx hl => ?_, fun x hx => ⟨(H.own x hx).1, Nat.lt_of_lt_of_le (H.own x hx).2 hs4⟩, H.apart, fun k' x hx hno => ?_, fun k' x j g' t' cs' c' ps' hx hj hl => ?_, fun j d t z hj hl => ?_, fun j d t z hj hl hno => ?_, fun j d t z i' d' t' z' c ps hj hl hi' hl' => ?_, fun j k d t z d' t' z' hj hk hlj hlk hne => ?_⟩
  · have hji := ni j jt hj (fun k g t cs c ps e1 => by rw [e1] at hx; cases hx)
    rw [set_other hji] at hl
    exact H.vals j jt x hj hx hl
  · by_cases hkk : k' = k
    · subst hkk
      exact absurd (by simp [hil]) (hno i g t cs c ps hi)
    · exact hs2 _ _ _ (pw_ne H.apart hkk hx hk) (H.baseA k' x hx fun j g' t' cs' c' ps' hj hl => hno j g' t' cs' c' ps' hj (getD_set_true hl))
  · by_cases hji : j = i
    · subst hji
      rw [hi] at hj
      injection hj with hj
      injection hj with e1 e2 e3 e4 e5 e6
      subst e1 e5
      rw [hk] at hx
      injection hx with hx
      subst hx
      exact hs1
    · rw [set_other hji] at hl
      have hkk : k' ≠ k := fun e1 => hji (hinj j g' t' cs' c' ps' (by rw [← e1]; exact hj))
      exact hs2 _ _ _ (pw_ne H.apart hkk hx hk) (H.baseB k' x j g' t' cs' c' ps' hx hj hl)
  · rw [set_other (ni j _ hj (fun _ _ _ _ _ _ e1 => by cases e1))] at hl
    obtain ⟨h1, h2, h3⟩ := H.news j d t z hj hl
    exact ⟨h1, Nat.lt_of_lt_of_le h2 hs4, h3⟩
  · rw [set_other (ni j _ hj (fun _ _ _ _ _ _ e1 => by cases e1))] at hl
    have h3 := (H.news j d t z hj hl).2.2 _ hm
    exact hs2 _ _ _ (Ne.symm h3) (H.newA j d t z hj hl fun i' d' t' z' c ps hi' hl' => hno i' d' t' z' c ps hi' (getD_set_true hl'))
  · rw [set_other (ni j _ hj (fun _ _ _ _ _ _ e1 => by cases e1))] at hl
    rw [set_other (ni i' _ hi' (fun _ _ _ _ _ _ e1 => by cases e1))] at hl'
    have h3 := (H.news j d t z hj hl).2.2 _ hm
    exact hs2 _ _ _ (Ne.symm h3) (H.newB j d t z i' d' t' z' c ps hj hl hi' hl')
  · rw [set_other (ni j _ hj (fun _ _ _ _ _ _ e1 => by cases e1))] at hlj
    rw [set_other (ni k _ hk (fun _ _ _ _ _ _ e1 => by cases e1))] at hlk
    exact H.dist j k d t z d' t' z' hj hk hlj hlk hne
/-- A new variable's row is written. -/
theorem MidS.ston {l : Array Bool} {G : Nat → Nat} (H : MidS plan n w0 e h l G a w) {i j0 d0 : Nat} {t : TypeId} {z c : Array Value} {ps : List Nat} (hi : plan[i]? = some (.ston j0 d0 t z c ps)) (hj0 : plan[j0]? = some (.new d0 t z)) (hl0 : l.getD j0 false = true)
    (hinj : ∀ (j : Nat) (d' : Nat) (t' : TypeId) (z' c' : Array Value) (ps' : List Nat), plan[j]? = some (.ston j0 d' t' z' c' ps') → j = i) (hil : i < l.size) (hs : Stores w w' (G j0) t c) : MidS plan n w0 e h (l.setIfInBounds i true) G a w' := by
  obtain ⟨hs1, hs2, hs3, hs4⟩ := hs
  obtain ⟨hg1, hg2, hg3⟩ := H.news j0 d0 t z hj0 hl0
  have ni : ∀ (j : Nat) (jt : It), plan[j]? = some jt → (∀ k g t cs c ps, jt ≠ .ston k g t cs c ps) → j ≠ i := fun j jt hj hne e1 => by
    subst e1
    rw [hi] at hj
    exact hne j0 d0 t z c ps (Option.some.inj hj).symm
  refine ⟨H.size, H.defers, hs3 _ _ hg1 H.below, H.env, fun j jt x hj hx hl => ?_, fun x hx => ⟨(H.own x hx).1, Nat.lt_of_lt_of_le (H.own x hx).2 hs4⟩, H.apart, fun k' x hx hno => ?_, fun k' x j g' t' cs' c' ps' hx hj hl => ?_, fun j d t z hj hl => ?_, fun j d t z hj hl hno => ?_, fun j d1 t1 z1 i' d' t' z' c' ps' hj hl hi' hl' => ?_, fun j k d t z d' t' z' hj hk hlj hlk hne => ?_⟩
  · have hji := ni j jt hj (fun k g t cs c ps e1 => by rw [e1] at hx; cases hx)
    rw [set_other hji] at hl
    exact H.vals j jt x hj hx hl
  · exact hs2 _ _ _ (hg3 x (List.mem_iff_getElem?.2 ⟨k', hx⟩)) (H.baseA k' x hx fun j g' t' cs' c' ps' hj hl => hno j g' t' cs' c' ps' hj (getD_set_true hl))
  · rw [set_other (ni j _ hj (fun _ _ _ _ _ _ e1 => by cases e1))] at hl
    exact hs2 _ _ _ (hg3 x (List.mem_iff_getElem?.2 ⟨k', hx⟩)) (H.baseB k' x j g' t' cs' c' ps' hx hj hl)
  · rw [set_other (ni j _ hj (fun _ _ _ _ _ _ e1 => by cases e1))] at hl
    obtain ⟨h1, h2, h3⟩ := H.news j d t z hj hl
    exact ⟨h1, Nat.lt_of_lt_of_le h2 hs4, h3⟩
  · rw [set_other (ni j _ hj (fun _ _ _ _ _ _ e1 => by cases e1))] at hl
    by_cases hjj : j = j0
    · subst hjj
      exact absurd (by simp [hil]) (hno i d0 _ _ c ps hi)
    · exact hs2 _ _ _ (H.dist j j0 d t z d0 _ _ hj hj0 hl hl0 hjj) (H.newA j d t z hj hl fun i' d' t' z' c ps hi' hl' => hno i' d' t' z' c ps hi' (getD_set_true hl'))
  · rw [set_other (ni j _ hj (fun _ _ _ _ _ _ e1 => by cases e1))] at hl
    by_cases hii : i' = i
    · subst hii
      rw [hi] at hi'
      injection hi' with hi'
      injection hi' with e1 e2 e3 e4 e5 e6
      subst e1 e5
      rw [hj0] at hj
      injection hj with hj
      injection hj with f1 f2 f3
      subst f2
      exact hs1
    · rw [set_other hii] at hl'
      have hjj : j ≠ j0 := fun e1 => hii (hinj i' d' t' z' c' ps' (by rw [← e1]; exact hi'))
      exact hs2 _ _ _ (H.dist j j0 d1 t1 z1 d0 _ _ hj hj0 hl hl0 hjj) (H.newB j d1 t1 z1 i' d' t' z' c' ps' hj hl hi' hl')
  · rw [set_other (ni j _ hj (fun _ _ _ _ _ _ e1 => by cases e1))] at hlj
    rw [set_other (ni k _ hk (fun _ _ _ _ _ _ e1 => by cases e1))] at hlk
    exact H.dist j k d t z d' t' z' hj hk hlj hlk hne
theorem outS_mem {G : Nat → Nat} {k : Nat} {r : List It} {p : Nat × Value} (hp : p ∈ outS G k r) : ∃ (j : Nat) (it : It) (d : Nat), r[j]? = some it ∧ it.dst = some d ∧ p = (d, it.out (G (k + j))) := by
  induction r generalizing k with
  | nil => cases hp
  | cons it r ih =>
    have go : p ∈ outS G (k + 1) r → ∃ (j : Nat) (jt : It) (d : Nat), (it :: r)[j]? = some jt ∧ jt.dst = some d ∧ p = (d, jt.out (G (k + j))) := fun hp => by
      obtain ⟨j, it', d, h1, h2, rfl⟩ := ih hp
      exact ⟨j + 1, it', d, h1, h2, by rw [show k + (j + 1) = k + 1 + j by omega]⟩
    unfold outS at hp
    cases hd : it.dst with
    | none => rw [hd] at hp; exact go hp
    | some d =>
      rw [hd] at hp
      rcases List.mem_cons.1 hp with rfl | hp
      · exact ⟨0, it, d, rfl, hd, rfl⟩
      · exact go hp
theorem endB_spec {k : Nat} {cs : Array Value} (r : List It) : (∃ (j g : Nat) (t : TypeId) (cs' c : Array Value) (ps : List Nat), r[j]? = some (.sto k g t cs' c ps) ∧ endB r k cs = c) ∨ ((∀ (j g : Nat) (t : TypeId) (cs' c : Array Value) (ps : List Nat), r[j]? ≠ some (.sto k g t cs' c ps)) ∧ endB r k cs = cs) := by
  induction r with
  | nil => exact .inr ⟨(fun j g t cs' c ps hj => by cases hj), rfl⟩
  | cons it r ih =>
    have go : (∀ g t cs' c ps, it ≠ .sto k g t cs' c ps) → endB (it :: r) k cs = endB r k cs → (∃ (j g : Nat) (t : TypeId) (cs' c : Array Value) (ps : List Nat), (it :: r)[j]? = some (.sto k g t cs' c ps) ∧ endB (it :: r) k cs = c) ∨ ((∀ (j g : Nat) (t : TypeId) (cs' c : Array Value) (ps : List Nat), (it :: r)[j]? ≠ some (.sto k g t cs' c ps)) ∧ endB (it :: r) k cs = cs) := fun hne he => by
      rw [he]
      rcases ih with ⟨j, g, t, cs', c, ps, h1, h2⟩ | ⟨h1, h2⟩
      · exact .inl ⟨j + 1, g, t, cs', c, ps, h1, h2⟩
      · refine .inr ⟨fun j g t cs' c ps hj => ?_, h2⟩
        cases j with
        | zero => exact hne g t cs' c ps (Option.some.inj hj)
        | succ j => exact h1 j g t cs' c ps hj
    cases it with
    | val d v ps hs => exact go (fun _ _ _ _ _ e1 => by cases e1) rfl
    | off d ps => exact go (fun _ _ _ _ _ e1 => by cases e1) rfl
    | new d t z => exact go (fun _ _ _ _ _ e1 => by cases e1) rfl
    | ston j d t z c ps => exact go (fun _ _ _ _ _ e1 => by cases e1) rfl
    | sto k' g t cs' c ps =>
      cases hb : Nat.beq k' k with
      | true =>
        have hk := Nat.eq_of_beq_eq_true hb
        subst hk
        refine .inl ⟨0, g, t, cs', c, ps, rfl, ?_⟩
        unfold endB
        rw [hb]
        rfl
      | false =>
        refine go (fun _ _ _ _ _ e1 => ?_) ?_
        · injection e1 with e1
          rw [e1, Nat.beq_refl] at hb
          cases hb
        · show (bif Nat.beq k' k then c else endB r k cs) = _
          rw [hb]
          rfl
theorem endN_spec {k : Nat} {cs : Array Value} (r : List It) : (∃ (j g : Nat) (t : TypeId) (cs' c : Array Value) (ps : List Nat), r[j]? = some (.ston k g t cs' c ps) ∧ endN r k cs = c) ∨ ((∀ (j g : Nat) (t : TypeId) (cs' c : Array Value) (ps : List Nat), r[j]? ≠ some (.ston k g t cs' c ps)) ∧ endN r k cs = cs) := by
  induction r with
  | nil => exact .inr ⟨(fun j g t cs' c ps hj => by cases hj), rfl⟩
  | cons it r ih =>
    have go : (∀ g t cs' c ps, it ≠ .ston k g t cs' c ps) → endN (it :: r) k cs = endN r k cs → (∃ (j g : Nat) (t : TypeId) (cs' c : Array Value) (ps : List Nat), (it :: r)[j]? = some (.ston k g t cs' c ps) ∧ endN (it :: r) k cs = c) ∨ ((∀ (j g : Nat) (t : TypeId) (cs' c : Array Value) (ps : List Nat), (it :: r)[j]? ≠ some (.ston k g t cs' c ps)) ∧ endN (it :: r) k cs = cs) := fun hne he => by
      rw [he]
      rcases ih with ⟨j, g, t, cs', c, ps, h1, h2⟩ | ⟨h1, h2⟩
      · exact .inl ⟨j + 1, g, t, cs', c, ps, h1, h2⟩
      · refine .inr ⟨fun j g t cs' c ps hj => ?_, h2⟩
        cases j with
        | zero => exact hne g t cs' c ps (Option.some.inj hj)
        | succ j => exact h1 j g t cs' c ps hj
    cases it with
    | val d v ps hs => exact go (fun _ _ _ _ _ e1 => by cases e1) rfl
    | off d ps => exact go (fun _ _ _ _ _ e1 => by cases e1) rfl
    | new d t z => exact go (fun _ _ _ _ _ e1 => by cases e1) rfl
    | sto j d t z c ps => exact go (fun _ _ _ _ _ e1 => by cases e1) rfl
    | ston k' g t cs' c ps =>
      cases hb : Nat.beq k' k with
      | true =>
        have hk := Nat.eq_of_beq_eq_true hb
        subst hk
        refine .inl ⟨0, g, t, cs', c, ps, rfl, ?_⟩
        unfold endN
        rw [hb]
        rfl
      | false =>
        refine go (fun _ _ _ _ _ e1 => ?_) ?_
        · injection e1 with e1
          rw [e1, Nat.beq_refl] at hb
          cases hb
        · show (bif Nat.beq k' k then c else endN r k cs) = _
          rw [hb]
          rfl
theorem heapS_mem {k : Nat} {r : Hep} {p : Nat × TypeId × Array Value} (hp : p ∈ heapS plan k r) : ∃ (j : Nat) (x : Nat × TypeId × Array Value), r[j]? = some x ∧ p = (x.1, x.2.1, endB plan (k + j) x.2.2) := by
  induction r generalizing k with
  | nil => cases hp
  | cons x r ih =>
    rcases List.mem_cons.1 hp with rfl | hp
    · exact ⟨0, x, rfl, rfl⟩
    · obtain ⟨j, y, h1, rfl⟩ := ih hp
      exact ⟨j + 1, y, h1, by rw [show k + (j + 1) = k + 1 + j by omega]⟩
theorem heapS_pw {k : Nat} {r : Hep} (hp : r.Pairwise (fun p q => p.1 ≠ q.1)) : (heapS plan k r).Pairwise (fun p q => p.1 ≠ q.1) := by
  induction r generalizing k with
  | nil => exact List.Pairwise.nil
  | cons x r ih =>
    obtain ⟨h1, h2⟩ := List.pairwise_cons.1 hp
    refine List.pairwise_cons.2 ⟨fun p hp => ?_, ih h2⟩
    obtain ⟨j, y, hj, rfl⟩ := heapS_mem hp
    exact h1 y (List.mem_iff_getElem?.2 ⟨j, hj⟩)
theorem newS_mem {G : Nat → Nat} {k : Nat} {r : List It} {p : Nat × TypeId × Array Value} (hp : p ∈ newS plan G k r) : ∃ (j d : Nat) (t : TypeId) (z : Array Value), r[j]? = some (.new d t z) ∧ p = (G (k + j), t, endN plan (k + j) z) := by
  induction r generalizing k with
  | nil => cases hp
  | cons it r ih =>
    have go : p ∈ newS plan G (k + 1) r → ∃ (j d : Nat) (t : TypeId) (z : Array Value), (it :: r)[j]? = some (.new d t z) ∧ p = (G (k + j), t, endN plan (k + j) z) := fun hp => by
      obtain ⟨j, d, t, z, h1, rfl⟩ := ih hp
      exact ⟨j + 1, d, t, z, h1, by rw [show k + (j + 1) = k + 1 + j by omega]⟩
    cases it with
    | val d v ps hs => exact go hp
    | off d ps => exact go hp
    | sto k g t cs c ps => exact go hp
    | ston k g t cs c ps => exact go hp
    | new d t z =>
      rcases List.mem_cons.1 hp with rfl | hp
      · exact ⟨0, d, t, z, rfl, rfl⟩
      · exact go hp
theorem newS_pw {G : Nat → Nat} {k : Nat} {r : List It} (hd : ∀ (i j d : Nat) (t : TypeId) (z : Array Value) (d' : Nat) (t' : TypeId) (z' : Array Value), r[i]? = some (.new d t z) → r[j]? = some (.new d' t' z') → i ≠ j → G (k + i) ≠ G (k + j)) : (newS plan G k r).Pairwise (fun p q => p.1 ≠ q.1) := by
  induction r generalizing k with
  | nil => exact List.Pairwise.nil
  | cons it r ih =>
    have go : (newS plan G (k + 1) r).Pairwise (fun p q => p.1 ≠ q.1) := ih fun i j d t z d' t' z' h1 h2 hne => by
      have := hd (i + 1) (j + 1) d t z d' t' z' h1 h2 (by omega)
      rw [show k + 1 + i = k + (i + 1) by omega, show k + 1 + j = k + (j + 1) by omega]
      exact this
    cases it with
    | val d v ps hs => exact go
    | off d ps => exact go
    | sto k g t cs c ps => exact go
    | ston k g t cs c ps => exact go
    | new d t z =>
      refine List.pairwise_cons.2 ⟨fun p hp => ?_, go⟩
      obtain ⟨j, d', t', z', h1, rfl⟩ := newS_mem hp
      have := hd 0 (j + 1) d t z d' t' z' rfl h1 (by omega)
      rw [show k + 1 + j = k + (j + 1) by omega]
      exact this
theorem MidS.all {l : Array Bool} {G : Nat → Nat} (H : MidS plan n w0 e h l G a w) (hl : ∀ i, i < plan.length → l.getD i false = true) : St n w0 a w (outS G 0 plan ++ e) (newS plan G 0 plan ++ heapS plan 0 h) := by
  have lt : ∀ {j : Nat} {it : It}, plan[j]? = some it → l.getD j false = true := fun hj => hl _ (List.getElem?_eq_some_iff.1 hj).1
  refine ⟨H.size, H.defers, fun p hp => ?_, H.below, fun p hp => ?_, fun p hp => ?_, List.pairwise_append.2 ⟨newS_pw fun i j d t z d' t' z' h1 h2 hne => ?_, heapS_pw H.apart, fun p hp q hq => ?_⟩⟩
  · rcases List.mem_append.1 hp with hp | hp
    · obtain ⟨j, it, d, h1, h2, rfl⟩ := outS_mem hp
      rw [Nat.zero_add]
      exact H.vals j it d h1 h2 (lt h1)
    · exact H.env p hp
  · rcases List.mem_append.1 hp with hp | hp
    · obtain ⟨j, d, t, z, h1, rfl⟩ := newS_mem hp
      rw [Nat.zero_add]
      rcases endN_spec (k := j) (cs := z) plan with ⟨i, d', t', z', c, ps, h2, h3⟩ | ⟨h2, h3⟩
      · rw [h3]
        exact H.newB j d t z i d' t' z' c ps h1 (lt h1) h2 (lt h2)
      · rw [h3]
        exact H.newA j d t z h1 (lt h1) fun i d' t' z' c ps hi _ => h2 i d' t' z' c ps hi
    · obtain ⟨k, x, h1, rfl⟩ := heapS_mem hp
      rw [Nat.zero_add]
      rcases endB_spec (k := k) (cs := x.2.2) plan with ⟨i, g, t', cs', c, ps, h2, h3⟩ | ⟨h2, h3⟩
      · rw [h3]
        exact H.baseB k x i g t' cs' c ps h1 h2 (lt h2)
      · rw [h3]
        exact H.baseA k x h1 fun i g t' cs' c ps hi _ => h2 i g t' cs' c ps hi
  · rcases List.mem_append.1 hp with hp | hp
    · obtain ⟨j, d, t, z, h1, rfl⟩ := newS_mem hp
      rw [Nat.zero_add]
      exact (H.news j d t z h1 (lt h1)).1
    · obtain ⟨k, x, h1, rfl⟩ := heapS_mem hp
      exact (H.own x (List.mem_iff_getElem?.2 ⟨k, h1⟩)).1
  · rw [Nat.zero_add, Nat.zero_add]
    exact H.dist i j d t z d' t' z' h1 h2 (lt h1) (lt h2) hne
  · obtain ⟨j, d, t, z, h1, rfl⟩ := newS_mem hp
    obtain ⟨k, x, h2, rfl⟩ := heapS_mem hq
    rw [Nat.zero_add]
    exact Ne.symm ((H.news j d t z h1 (lt h1)).2.2 x (List.mem_iff_getElem?.2 ⟨k, h2⟩))
theorem depS_mem {ps : List Nat} {p : Nat × Value} (hp : p ∈ depS plan ps) : ∃ j ∈ ps, ∃ (it : It) (d : Nat), plan[j]? = some it ∧ it.dst = some d ∧ ∀ g, p = (d, it.out g) := by
  induction ps with
  | nil => cases hp
  | cons k r ih =>
    have go : p ∈ depS plan r → ∃ j ∈ k :: r, ∃ (it : It) (d : Nat), plan[j]? = some it ∧ it.dst = some d ∧ ∀ g, p = (d, it.out g) := fun hp => by
      obtain ⟨j, hj, it, d, h1, h2, h3⟩ := ih hp
      exact ⟨j, List.mem_cons_of_mem _ hj, it, d, h1, h2, h3⟩
    unfold depS at hp
    cases hk : plan[k]? with
    | none => rw [hk] at hp; exact go hp
    | some it =>
      rw [hk] at hp
      cases it with
      | val d v qs hs =>
        rcases List.mem_cons.1 hp with rfl | hp
        · exact ⟨k, List.mem_cons_self, _, d, hk, rfl, fun _ => rfl⟩
        · exact go hp
      | off d qs =>
        rcases List.mem_cons.1 hp with rfl | hp
        · exact ⟨k, List.mem_cons_self, _, d, hk, rfl, fun _ => rfl⟩
        · exact go hp
      | new d t z => exact go hp
      | sto a b c d e f => exact go hp
      | ston a b c d e f => exact go hp
/-- What one hangs on: slots, and rows that nobody has written yet. -/
theorem MidS.part {l : Array Bool} {G : Nat → Nat} (H : MidS plan n w0 e h l G a w) {ps hs : List Nat} (hp : ∀ j ∈ ps, l.getD j false = true) (hr : rises hs = true) (hno : ∀ k ∈ hs, ∀ j g t cs c qs, plan[j]? = some (.sto k g t cs c qs) → ¬ l.getD j false = true) : St n w0 a w (depS plan ps ++ e) (picks h hs) := by
  refine ⟨H.size, H.defers, fun p hq => ?_, H.below, fun p hq => ?_, fun p hq => ?_, picks_pw H.apart hr⟩
  · rcases List.mem_append.1 hq with hq | hq
    · obtain ⟨j, hj, it, d, h1, h2, h3⟩ := depS_mem hq
      rw [h3 (G j)]
      exact H.vals j it d h1 h2 (hp j hj)
    · exact H.env p hq
  · obtain ⟨k, hk, hx⟩ := picks_get hq
    exact H.baseA k p hx (hno k hk)
  · obtain ⟨k, hk, hx⟩ := picks_get hq
    exact (H.own p (List.mem_iff_getElem?.2 ⟨k, hx⟩)).1
theorem obS_get {os : List Oper} {r : List It} (ho : ObsS P ops Q n w0 e h plan os r) : ∀ (j : Nat) (o : Oper) (it : It), os[j]? = some o → r[j]? = some it → it.ob P ops Q n w0 e h plan o := by
  induction os generalizing r with
  | nil => intro j o it h1; cases h1
  | cons o0 os ih =>
    cases r with
    | nil => intro j o it _ h2; cases h2
    | cons it0 r =>
      intro j o it h1 h2
      obtain ⟨ho1, ho2⟩ := ho
      cases j with
      | zero =>
        injection h1 with h1
        injection h2 with h2
        subst h1 h2
        exact ho1
      | succ j => exact ih ho2 j o it h1 h2
theorem dstS_get {os : List Oper} {r : List It} (hd : dstOkS os r = true) : ∀ (j : Nat) (o : Oper) (it : It), os[j]? = some o → r[j]? = some it → o.dst = it.dst := by
  induction os generalizing r with
  | nil => intro j o it h1; cases h1
  | cons o0 os ih =>
    cases r with
    | nil => intro j o it _ h2; cases h2
    | cons it0 r =>
      intro j o it h1 h2
      unfold dstOkS at hd
      rw [Bool.and_eq_true] at hd
      cases j with
      | zero =>
        injection h1 with h1
        injection h2 with h2
        subst h1 h2
        have := hd.1
        cases ho : o0.dst with
        | none =>
          cases hi : it0.dst with
          | none => rfl
          | some d => rw [ho, hi] at this; cases this
        | some d =>
          cases hi : it0.dst with
          | none => rw [ho, hi] at this; cases this
          | some d' =>
            rw [ho, hi] at this
            rw [Nat.eq_of_beq_eq_true this]
      | succ j => exact ih hd.2 j o it h1 h2
theorem psS_get {l : List Nat} {r : List It} (hp : psOkS l r = true) : ∀ (j m : Nat) (it : It), l[j]? = some m → r[j]? = some it → (∀ k ∈ it.ps, m.testBit k = true) ∧ rises it.hs = true ∧ ∀ k d t z c ps, it = .ston k d t z c ps → m.testBit k = true := by
  induction l generalizing r with
  | nil => intro j m it h1; cases h1
  | cons m0 l ih =>
    cases r with
    | nil => intro j m it _ h2; cases h2
    | cons it0 r =>
      intro j m it h1 h2
      unfold psOkS at hp
      simp only [Bool.and_eq_true] at hp
      obtain ⟨⟨⟨p1, p2⟩, p3⟩, p4⟩ := hp
      cases j with
      | zero =>
        injection h1 with h1
        injection h2 with h2
        subst h1 h2
        refine ⟨List.all_eq_true.1 p1, p3, fun k d t z c ps e1 => ?_⟩
        subst e1
        exact p2
      | succ j => exact ih p4 j m it h1 h2
theorem ends_has {r : List It} {j d : Nat} {it : It} (hj : r[j]? = some it) (hd : it.dst = some d) : d ∈ ends r := by
  induction r generalizing j with
  | nil => cases hj
  | cons it0 r ih =>
    unfold ends
    cases j with
    | zero =>
      injection hj with hj
      subst hj
      rw [hd]
      exact List.mem_cons_self
    | succ j =>
      cases h0 : it0.dst with
      | none => exact ih hj
      | some d0 => exact List.mem_cons_of_mem _ (ih hj)
theorem ends_inj {r : List It} (hd : distinct (ends r) = true) : ∀ (i j : Nat) (it jt : It) (x y : Nat), r[i]? = some it → r[j]? = some jt → i ≠ j → it.dst = some x → jt.dst = some y → x ≠ y := by
  induction r with
  | nil => intro i j it jt x y h1; cases h1
  | cons it0 r ih =>
    intro i j it jt x y h1 h2 hne hx hy
    unfold ends at hd
    have tail : distinct (ends r) = true := by
      cases h0 : it0.dst with
      | none => rw [h0] at hd; exact hd
      | some d0 =>
        rw [h0] at hd
        unfold distinct at hd
        rw [Bool.and_eq_true] at hd
        exact hd.2
    have head : ∀ d0, it0.dst = some d0 → ∀ z ∈ ends r, z ≠ d0 := fun d0 h0 z hz e1 => by
      rw [h0] at hd
      unfold distinct at hd
      rw [Bool.and_eq_true] at hd
      have := List.all_eq_true.1 hd.1 z hz
      rw [e1, Nat.beq_refl] at this
      cases this
    cases i with
    | zero =>
      cases j with
      | zero => exact absurd rfl hne
      | succ j =>
        injection h1 with h1
        subst h1
        exact Ne.symm (head x hx y (ends_has h2 hy))
    | succ i =>
      cases j with
      | zero =>
        injection h2 with h2
        subst h2
        exact head y hy x (ends_has h1 hx)
      | succ j => exact ih tail i j it jt x y h1 h2 (by omega) hx hy
theorem tgtB_has {r : List It} {j k g : Nat} {t : TypeId} {cs c : Array Value} {ps : List Nat} (hj : r[j]? = some (.sto k g t cs c ps)) : k ∈ tgtB r := by
  induction r generalizing j with
  | nil => cases hj
  | cons it r ih =>
    cases j with
    | zero =>
      injection hj with hj
      subst hj
      exact List.mem_cons_self
    | succ j =>
      have := ih (j := j) hj
      cases it <;> first | exact this | exact List.mem_cons_of_mem _ this
theorem tgtB_inj {r : List It} (hd : distinct (tgtB r) = true) : ∀ (i j k g g' : Nat) (t t' : TypeId) (cs cs' c c' : Array Value) (ps ps' : List Nat), r[i]? = some (.sto k g t cs c ps) → r[j]? = some (.sto k g' t' cs' c' ps') → j = i := by
  induction r with
  | nil => intro i j k g g' t t' cs cs' c c' ps ps' h1; cases h1
  | cons it r ih =>
    intro i j k g g' t t' cs cs' c c' ps ps' h1 h2
    have tail : distinct (tgtB r) = true := by
      cases it <;> first | exact hd | (unfold tgtB distinct at hd; rw [Bool.and_eq_true] at hd; exact hd.2)
    have head : ∀ k g t cs c ps, it = .sto k g t cs c ps → k ∉ tgtB r := fun k g t cs c ps e1 hk => by
      subst e1
      unfold tgtB distinct at hd
      rw [Bool.and_eq_true] at hd
      have := List.all_eq_true.1 hd.1 k hk
      rw [Nat.beq_refl] at this
      cases this
    cases i with
    | zero =>
      cases j with
      | zero => rfl
      | succ j => exact absurd (tgtB_has (j := j) h2) (head _ _ _ _ _ _ (Option.some.inj h1))
    | succ i =>
      cases j with
      | zero => exact absurd (tgtB_has (j := i) h1) (head _ _ _ _ _ _ (Option.some.inj h2))
      | succ j => rw [ih tail i j k g g' t t' cs cs' c c' ps ps' h1 h2]
theorem tgtN_has {r : List It} {j k g : Nat} {t : TypeId} {cs c : Array Value} {ps : List Nat} (hj : r[j]? = some (.ston k g t cs c ps)) : k ∈ tgtN r := by
  induction r generalizing j with
  | nil => cases hj
  | cons it r ih =>
    cases j with
    | zero =>
      injection hj with hj
      subst hj
      exact List.mem_cons_self
    | succ j =>
      have := ih (j := j) hj
      cases it <;> first | exact this | exact List.mem_cons_of_mem _ this
theorem tgtN_inj {r : List It} (hd : distinct (tgtN r) = true) : ∀ (i j k g g' : Nat) (t t' : TypeId) (cs cs' c c' : Array Value) (ps ps' : List Nat), r[i]? = some (.ston k g t cs c ps) → r[j]? = some (.ston k g' t' cs' c' ps') → j = i := by
  induction r with
  | nil => intro i j k g g' t t' cs cs' c c' ps ps' h1; cases h1
  | cons it r ih =>
    intro i j k g g' t t' cs cs' c c' ps ps' h1 h2
    have tail : distinct (tgtN r) = true := by
      cases it <;> first | exact hd | (unfold tgtN distinct at hd; rw [Bool.and_eq_true] at hd; exact hd.2)
    have head : ∀ k g t cs c ps, it = .ston k g t cs c ps → k ∉ tgtN r := fun k g t cs c ps e1 hk => by
      subst e1
      unfold tgtN distinct at hd
      rw [Bool.and_eq_true] at hd
      have := List.all_eq_true.1 hd.1 k hk
      rw [Nat.beq_refl] at this
      cases this
    cases i with
    | zero =>
      cases j with
      | zero => rfl
      | succ j => exact absurd (tgtN_has (j := j) h2) (head _ _ _ _ _ _ (Option.some.inj h1))
    | succ i =>
      cases j with
      | zero => exact absurd (tgtN_has (j := i) h1) (head _ _ _ _ _ _ (Option.some.inj h2))
      | succ j => rw [ih tail i j k g g' t t' cs cs' c c' ps ps' h1 h2]
theorem readOk_get (hr : readOk ms plan = true) {i j k g d : Nat} {t : TypeId} {cs c : Array Value} {ps qs hs : List Nat} {v : Value} (hj : plan[j]? = some (.sto k g t cs c ps)) (hi : plan[i]? = some (.val d v qs hs)) (hk : k ∈ hs) : (closeM ms j (ms.getD j 0)).testBit i = true := by
  have h1 := List.all_eq_true.1 hr j (List.mem_range.2 (List.getElem?_eq_some_iff.1 hj).1)
  rw [hj] at h1
  have h2 := List.all_eq_true.1 h1 i (List.mem_range.2 (List.getElem?_eq_some_iff.1 hi).1)
  rw [hi] at h2
  have hc : hs.contains k = true := by simpa using hk
  simp only [hc] at h2
  simpa using h2
theorem any_planS (hm : masks ops = ms) (hk : planOkS ops n e plan ms = true) (ho : ObsS P ops Q n w0 e h plan ops.toList plan)
    (fin : ∀ (G : Nat → Nat) a w, St n w0 a w (outS G 0 plan ++ e) (newS plan G 0 plan ++ heapS plan 0 h) → Q .normal a w) :
    ∀ (fuel : Nat) (l : Array Bool) (a : Act) (w : World) (G : Nat → Nat), l.size = ops.size → Down ops l → left l plan.length ≤ fuel → MidS plan n w0 e h l G a w → wpAny P .any ops Q fuel l a w := by
  unfold planOkS at hk
  simp only [Bool.and_eq_true] at hk
  obtain ⟨⟨⟨⟨⟨⟨⟨⟨k1, k2⟩, k3⟩, k4⟩, k5⟩, k6⟩, k7⟩, k8⟩, k9⟩ := hk
  have hlen : plan.length = ops.size := Nat.eq_of_beq_eq_true k1
  have nothing : ∀ l : Array Bool, l.size = ops.size → (∀ j, j < plan.length → l.getD j false = true) → Region.ready .any ops l = [] := fun l hs hall => by
    apply List.eq_nil_iff_forall_not_mem.2
    intro i hi
    obtain ⟨_, o, hoo, _⟩ := mem_ready.1 hi
    exact not_listed hi (hall i (by have := (Array.getElem?_eq_some_iff.1 hoo).1; omega))
  intro fuel
  induction fuel with
  | zero =>
    intro l a w G hs hd hf H
    have hall := left_zero (l := l) (m := plan.length) (by omega)
    exact ⟨nothing l hs hall, fin G a w (H.all hall)⟩
  | succ fuel ih =>
    intro l a w G hs hd hf H
    by_cases hall : ∀ j, j < plan.length → l.getD j false = true
    · exact ⟨fun _ => fin G a w (H.all hall), fun i hi => by rw [nothing l hs hall] at hi; cases hi⟩
    · have hex : ∃ i, i < plan.length ∧ ¬ l.getD i false = true := Classical.byContradiction fun hn => hall fun j hj => Classical.byContradiction fun hu => hn ⟨j, hj, hu⟩
      obtain ⟨i0, hi0, hu0, hlow⟩ := first_left _ hex
      refine ⟨fun hnil => ?_, fun i hr => ?_⟩
      · exfalso
        have hlt : i0 < ops.size := by omega
        have hin : i0 ∈ Region.ready .any ops l := by
          refine mem_ready.2 ⟨?_, ops[i0], Array.getElem?_eq_getElem hlt, fun x hx hb => hlow _ ?_⟩
          · have hl2 : i0 < l.size := by omega
            simp [Array.getElem?_eq_getElem hl2] at hu0 ⊢
            exact hu0
          · have hg := masks_get hm (Array.getElem?_eq_getElem hlt)
            have hx2 : (maskOf (waits ops[i0])).testBit x.on = true := maskOf_bit.2 (mem_waits.2 ⟨x, hx, hb, rfl⟩)
            have := downs_get k2 i0 _ hg x.on hx2
            omega
        rw [hnil] at hin
        cases hin
      · have hu := not_listed hr
        have hios : i < ops.size := by
          obtain ⟨_, o, hoo, _⟩ := mem_ready.1 hr
          exact (Array.getElem?_eq_some_iff.1 hoo).1
        have hilt : i < plan.length := by omega
        have hil : i < l.size := by omega
        have hit : plan[i]? = some plan[i] := List.getElem?_eq_getElem hilt
        have hoi : ops[i]? = some ops[i] := Array.getElem?_eq_getElem hios
        have hoi2 : ops.toList[i]? = some ops[i] := by simp [hios]
        have hob := obS_get ho i _ _ hoi2 hit
        have hdst := dstS_get k4 i _ _ hoi2 hit
        have hg := masks_get hm hoi
        have e2 : ms.getD i 0 = maskOf (waits ops[i]) := by simp [hg]
        have rw_ := ready_waits hm hr
        rw [e2] at rw_
        obtain ⟨p1, p2, p3⟩ := psS_get k3 i _ _ hg hit
        have hps : ∀ j ∈ plan[i].ps, l.getD j false = true := fun j hj => rw_ j (p1 j hj)
        have hend : ∀ d, plan[i].dst = some d → d < n ∧ ∀ p ∈ e, p.1 ≠ d := fun d hdd => by
          have h6 := List.all_eq_true.1 k6 d (ends_has hit hdd)
          rw [Bool.and_eq_true] at h6
          refine ⟨by have := h6.1; rw [Nat.blt_eq] at this; exact this, fun p hp e1 => ?_⟩
          have := List.all_eq_true.1 h6.2 p hp
          rw [e1, Nat.beq_refl] at this
          cases this
        have hdd : ∀ d, plan[i].dst = some d → ∀ (j : Nat) (jt : It) (x : Nat), plan[j]? = some jt → j ≠ i → jt.dst = some x → x ≠ d := fun d hd0 j jt x hj hne hx => ends_inj k5 j i jt plan[i] x d hj hit hne hx hd0
        have hs2 : (l.setIfInBounds i true).size = ops.size := by simpa using hs
        have hd2 := down_set hd hr
        have hf2 : left (l.setIfInBounds i true) plan.length ≤ fuel := by
          have := left_set (l := l) (i := i) (by omega) hu plan.length hilt
          omega
        unfold wpOp
        rw [hoi]
        dsimp only
        generalize hI : plan[i] = it at *
        cases it with
        | val d v ps hs0 =>
          obtain ⟨hdo, hw⟩ := hob
          have hno : ∀ k ∈ hs0, ∀ j g t cs c qs, plan[j]? = some (.sto k g t cs c qs) → ¬ l.getD j false = true := fun k hk0 j g t cs c qs hj hl => by
            have hjo : j < ops.size := by have := (List.getElem?_eq_some_iff.1 hj).1; omega
            have hc := readOk_get k9 hj hit hk0
            refine hu (close_listed hm hd hs j _ (fun x hx => ?_) i hc)
            have hgj := masks_get hm (Array.getElem?_eq_getElem hjo)
            have e3 : ms.getD j 0 = maskOf (waits ops[j]) := by simp [hgj]
            rw [e3, maskOf_bit, mem_waits] at hx
            obtain ⟨y, hy, hb, rfl⟩ := hx
            exact hd j _ (Array.getElem?_eq_getElem hjo) hl y hy hb
          have hst := H.part hps p2 hno
          have hst0 := H.part (hs := []) hps rfl (fun k hk0 => by cases hk0)
          rw [hw _ _ hst0, if_pos rfl]
          refine .inl (Oper.wp_mono (fun a' w' hx => ?_) (hdo _ _ hst))
          obtain ⟨rfl, hb⟩ := hx
          rw [hdst]
          exact ih _ _ _ G hs2 hd2 hf2 (H.put hit rfl (fun _ => rfl) (fun _ _ _ hc => by cases hc) (hend d rfl).1 (hend d rfl).2 (hdd d rfl) hb)
        | off d ps =>
          have hst0 := H.part (hs := []) hps rfl (fun k hk0 => by cases hk0)
          rw [hob _ _ hst0]
          rw [hdst]
          exact ih _ _ _ G hs2 hd2 hf2 (H.put hit rfl (fun _ => rfl) (fun _ _ _ hc => by cases hc) (hend d rfl).1 (hend d rfl).2 (hdd d rfl) (Below.refl _ _))
        | new d t z =>
          obtain ⟨hn, hgd⟩ := hob
          have hw : Region.wanted ops[i] (yielded ops a.tmps) = true := by simp [Region.wanted, hgd]
          rw [hw, if_pos rfl]
          left
          unfold Oper.wp
          rw [hn a w]
          show wpAny P .any ops Q fuel (l.setIfInBounds i true) (a.put ops[i].dst _) (w.alloc (.cells z t))
          rw [hdst]
          refine ih _ _ _ _ hs2 hd2 hf2 (H.more hit (fun i' d' t' z' c ps hi' hl' => ?_) (hend d rfl).1 (hend d rfl).2 (hdd d rfl))
          -- who writes it waits for it
          have hjo : i' < ops.size := by have := (List.getElem?_eq_some_iff.1 hi').1; omega
          have hgj := masks_get hm (Array.getElem?_eq_getElem hjo)
          have hb := (psS_get k3 i' _ _ hgj hi').2.2 _ _ _ _ _ _ rfl
          rw [maskOf_bit, mem_waits] at hb
          obtain ⟨y, hy, hbb, e4⟩ := hb
          have := hd i' _ (Array.getElem?_eq_getElem hjo) hl' y hy hbb
          rw [e4] at this
          exact hu this
        | sto k g t cs c ps =>
          obtain ⟨h1, hgd, hsto⟩ := hob
          have hw : Region.wanted ops[i] (yielded ops a.tmps) = true := by simp [Region.wanted, hgd]
          rw [hw, if_pos rfl]
          have hm1 : (g, t, cs) ∈ h := List.mem_iff_getElem?.2 ⟨k, h1⟩
          have hB := H.baseA k _ h1 fun j g' t' cs' c' ps' hj hl => by
            have := tgtB_inj k7 i j k g g' t t' cs cs' c c' ps ps' hit hj
            subst this
            exact hu hl
          have hst : St n w0 a w (depS plan ps ++ e) [(g, t, cs)] := by
            have h0 := H.part (hs := []) hps rfl (fun k hk0 => by cases hk0)
            refine ⟨h0.size, h0.defers, h0.env, h0.below, fun p hp => ?_, fun p hp => ?_, List.pairwise_singleton _ _⟩
            · rw [List.mem_singleton.1 hp]
              exact hB
            · rw [List.mem_singleton.1 hp]
              exact (H.own _ hm1).1
          refine .inl (Oper.wp_mono (fun a' w' hx => ?_) (hsto _ _ hst))
          obtain ⟨rfl, hss⟩ := hx
          rw [hdst]
          exact ih _ _ _ G hs2 hd2 hf2 (H.sto hit h1 (fun j g' t' cs' c' ps' hj => tgtB_inj k7 i j k g g' t t' cs cs' c c' ps ps' hit hj) hil hss)
        | ston j0 d0 t z c ps =>
          obtain ⟨h1, hgd, hsto⟩ := hob
          have hw : Region.wanted ops[i] (yielded ops a.tmps) = true := by simp [Region.wanted, hgd]
          rw [hw, if_pos rfl]
          have hl0 : l.getD j0 false = true := rw_ j0 (p3 _ _ _ _ _ _ rfl)
          have hB := H.newA j0 d0 t z h1 hl0 fun i' d' t' z' c' ps' hi' hl' => by
            have := tgtN_inj k8 i i' j0 d0 d' t t' z z' c c' ps ps' hit hi'
            subst this
            exact hu hl'
          have hst : St n w0 a w ((d0, .pointer (some ⟨G j0, 0, none⟩)) :: (depS plan ps ++ e)) [(G j0, t, z)] := by
            have h0 := H.part (hs := []) hps rfl (fun k hk0 => by cases hk0)
            refine ⟨h0.size, h0.defers, fun p hp => ?_, h0.below, fun p hp => ?_, fun p hp => ?_, List.pairwise_singleton _ _⟩
            · rcases List.mem_cons.1 hp with rfl | hp
              · exact H.vals j0 _ d0 h1 rfl hl0
              · exact h0.env p hp
            · rw [List.mem_singleton.1 hp]
              exact hB
            · rw [List.mem_singleton.1 hp]
              exact (H.news j0 d0 t z h1 hl0).1
          refine .inl (Oper.wp_mono (fun a' w' hx => ?_) (hsto (G j0) _ _ hst))
          obtain ⟨rfl, hss⟩ := hx
          rw [hdst]
          exact ih _ _ _ G hs2 hd2 hf2 (H.ston hit h1 hl0 (fun j d' t' z' c' ps' hj => tgtN_inj k8 i j j0 d0 d' t t' z z' c c' ps ps' hit hj) hil hss)
/-- **The region.** -/
theorem drawnS {id : Nat} (plan : List It) (ms : List Nat) (hf : P.follows .mixedOrders = true) (hm : masks ops = ms) (hk : planOkS ops n e plan ms = true) (H : St n w0 a w e h) (ho : ObsS P ops Q n w0 e h plan ops.toList plan)
    (fin : ∀ (G : Nat → Nat) a w, St n w0 a w (outS G 0 plan ++ e) (newS plan G 0 plan ++ heapS plan 0 h) → Q .normal a w) : (Code.region id ops true).wp P Q a w := by
  refine wp_region_any hf ?_
  have none_ : ∀ i, ¬ (Array.replicate ops.size false).getD i false = true := fun i hi => by
    by_cases h : i < ops.size
    · simp [h] at hi
    · simp [h] at hi
  have hlen : plan.length = ops.size := by
    unfold planOkS at hk
    simp only [Bool.and_eq_true] at hk
    exact Nat.eq_of_beq_eq_true hk.1.1.1.1.1.1.1.1
  refine any_planS hm hk ho fin ops.size _ a w.drew (fun _ => 0) (by simp) (fun i o _ hi => absurd hi (none_ i)) ?_
    ⟨H.size, H.defers, H.below.drew, H.env, fun j _ _ _ _ hj => absurd hj (none_ j), fun x hx => ⟨H.own x hx, (H.heap x hx).lt⟩, H.apart, fun k x hx _ => H.heap x (List.mem_iff_getElem?.2 ⟨k, hx⟩), fun k x j _ _ _ _ _ _ _ hl => absurd hl (none_ j), fun j _ _ _ _ hl => absurd hl (none_ j), fun j _ _ _ _ hl => absurd hl (none_ j), fun j _ _ _ _ _ _ _ _ _ _ hl => absurd hl (none_ j), fun j _ _ _ _ _ _ _ _ _ hl => absurd hl (none_ j)⟩
  have := left_le (Array.replicate ops.size false) plan.length
  omega
end
end Go.Proofs.YtcijaoihcckofaaDoor
