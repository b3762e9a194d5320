/- Plain words for the proofs of layer 1: a slice of bytes that reads as a list; a block of bytes; numbers as bytes. No dump is imported. -/
import Derived.WalkKit
import Derived.WalkSpells
import Derived.Deep.Draws
import Derived.Laws.BytesArg
import Derived.Maps.AppendAt
namespace Go.Proofs.Ytiebelmglchbdaa
set_option linter.unusedVariables false
set_option linter.unusedSimpArgs false
open Go Go.RowKit

/-- A byte as a cell. -/
def bv (x : UInt8) : Value := .int .u8 (x.toNat : Int)
theorem bv_def (x : UInt8) : bv x = .int .u8 (x.toNat : Int) := rfl
theorem bv_one (x : UInt8) : (bv x).oneCell' = true := rfl
theorem byte_lt (x : UInt8) : x.toNat < 256 := x.toNat_lt

/-- The cells of a block of bytes. -/
def bvs (l : List UInt8) : Array Value := (l.map bv).toArray
theorem bvs_size (l : List UInt8) : (bvs l).size = l.length := by simp [bvs]
theorem bvs_get (l : List UInt8) (i : Nat) : (bvs l)[i]? = l[i]?.map bv := by simp [bvs]
theorem bvs_set (l : List UInt8) (i : Nat) (x : UInt8) : (bvs l).setIfInBounds i (.int .u8 (x.toNat : Int)) = bvs (l.set i x) := by
  show (bvs l).setIfInBounds i (bv x) = _
  simp [bvs, List.map_set]
def zeros (n : Nat) : List UInt8 := List.replicate n 0
theorem zeros_len (n : Nat) : (zeros n).length = n := by simp [zeros]

/-- The text that has these bytes. -/
def strB (l : List UInt8) : ByteArray := ⟨l.toArray⟩
theorem strB_data (l : List UInt8) : (strB l).data.toList = l := rfl
theorem strB_toList (l : List UInt8) : (strB l).toList = l := ByteArray.toList_mk l
theorem strB_size (l : List UInt8) : (strB l).size = l.length := by simp [strB, ByteArray.size]
theorem strB_self (s : ByteArray) : strB s.data.toList = s := by cases s; simp [strB]

/-- What a block is: cells of a type, or a map. -/
inductive Tid where
  | ty (t : TypeId)
  | map (es : Array MapEntry) (k : Nat)
instance {n : Nat} : OfNat Tid n := ⟨.ty (OfNat.ofNat n)⟩
instance : Coe TypeId Tid := ⟨.ty⟩
/-- A block whose cells are these, none of them frozen; or a map, which has no cells. -/
def Blk (w : World) (g : Nat) : Tid → Array Value → Prop
  | .ty t, cs => w.heap[g]? = some (.cells cs t (0, 0))
  | .map es k, cs => cs = #[] ∧ w.heap[g]? = some (.map es k)
def objOf : Tid → Array Value → Obj
  | .ty t, cs => .cells cs t (0, 0)
  | .map es k, _ => .map es k

section
variable {w w' : World} {g : Nat} {t : Tid} {cs : Array Value}
theorem Blk.obj (h : Blk w g t cs) : w.heap[g]? = some (objOf t cs) := by
  cases t with
  | ty t => exact h
  | map es k => exact h.2
theorem Blk.as (h : Blk w g t cs) (h' : w'.heap[g]? = w.heap[g]?) : Blk w' g t cs := by
  cases t with
  | ty t => exact h'.trans h
  | map es k => exact ⟨h.1, h'.trans h.2⟩
theorem Blk.lt (h : Blk w g t cs) : g < w.heap.size := (Array.getElem?_eq_some_iff.1 h.obj).1
theorem Blk.cell (h : Blk w g t cs) (i : Nat) : w.cell? ⟨g, i, none⟩ = cs[i]? := by
  cases t with
  | ty t => exact cell_of_row w g i cs t (0, 0) h
  | map es k =>
    obtain ⟨rfl, h1⟩ := h
    simp [World.cell?, h1]
theorem Blk.frozen (h : Blk w g t cs) (i : Nat) : w.frozen? ⟨g, i, none⟩ = false := by
  have h1 := h.obj
  cases t <;> simp [World.frozen?, h1, objOf]
theorem Blk.new (w : World) (t : TypeId) (cs : Array Value) : Blk (w.alloc (.cells cs t)) w.heap.size t cs := heap_alloc_new w _
theorem Blk.new' (w : World) (g : Nat) (t : TypeId) (cs : Array Value) (hg : g = w.heap.size) : Blk (w.alloc (.cells cs t)) g t cs := by subst hg; exact Blk.new w t cs
theorem Blk.drew (h : Blk w g t cs) : Blk w.drew g t cs := h
theorem Blk.drewN (h : Blk w g t cs) (n : Nat) : Blk (w.drewN n) g t cs := h
theorem Blk.alloc (h : Blk w g t cs) (o : Obj) : Blk (w.alloc o) g t cs := h.as (Below.heap_alloc w o g h.lt)
theorem Blk.set_ (h : Blk w g t cs) (i : Nat) (u : Value) : Blk (w.setCell ⟨g, i, none⟩ u) g t (cs.setIfInBounds i u) := by
  cases t with
  | ty t =>
    have h1 : w.heap[g]? = some (.cells cs t (0, 0)) := h
    show _ = some (Obj.cells _ t (0, 0))
    simp [World.setCell, Array.getElem?_modify, h1]
  | map es k =>
    obtain ⟨rfl, h1⟩ := h
    refine ⟨rfl, ?_⟩
    simp [World.setCell, Array.getElem?_modify, h1]
theorem Blk.far (h : Blk w g t cs) {p : Addr} (hp : g ≠ p.block) (u : Value) : Blk (w.setCell p u) g t cs := h.as (Below.heap_setCell w p u g hp)
theorem Blk.below {B : Nat} (h : Blk w g t cs) (hb : Below B w w') (hg : g < B) : Blk w' g t cs := h.as (hb.block g hg)
theorem Blk.grown {row : Option Nat} (h : Blk w g t cs) (hb : w.grownBy w' row) (hg : some g ≠ row) : Blk w' g t cs := h.as (hb.block g h.lt hg)
theorem Blk.inj {t' : TypeId} {t : TypeId} {cs' : Array Value} (h : Blk w g t cs) (h' : Blk w g t' cs') : t = t' ∧ cs = cs' := by
  have h : w.heap[g]? = some (.cells cs t (0, 0)) := h
  have h' : w.heap[g]? = some (.cells cs' t' (0, 0)) := h'
  rw [h] at h'
  injection h' with h'
  injection h' with a b
  exact ⟨b, a⟩
end

/-- The slice '(A, n, c)' reads as the bytes l; what is read lies below block B. -/
structure BS (w : World) (B : Nat) (A : Option Addr) (n c : Nat) (l : List UInt8) : Prop where
  len : l.length = n
  cap : n ≤ c
  nil_ : A = none → c = 0
  at_ : 0 < n → ∃ b o, A = some ⟨b, o, none⟩ ∧ b < B ∧ ∀ j x, l[j]? = some x → w.cell? ⟨b, o + j, none⟩ = some (.int .u8 (x.toNat : Int))

section
variable {w w' : World} {B B' n c : Nat} {A : Option Addr} {l : List UInt8}
theorem BS.nil (w : World) (B : Nat) : BS w B none 0 0 [] := ⟨rfl, Nat.le_refl _, fun _ => rfl, fun h => absurd h (by omega)⟩
theorem BS.keep (h : BS w B A n c l) (hk : ∀ p : Addr, p.block < B → w'.cell? p = w.cell? p) : BS w' B A n c l :=
  ⟨h.len, h.cap, h.nil_, fun hn => by
    obtain ⟨b, o, e, hb, hc⟩ := h.at_ hn
    exact ⟨b, o, e, hb, fun j x hx => (hk _ hb).trans (hc j x hx)⟩⟩
theorem BS.more (h : BS w B A n c l) (hB : B ≤ B') : BS w B' A n c l :=
  ⟨h.len, h.cap, h.nil_, fun hn => by
    obtain ⟨b, o, e, hb, hc⟩ := h.at_ hn
    exact ⟨b, o, e, by omega, hc⟩⟩
theorem BS.below (h : BS w B A n c l) (hb : Below B w w') : BS w' B A n c l := h.keep fun _ hp => hb.cell hp
theorem BS.drew (h : BS w B A n c l) : BS w.drew B A n c l := ⟨h.1, h.2, h.3, h.4⟩
theorem BS.drewN (h : BS w B A n c l) (k : Nat) : BS (w.drewN k) B A n c l := ⟨h.1, h.2, h.3, h.4⟩
theorem BS.alloc (h : BS w B A n c l) (hB : B ≤ w.heap.size) (o : Obj) : BS (w.alloc o) B A n c l := h.keep fun p hp => World.cell?_alloc_lt w o p (by omega)
theorem BS.setCell (h : BS w B A n c l) {p : Addr} (hB : B ≤ p.block) (u : Value) : BS (w.setCell p u) B A n c l :=
  h.keep fun q hq => World.cell?_setCell_other w p q u (fun e => by subst e; omega)
theorem BS.grown (h : BS w B A n c l) {row : Option Nat} (hg : w.grownBy w' row) (hB : B ≤ w.heap.size) (hr : ∀ g, row = some g → B ≤ g) : BS w' B A n c l :=
  h.keep fun p hp => World.cell?_of_block (hg.block p.block (by omega) (fun e => by have := hr _ e.symm; omega))
/-- What is read there is the block's. -/
theorem BS.ofBlk {g : Nat} {t : TypeId} (h : Blk w g t (bvs l)) (n : Nat) (hn : n = l.length) (B : Nat) (hB : g < B) : BS w B (some ⟨g, 0, none⟩) n n l :=
  ⟨hn.symm, Nat.le_refl _, (by intro e; cases e), fun _ => ⟨g, 0, rfl, hB, fun j x hx => by rw [Nat.zero_add, h.cell, bvs_get, hx]; rfl⟩⟩
theorem BS.at' (h : BS w B A n c l) {k : Nat} (hk : k < n) : ∃ b o x, A = some ⟨b, o, none⟩ ∧ b < B ∧ l[k]? = some x ∧ w.cell? ⟨b, o + k, none⟩ = some (.int .u8 (x.toNat : Int)) := by
  obtain ⟨b, o, e, hb, hc⟩ := h.at_ (by omega)
  have hl : k < l.length := by have := h.len; omega
  exact ⟨b, o, l[k], e, hb, List.getElem?_eq_getElem hl, hc k _ (List.getElem?_eq_getElem hl)⟩
end

/-- 'string(b)'. -/
theorem run_str {P : Program} {w : World} {B n c : Nat} {A : Option Addr} {l : List UInt8} (h : BS w B A n c l) (src e dst : TypeId) (hs : P.underlying src = some (.slice e)) (he : P.underlying e = some (.int .u8))
    (hd : P.underlying dst = some .string) : (convert src dst (.slice A n c)).run P w = .ok (.string (strB l)) w := by
  rcases A with _ | ⟨b, o, s⟩
  · have hn : n = 0 := by
      rcases Nat.eq_zero_or_pos n with h0 | h0
      · exact h0
      · obtain ⟨_, _, e, _⟩ := h.at_ h0
        cases e
    subst hn
    obtain rfl : l = [] := List.eq_nil_of_length_eq_zero h.len
    rw [run_convert_bytes_nil w src e hs he _ _ dst hd]
    rfl
  · rcases Nat.eq_zero_or_pos n with h0 | h0
    · subst h0
      obtain rfl : l = [] := List.eq_nil_of_length_eq_zero h.len
      rw [run_convert_bytes_string w src dst e _ _ _ hs he hd, run_bytesToString w _ 0 c [] (by simp [run_loadCells w _ 0 (fun _ => undef) (by intro j hj; omega)])]
      rfl
    · obtain ⟨b', o', e', _, hc⟩ := h.at_ h0
      injection e' with e'
      injection e' with e1 e2 e3
      subst e1; subst e2; subst e3
      rw [run_convert_bytes_arg w src e hs he b o n c (l.map fun x => (x.toNat : Int)) (by simpa using h.len) (fun i hi => by
        have hl : i < l.length := by have := h.len; omega
        rw [hc i l[i] (List.getElem?_eq_getElem hl)]
        simp [List.getD, List.getElem?_eq_getElem hl]) dst hd]
      congr 2
      apply ByteArray.ext
      apply Array.toList_inj.1
      show (strOfNums _).data.toList = l
      rw [strOfNums_data, List.map_map]
      conv => rhs; rw [← List.map_id l]
      apply List.map_congr_left
      intro x _
      simp

/-- 'make([]byte, n)'. -/
theorem run_mkb {P : Program} (t e : TypeId) (ht : P.underlying t = some (.slice e)) (he : (P.info? e).map (fun i => (i.zero, i.size, i.bytes)) = some (some (.int .u8 0), 1, 1)) (n : Nat) (hn : n ≤ 281474976710656) (W : World) :
    (Instr.makeSlice t (.int .i64 (n : Int)) (.int .i64 (n : Int))).run P W = .ok (.slice (some ⟨W.heap.size, 0, none⟩) n n) (W.alloc (.cells (bvs (zeros n)) e)) := by
  obtain ⟨i, hi, hz, hs, hb⟩ := info_parts he
  have h := run_make (P := P) W t e i _ ht hi hz .i64 .i64 (n : Int) (n : Int) (by omega) (by omega) (by rw [hb]; omega) (by omega)
  simp only [Int.toNat_natCast, hs, Nat.mul_one] at h
  rw [h]
  have : madeCells (Value.int .u8 0).cells n = bvs (zeros n) := by
    apply Array.toList_inj.1
    show (madeCells #[Value.int .u8 0] n).toList = _
    rw [toList_madeCells_one]
    simp [bvs, zeros, List.map_replicate]
    exact .inr rfl
  rw [this]

/-- 'make([]byte, 0, n)'. -/
theorem run_mkb0 {P : Program} (t e : TypeId) (ht : P.underlying t = some (.slice e)) (he : (P.info? e).map (fun i => (i.zero, i.size, i.bytes)) = some (some (.int .u8 0), 1, 1)) (n : Nat) (hn : n ≤ 281474976710656) (W : World) :
    (Instr.makeSlice t (.int .i64 0) (.int .i64 (n : Int))).run P W = .ok (.slice (some ⟨W.heap.size, 0, none⟩) 0 n) (W.alloc (.cells (bvs (zeros n)) e)) := by
  obtain ⟨i, hi, hz, hs, hb⟩ := info_parts he
  have h := run_make (P := P) W t e i _ ht hi hz .i64 .i64 0 (n : Int) (by omega) (by omega) (by rw [hb]; omega) (by omega)
  simp only [Int.toNat_natCast, hs, Nat.mul_one] at h
  rw [h]
  have : madeCells (Value.int .u8 0).cells n = bvs (zeros n) := by
    apply Array.toList_inj.1
    show (madeCells #[Value.int .u8 0] n).toList = _
    rw [toList_madeCells_one]
    simp [bvs, zeros, List.map_replicate]
    exact .inr rfl
  rw [this]
  rfl

/-- The slice v of bytes l is the call's own: nil and nothing, or the head of a block from 'base' on. -/
def OwnB (w : World) (base : Nat) (e : TypeId) (v : Value) (l : List UInt8) : Prop := w.ownsRow base e 1 v l.length (l.map bv)

section
variable {w w' : World} {base : Nat} {e : TypeId} {v : Value} {l : List UInt8}
theorem OwnB.nil (w : World) (base : Nat) (e : TypeId) : OwnB w base e (.slice none 0 0) [] := ⟨rfl, .inl ⟨rfl, rfl⟩⟩
theorem OwnB.alloc (h : OwnB w base e v l) (o : Obj) : OwnB (w.alloc o) base e v l := World.ownsRow.alloc h o
theorem OwnB.drew (h : OwnB w base e v l) : OwnB w.drew base e v l := h
theorem OwnB.drewN (h : OwnB w base e v l) (k : Nat) : OwnB (w.drewN k) base e v l := h
theorem OwnB.ofBlk {g : Nat} (h : Blk w g e (bvs l)) (n : Nat) (hn : n = l.length) (hm : n ≤ maxLen) (hb : base ≤ g) : OwnB w base e (.slice (some ⟨g, 0, none⟩) n n) l := by
  subst hn
  exact ⟨by simp, .inr ⟨g, _, _, rfl, hb, h, Nat.le_refl _, hm, by simp [bvs], by rw [List.take_of_length_le (by simp [bvs])]; simp [bvs]⟩⟩
theorem OwnB.form (h : OwnB w base e v l) : ∃ A n c, v = .slice A n c ∧ BS w w.heap.size A n c l ∧ ∀ g, v.ownBlock = some g → base ≤ g := by
  have hlt := World.ownsRow.lt h
  rcases h.2 with ⟨rfl, h0⟩ | ⟨g, cap, cur, rfl, hb, hh, hc, hm, hs, ht⟩
  · obtain rfl : l = [] := List.eq_nil_of_length_eq_zero h0
    exact ⟨none, 0, 0, rfl, BS.nil _ _, fun g hg => (hlt g hg).1⟩
  · refine ⟨_, _, _, rfl, ⟨rfl, hc, by intro e; (cases e), fun _ => ⟨g, 0, rfl, (hlt g rfl).2, fun j x hx => ?_⟩⟩, fun g hg => (hlt g hg).1⟩
    have := World.ownsRow.cells h (g := g) rfl j (bv x) (by simp [hx])
    rw [Addr.add_lit] at this
    exact this
theorem OwnB.own (h : OwnB w base e v l) {g : Nat} (hg : v.ownBlock = some g) : base ≤ g ∧ g < w.heap.size := World.ownsRow.lt h g hg
end

section
variable {P : Program} {w : World} {ops : Array Oper} {rest : List Oper} {o : Oper} {a : Act} {Q : Exit → Act → World → Prop}
theorem bs_cells {B : Nat} {A : Option Addr} {m c : Nat} {l : List UInt8} (hr : BS w B A m c l) : ∀ ad, A = some ad → ∀ j u, (l.map bv)[j]? = some u → w.cell? (ad.add j) = some u := by
  rintro ad rfl j u hu
  rw [List.getElem?_map] at hu
  obtain ⟨x, hx, rfl⟩ := Option.map_eq_some_iff.1 hu
  obtain ⟨b, o, e, _, hc⟩ := hr.at_ (by have := hr.len; have := (List.getElem?_eq_some_iff.1 hx).1; omega)
  injection e with e
  subst e
  rw [Addr.add_lit]
  exact hc j x hx
theorem bv_all (l : List UInt8) : ∀ u ∈ l.map bv, u.oneCell' = true := by
  intro u hu
  obtain ⟨_, _, rfl⟩ := List.mem_map.1 hu
  rfl

/-- 'append(v, x...)' of bytes, v of a capacity that holds them. -/
theorem wpList_app_fit (hg : o.guard = none) (s x : Operand) (t : TypeId) (ho : o.op = .call { callee := .builtin .append, args := #[s, x], argTypes := #[t, t] })
    (e : TypeId) (ht : P.underlying t = some (.slice e)) (he : (P.info? e).map (fun i => (i.zero, i.size, i.bytes)) = some (some (.int .u8 0), 1, 1))
    (base g k cap : Nat) (l : List UInt8) (hs : a.eval s = .slice (some ⟨g, 0, none⟩) k cap) (hk : Hid (k = l.length)) (hown : OwnB w base e (.slice (some ⟨g, 0, none⟩) k cap) l)
    (B m c : Nat) (A : Option Addr) (l2 : List UInt8) (hx : a.eval x = .slice A m c) (hr : BS w B A m c l2) (hroom : k + m ≤ cap)
    (h : ∀ w', OwnB w' base e (.slice (some ⟨g, 0, none⟩) (k + m) cap) (l ++ l2) → w.grownBy w' (some g) → wpList P ops Q rest (a.put o.dst (.slice (some ⟨g, 0, none⟩) (k + m) cap)) w') : wpList P ops Q (o :: rest) a w := by
  obtain ⟨i, hi, hz, hsz, hby⟩ := info_parts he
  have hk := hk.out
  subst hk
  have hm := hr.len
  subst hm
  refine wpList_append_fits_any w hg s x t ho base e i 1 ht hi hsz g _ cap (l.map bv) hs hown A _ c (l2.map bv) hx (by simp) (fun e => ⟨?_, hr.nil_ e⟩) (bs_cells hr) (bv_all _) hroom ?_
  · have := hr.nil_ e
    have := hr.cap
    omega
  · intro w' h1 h2
    exact h w' (by unfold OwnB; rw [List.length_append, List.map_append]; exact h1) h2

/-- 'append(v, x...)' of bytes, v the call's own: it may grow. -/
theorem run_app_own (t ty : TypeId)
    (e : TypeId) (ht : P.underlying t = some (.slice e)) (he : (P.info? e).map (fun i => (i.zero, i.size, i.bytes)) = some (some (.int .u8 0), 1, 1))
    (base : Nat) (v : Value) (l : List UInt8) (hown : OwnB w base e v l)
    (B m c : Nat) (A : Option Addr) (l2 : List UInt8) (hr : BS w B A m c l2) (hbig : l.length + m ≤ 140737488355328) (hbase : base ≤ w.heap.size) :
    ∃ v' w', (Builtin.append_ #[t, t] ty #[v, .slice A m c]).run P w = .ok v' w' ∧ OwnB w' base e v' (l ++ l2) ∧ w.grownBy w' v.ownBlock ∧ (v'.ownBlock = v.ownBlock ∨ v'.ownBlock = some w.heap.size) := by
  obtain ⟨i, hi, hz, hsz, hby⟩ := info_parts he
  have hm := hr.len
  subst hm
  rcases A with _ | ad
  · have h0 := hr.nil_ rfl
    have h1 := hr.cap
    obtain rfl : l2 = [] := List.eq_nil_of_length_eq_zero (by omega)
    subst h0
    exact ⟨v, w, run_append_owned_none (P := P) w base t ty e i 1 ht hi v _ _ hown, by simpa using hown, World.grownBy.refl _ _, .inl rfl⟩
  · obtain ⟨v', w', h1, h2, h3, _, h5⟩ := run_append_own_at (P := P) w base t ty e i _ 1 1 ht hi hz hsz hby rfl (by omega) v _ _ hown ad l2.length c (l2.map bv) (by simp) (bs_cells hr _ rfl) (bv_all _) (by simp only [maxLen]; omega) (by omega) hbase
    exact ⟨v', w', h1, by unfold OwnB; rw [List.length_append, List.map_append]; exact h2, h3, h5⟩
theorem wpList_app_own (hg : o.guard = none) (s x : Operand) (t : TypeId) (ho : o.op = .call { callee := .builtin .append, args := #[s, x], argTypes := #[t, t] })
    (e : TypeId) (ht : P.underlying t = some (.slice e)) (he : (P.info? e).map (fun i => (i.zero, i.size, i.bytes)) = some (some (.int .u8 0), 1, 1))
    (base : Nat) (v : Value) (l : List UInt8) (hs : a.eval s = v) (hown : OwnB w base e v l)
    (B m c : Nat) (A : Option Addr) (l2 : List UInt8) (hx : a.eval x = .slice A m c) (hr : BS w B A m c l2) (hbig : l.length + m ≤ 140737488355328) (hbase : base ≤ w.heap.size)
    (h : ∀ v' w', OwnB w' base e v' (l ++ l2) → w.grownBy w' v.ownBlock → (v'.ownBlock = v.ownBlock ∨ v'.ownBlock = some w.heap.size) → wpList P ops Q rest (a.put o.dst v') w') : wpList P ops Q (o :: rest) a w := by
  refine wpList_plain hg fun K hK => ?_
  obtain ⟨v', w', hrun, h1, h2, h3⟩ := run_app_own (P := P) (w := w) t o.type e ht he base v l hown B m c A l2 hr hbig hbase
  unfold Oper.wp
  simp [execOp, ho, resolve, invoke, builtin, hs, hx, hrun, Result.andThen]
  exact hK _ _ (h v' w' h1 h2 h3)

/-- 'string(b)', as an operation. -/
theorem wpList_str (hg : o.guard = none) (src dst : TypeId) (x : Operand) (ho : o.op = .convert src dst x) (e : TypeId) (hs : P.underlying src = some (.slice e)) (he : P.underlying e = some (.int .u8)) (hd : P.underlying dst = some .string)
    (B n c : Nat) (A : Option Addr) (l : List UInt8) (hx : a.eval x = .slice A n c) (hr : BS w B A n c l) (h : wpList P ops Q rest (a.put o.dst (.string (strB l))) w) : wpList P ops Q (o :: rest) a w := by
  refine wpList_plain hg fun K hK => ?_
  have hrun := run_str (P := P) hr src e dst hs he hd
  unfold Oper.wp
  simp [execOp, ho, hx, hrun, Result.andThen]
  exact hK _ _ h
end

/-! Parts of a slice of bytes. -/
theorem add_zero_addr (a : Addr) : a.add 0 = a := by simp [Addr.add]
theorem map_add_zero (A : Option Addr) : A.map (fun a => a.add 0) = A := by
  cases A with
  | none => rfl
  | some a => simp [add_zero_addr]
theorem size_u8 {P : Program} {e : TypeId} (he : (P.info? e).map (fun i => (i.zero, i.size, i.bytes)) = some (some (.int .u8 0), 1, 1)) (W : World) : (sizeOf e).run P W = .ok 1 W := by
  obtain ⟨i, hi, hz, hs, hb⟩ := info_parts he
  simp [sizeOf, typeInfo, hi, hs]
/-- 'b[:k:k]'. -/
theorem run_head {P : Program} (t e : TypeId) (ht : P.underlying t = some (.slice e)) (he : (P.info? e).map (fun i => (i.zero, i.size, i.bytes)) = some (some (.int .u8 0), 1, 1)) (A : Option Addr) (n c k : Nat) (hk : k ≤ c) (W : World) :
    (Instr.slice t (.slice A n c) none (some (.int .i64 (k : Int))) (some (.int .i64 (k : Int)))).run P W = .ok (.slice A k k) W := by
  have hel : P.elem t = e := by simp [Program.elem, ht]
  rw [run_slice_hm W t A n c (by rw [hel]; exact ht) _ _ _ _ (by omega) (by omega) (by omega), hel, size_u8 he]
  simp only [Result.andThen, sliced, Int.toNat_natCast, Nat.zero_mul, Nat.sub_zero, map_add_zero]
  split <;> rfl
/-- 'b[:k]'. -/
theorem run_head2 {P : Program} (t e : TypeId) (ht : P.underlying t = some (.slice e)) (he : (P.info? e).map (fun i => (i.zero, i.size, i.bytes)) = some (some (.int .u8 0), 1, 1)) (A : Option Addr) (n c k : Nat) (hk : k ≤ c) (W : World) :
    (Instr.slice t (.slice A n c) none (some (.int .i64 (k : Int))) none).run P W = .ok (.slice A k c) W := by
  have hel : P.elem t = e := by simp [Program.elem, ht]
  rw [run_slice_h W t A n c (by rw [hel]; exact ht) _ _ (by omega) (by omega), hel, size_u8 he]
  simp only [Result.andThen, sliced, Int.toNat_natCast, Nat.zero_mul, Nat.sub_zero, map_add_zero]
  split <;> rfl
theorem BS.head {w : World} {B n c : Nat} {A : Option Addr} {l : List UInt8} (h : BS w B A n c l) {k : Nat} (hk : k ≤ n) : BS w B A k k (l.take k) :=
  ⟨by rw [List.length_take, h.len]; omega, Nat.le_refl _, fun e => by have := h.nil_ e; have := h.cap; omega, fun hp => by
    obtain ⟨b, o, e, hb, hc⟩ := h.at_ (by omega)
    refine ⟨b, o, e, hb, fun j x hx => hc j x ?_⟩
    rw [List.getElem?_take] at hx
    split at hx
    · exact hx
    · cases hx⟩
theorem BS.head2 {w : World} {B n c : Nat} {A : Option Addr} {l : List UInt8} (h : BS w B A n c l) {k : Nat} (hk : k ≤ n) : BS w B A k c (l.take k) :=
  ⟨(h.head hk).len, by have := h.cap; omega, h.nil_, (h.head hk).at_⟩
/-- 'b[k:]'. -/
theorem BS.tail {P : Program} (t e : TypeId) (ht : P.underlying t = some (.slice e)) (he : (P.info? e).map (fun i => (i.zero, i.size, i.bytes)) = some (some (.int .u8 0), 1, 1)) {w : World} {B n c : Nat} {A : Option Addr} {l : List UInt8}
    (h : BS w B A n c l) {k : Nat} (hk : k ≤ n) :
    ∃ A', (∀ W, (Instr.slice t (.slice A n c) (some (.int .i64 (k : Int))) none none).run P W = .ok (.slice A' (n - k) (c - k)) W) ∧ BS w B A' (n - k) (c - k) (l.drop k) := by
  have hel : P.elem t = e := by simp [Program.elem, ht]
  have hnc := h.cap
  refine ⟨if c = k then A else A.map (fun a => a.add k), fun W => ?_, ?_⟩
  · rw [run_slice_l W t A n c (by rw [hel]; exact ht) _ _ (by omega) (by omega), hel, size_u8 he]
    simp only [Result.andThen, sliced, Int.toNat_natCast, Nat.mul_one]
  · refine ⟨by rw [List.length_drop, h.len], by omega, fun e => ?_, fun hp => ?_⟩
    · split at e
      · omega
      · cases A with
        | none => have := h.nil_ rfl; omega
        | some a => cases e
    · obtain ⟨b, o, e, hb, hc⟩ := h.at_ (by omega)
      subst e
      rw [if_neg (by omega)]
      refine ⟨b, o + k, by simp [Addr.add_lit], hb, fun j x hx => ?_⟩
      rw [List.getElem?_drop] at hx
      have := hc _ x hx
      rw [← Nat.add_assoc] at this
      exact this

/-! What a store into a block turns. -/
theorem grown_set (w : World) (g i : Nat) (u : Value) : w.grownBy (w.setCell ⟨g, i, none⟩ u) (some g) :=
  ⟨rfl, rfl, rfl, by simp [World.setCell], fun k _ h => Below.heap_setCell w _ u k (fun e => h (by rw [e]))⟩
theorem grown_trans {a b c : World} {row : Option Nat} (h : a.grownBy b row) (k : b.grownBy c row) : a.grownBy c row := World.grownBy.trans h k
theorem grown_drew {a b : World} {row : Option Nat} (h : a.grownBy b row) : a.grownBy b.drew row := ⟨h.os, h.tape, h.output, h.size, h.block⟩
theorem grown_of_below {a b : World} (h : Below a.heap.size a b) (row : Option Nat) : a.grownBy b row := ⟨h.os, h.tape, h.output, h.size, fun i hi _ => h.block i hi⟩
/-- Bytes below block g are as they were where only g has turned. -/
theorem BS.row {w w' : World} {g n c : Nat} {A : Option Addr} {l : List UInt8} (h : BS w g A n c l) (hg : w.grownBy w' (some g)) (hlt : g ≤ w.heap.size) : BS w' g A n c l :=
  h.keep fun p hp => World.cell?_of_block (hg.block p.block (by omega) (fun e => by injection e with e; omega))
theorem Blk.row {w w' : World} {g r : Nat} {t : TypeId} {cs : Array Value} (h : Blk w g t cs) (hg : w.grownBy w' (some r)) (hne : g ≠ r) : Blk w' g t cs := h.grown hg (fun e => hne (by injection e))

/-- The slice '(A, n, c)' of slices of bytes reads as the lists L. -/
structure RS (w : World) (B : Nat) (A : Option Addr) (n c : Nat) (L : List (List UInt8)) : Prop where
  len : L.length = n
  at_ : 0 < n → ∃ b o, A = some ⟨b, o, none⟩ ∧ b < B ∧ ∀ j l, L[j]? = some l → ∃ Aj nj cj, w.cell? ⟨b, o + j, none⟩ = some (.slice Aj nj cj) ∧ BS w B Aj nj cj l
section
variable {w w' : World} {B n c : Nat} {A : Option Addr} {L : List (List UInt8)}
theorem RS.keep (h : RS w B A n c L) (hk : ∀ p : Addr, p.block < B → w'.cell? p = w.cell? p) : RS w' B A n c L :=
  ⟨h.len, fun hn => by
    obtain ⟨b, o, e, hb, hc⟩ := h.at_ hn
    refine ⟨b, o, e, hb, fun j l hl => ?_⟩
    obtain ⟨Aj, nj, cj, h1, h2⟩ := hc j l hl
    exact ⟨Aj, nj, cj, (hk _ hb).trans h1, h2.keep hk⟩⟩
theorem RS.below (h : RS w B A n c L) (hb : Below B w w') : RS w' B A n c L := h.keep fun _ hp => hb.cell hp
theorem RS.at' (h : RS w B A n c L) {k : Nat} (hk : k < n) : ∃ b o l Aj nj cj, A = some ⟨b, o, none⟩ ∧ b < B ∧ L[k]? = some l ∧ w.cell? ⟨b, o + k, none⟩ = some (.slice Aj nj cj) ∧ BS w B Aj nj cj l := by
  obtain ⟨b, o, e, hb, hc⟩ := h.at_ (by omega)
  have hl : k < L.length := by have := h.len; omega
  obtain ⟨Aj, nj, cj, h1, h2⟩ := hc k L[k] (List.getElem?_eq_getElem hl)
  exact ⟨b, o, L[k], Aj, nj, cj, e, hb, List.getElem?_eq_getElem hl, h1, h2⟩
end

/-- The first k parts, one behind the other. -/
def flat (L : List (List UInt8)) (k : Nat) : List UInt8 := (L.take k).flatten
theorem flat_zero (L : List (List UInt8)) : flat L 0 = [] := rfl
theorem flat_step {L : List (List UInt8)} {k : Nat} {l : List UInt8} (h : L[k]? = some l) : flat L (k + 1) = flat L k ++ l := by
  obtain ⟨hk, rfl⟩ := List.getElem?_eq_some_iff.1 h
  unfold flat
  rw [List.take_succ_eq_append_getElem hk, List.flatten_append]
  simp
theorem flat_all {L : List (List UInt8)} {n : Nat} (h : L.length = n) : flat L n = L.flatten := by unfold flat; rw [List.take_of_length_le (by omega)]
theorem flat_le (L : List (List UInt8)) (k : Nat) : (flat L k).length ≤ L.flatten.length := by
  unfold flat
  conv => rhs; rw [← List.take_append_drop k L, List.flatten_append, List.length_append]
  omega

end Go.Proofs.Ytiebelmglchbdaa
