/- What a function's own variables hold, whatever its callees make; rows that are loaded in a region that draws its order. No dump is imported. -/
import Derived.Test.YtiebelmglchbdaaWords
import Derived.Deep.RegionHeld3
import Derived.Laws.CopyOwn
import Derived.Lib.Hide
namespace Go.Proofs.Ytiebelmglchbdaa
set_option linter.unusedVariables false
set_option linter.unusedSimpArgs false
open Go.RowKit

/-- In W, that came of w: the blocks of L hold these rows, those of R rows of these sizes; all that was there in w is as it was. -/
structure Fr (w W : World) (L : List (Nat × TypeId × Array Value)) (R : List (Nat × TypeId × Nat)) : Prop where
  below : Below w.heap.size w W
  rows : ∀ p ∈ L, Blk W p.1 p.2.1 p.2.2
  some_ : ∀ p ∈ R, ∃ cs : Array Value, cs.size = p.2.2 ∧ Blk W p.1 p.2.1 cs
  own : ∀ p ∈ R, w.heap.size ≤ p.1
section
variable {w W W' : World} {L L' : List (Nat × TypeId × Array Value)} {R R' : List (Nat × TypeId × Nat)}
theorem Fr.start (w : World) : Fr w w [] [] := ⟨Below.refl _ _, (fun _ h => by cases h), (fun _ h => by cases h), (fun _ h => by cases h)⟩
theorem Fr.get (h : Fr w W L R) {g : Nat} {t : TypeId} {cs : Array Value} (hm : (g, t, cs) ∈ L) : Blk W g t cs := h.rows _ hm
theorem Fr.ext (h : Fr w W L R) (hb : Below W.heap.size W W') : Fr w W' L R :=
  ⟨h.below.trans (hb.mono h.below.size), fun p hp => (h.rows p hp).below hb (h.rows p hp).lt, fun p hp => by
    obtain ⟨cs, e, k⟩ := h.some_ p hp
    exact ⟨cs, e, k.below hb k.lt⟩, h.own⟩
theorem Fr.drew (h : Fr w W L R) : Fr w W.drew L R := ⟨h.below.drew, h.rows, h.some_, h.own⟩
theorem Fr.row (h : Fr w W L R) (cs : Array Value) (t : TypeId) {g : Nat} (hg : g = W.heap.size) : Fr w (W.alloc (.cells cs t)) ((g, t, cs) :: L) R := by
  subst hg
  refine ⟨h.below.alloc h.below.size _, fun p hp => ?_, fun p hp => ?_, h.own⟩
  · rcases List.mem_cons.1 hp with rfl | hp
    · exact Blk.new _ _ _
    · exact (h.rows p hp).alloc _
  · obtain ⟨cs, e, k⟩ := h.some_ p hp
    exact ⟨cs, e, k.alloc _⟩
theorem Fr.any (h : Fr w W L R) (cs : Array Value) (t : TypeId) (n : Nat) (hn : cs.size = n) {g : Nat} (hg : g = W.heap.size) : Fr w (W.alloc (.cells cs t)) L ((g, t, n) :: R) := by
  subst hg
  refine ⟨h.below.alloc h.below.size _, fun p hp => (h.rows p hp).alloc _, fun p hp => ?_, fun p hp => ?_⟩
  · rcases List.mem_cons.1 hp with rfl | hp
    · exact ⟨cs, hn, Blk.new _ _ _⟩
    · obtain ⟨cs, e, k⟩ := h.some_ p hp
      exact ⟨cs, e, k.alloc _⟩
  · rcases List.mem_cons.1 hp with rfl | hp
    · exact h.below.size
    · exact h.own p hp
theorem Fr.pass (h : Fr w W L R) (o : Obj) : Fr w (W.alloc o) L R := h.ext ((Below.refl _ _).alloc (Nat.le_refl _) _)
theorem Blk.setRow_other {g k : Nat} {t : Tid} {cs : Array Value} (h : Blk W g t cs) (hne : g ≠ k) (c : Array Value) : Blk (W.setRow k c) g t cs := h.as (Go.setRow_other W k g c hne)
theorem Blk.setRow_same {g : Nat} {t : TypeId} {cs : Array Value} (h : Blk W g t cs) (c : Array Value) : Blk (W.setRow g c) g t c := setRow_heap W g cs c t (0, 0) h
/-- A row of which but the size was known is written. -/
theorem Fr.setAny (h : Fr w W L R) {g : Nat} {t : TypeId} {c : Array Value} {n : Nat} (hc : c.size = n) (hm : (g, t, n) ∈ R) (hne : ∀ p ∈ L, p.1 ≠ g) : Fr w (W.setRow g c) L R := by
  subst hc
  refine ⟨below_setRow h.below (h.own _ hm) _, fun p hp => (h.rows p hp).setRow_other (hne p hp) _, fun p hp => ?_, h.own⟩
  obtain ⟨cs, e, k⟩ := h.some_ p hp
  by_cases hg : p.1 = g
  · obtain ⟨cs', e', k'⟩ := h.some_ _ hm
    rw [hg] at k
    have := (k.inj k').2
    refine ⟨c, ?_, ?_⟩
    · rw [← e, this, e']
    · rw [hg]
      exact k.setRow_same _
  · exact ⟨cs, e, k.setRow_other hg _⟩
/-- A cell of the row that is told first is written. -/
theorem Fr.setHead {g : Nat} {t : TypeId} {cs : Array Value} (h : Fr w W ((g, t, cs) :: L) R) (hL : ∀ p ∈ L, p.1 ≠ g) (hR : ∀ p ∈ R, p.1 ≠ g) (i : Nat) (v : Value) (hw : w.heap.size ≤ g) : Fr w (W.setCell ⟨g, i, none⟩ v) ((g, t, cs.setIfInBounds i v) :: L) R := by
  refine ⟨h.below.setCell hw _, fun p hp => ?_, fun p hp => ?_, h.own⟩
  · rcases List.mem_cons.1 hp with rfl | hp
    · exact (h.rows (g, t, cs) (by simp)).set_ i v
    · exact (h.rows p (by simp [hp])).far (hL p hp) v
  · obtain ⟨c, e, k⟩ := h.some_ p hp
    exact ⟨c, e, k.far (hR p hp) v⟩
/-- The row that is told first is written. -/
theorem Fr.setRowHead {g : Nat} {t : TypeId} {cs : Array Value} (h : Fr w W ((g, t, cs) :: L) R) (hL : ∀ p ∈ L, p.1 ≠ g) (hR : ∀ p ∈ R, p.1 ≠ g) (c : Array Value) (hw : w.heap.size ≤ g) : Fr w (W.setRow g c) ((g, t, c) :: L) R := by
  refine ⟨below_setRow h.below hw _, fun p hp => ?_, fun p hp => ?_, h.own⟩
  · rcases List.mem_cons.1 hp with rfl | hp
    · exact (h.rows (g, t, cs) (by simp)).setRow_same c
    · exact (h.rows p (by simp [hp])).setRow_other (hL p hp) _
  · obtain ⟨d, e, k⟩ := h.some_ p hp
    exact ⟨d, e, k.setRow_other (hR p hp) _⟩
/-- A row that is told in neither list is written. -/
theorem Fr.setOut (h : Fr w W L R) {g : Nat} (hw : w.heap.size ≤ g) (hL : ∀ p ∈ L, p.1 ≠ g) (hR : ∀ p ∈ R, p.1 ≠ g) (c : Array Value) : Fr w (W.setRow g c) L R :=
  ⟨below_setRow h.below hw _, fun p hp => (h.rows p hp).setRow_other (hL p hp) _, fun p hp => by
    obtain ⟨d, e, k⟩ := h.some_ p hp
    exact ⟨d, e, k.setRow_other (hR p hp) _⟩, h.own⟩
/-- The lists may be told otherwise. -/
theorem Fr.sub (h : Fr w W L R) (hL : ∀ p ∈ L', p ∈ L) (hR : ∀ p ∈ R', p ∈ R) : Fr w W L' R' := ⟨h.below, fun p hp => h.rows p (hL p hp), fun p hp => h.some_ p (hR p hp), fun p hp => h.own p (hR p hp)⟩
theorem Fr.more (h : Fr w W L R) {g : Nat} {t : TypeId} {cs : Array Value} (hb : Blk W g t cs) : Fr w W ((g, t, cs) :: L) R := ⟨h.below, fun p hp => by
  rcases List.mem_cons.1 hp with rfl | hp
  · exact hb
  · exact h.rows p hp, h.some_, h.own⟩
theorem Fr.size (h : Fr w W L R) : w.heap.size ≤ W.heap.size := h.below.size
theorem Fr.old (h : Fr w W L R) {g : Nat} {t : TypeId} {n : Nat} (hm : (g, t, n) ∈ R) : ∃ cs : Array Value, cs.size = n ∧ Blk W g t cs := h.some_ _ hm
end

/-- In W, that came of wc in the midst of a statement: the rows of L, all of which were there in wc, are as they were. -/
structure Fn (wc W : World) (L : List (Nat × TypeId × Array Value)) : Prop where
  below : Below wc.heap.size wc W
  rows : ∀ p ∈ L, Blk W p.1 p.2.1 p.2.2
  lt : ∀ p ∈ L, p.1 < wc.heap.size
section
variable {w wc W W' : World} {L : List (Nat × TypeId × Array Value)} {R : List (Nat × TypeId × Nat)}
theorem Fr.now (h : Fr w wc L R) : Fn wc wc L := ⟨Below.refl _ _, h.rows, fun p hp => (h.rows p hp).lt⟩
theorem Fn.get (h : Fn wc W L) {g : Nat} {t : TypeId} {cs : Array Value} (hm : (g, t, cs) ∈ L) : Blk W g t cs := h.rows _ hm
theorem Fn.ext (h : Fn wc W L) (hb : Below W.heap.size W W') : Fn wc W' L := ⟨h.below.trans (hb.mono h.below.size), fun p hp => (h.rows p hp).below hb (h.rows p hp).lt, h.lt⟩
theorem Fn.sub {L' : List (Nat × TypeId × Array Value)} (h : Fn wc W L) (hL : ∀ p ∈ L', p ∈ L) : Fn wc W L' := ⟨h.below, fun p hp => h.rows p (hL p hp), fun p hp => h.lt p (hL p hp)⟩
theorem Fn.drew (h : Fn wc W L) : Fn wc W.drew L := ⟨h.below.drew, h.rows, h.lt⟩
theorem Fn.pass (h : Fn wc W L) (o : Obj) : Fn wc (W.alloc o) L := h.ext ((Below.refl _ _).alloc (Nat.le_refl _) _)
theorem Fn.fresh (h : Fn wc W L) (t : TypeId) (cs : Array Value) : Blk (W.alloc (.cells cs t)) W.heap.size t cs ∧ wc.heap.size ≤ W.heap.size := ⟨Blk.new _ _ _, h.below.size⟩
theorem Fn.setFresh (h : Fn wc W L) {g : Nat} (hg : wc.heap.size ≤ g) (c : Array Value) : Fn wc (W.setRow g c) L :=
  ⟨below_setRow h.below hg _, fun p hp => (h.rows p hp).setRow_other (by have := h.lt p hp; omega) _, h.lt⟩
end

/-- A row that is loaded yields its cells in every world that the region may meet. -/
theorem yields_row {P : Program} {ops : Array Oper} {S : World → Prop} {o : Oper} {a : Act} (hw : Region.wanted o (yielded ops a.tmps) = true) (ty : TypeId) (x : Operand) (ho : o.op = .load ty x) (g : Nat) (hx : a.eval x = .pointer (some ⟨g, 0, none⟩))
    (t : TypeId) (cs : Array Value) (d : TypeDesc) (hB : ∀ W, S W → Blk W g t cs) (hu : P.underlying ty = some d) (hd : (match d with | .struct _ | .array _ _ => true | _ => false) = true) (hi : (P.info? ty).map (·.size) = some cs.size) :
    YieldsIf P ops S o (.agg cs) a :=
  Or.inl ⟨hw, fun w hS => by
    unfold execOp
    simp only [ho, hx, Instr.loadAt, Instr.sureAddr, Sem.run_bind, Sem.run_pure, Result.andThen_ok, run_loadVar_row w g t ty cs (0, 0) d (hB w hS) hu hd hi]⟩
/-- A cell that is loaded. -/
theorem yields_cell {P : Program} {ops : Array Oper} {S : World → Prop} {o : Oper} {a : Act} {v : Value} (hw : Region.wanted o (yielded ops a.tmps) = true) (h : ∀ W, S W → (execOp a.eval o).run P W = .ok (.value v) W) : YieldsIf P ops S o v a := Or.inl ⟨hw, h⟩
/-- Two results of rows. -/
theorem results_row2 {P : Program} {fn : Func} {p q : Tmp} {ty : TypeId} (h : fn.results = #[.cell p ty, .cell q ty]) {tmps : Array Value} {w : World} {g k : Nat} {t : TypeId} {cs ds : Array Value} {d : TypeDesc}
    (hp : tmps.getD p undef = .pointer (some ⟨g, 0, none⟩)) (hq : tmps.getD q undef = .pointer (some ⟨k, 0, none⟩)) (hg : Blk w g t cs) (hk : Blk w k t ds)
    (hu : P.underlying ty = some d) (hd : (match d with | .struct _ | .array _ _ => true | _ => false) = true) (hi : (P.info? ty).map (·.size) = some cs.size) (hj : (P.info? ty).map (·.size) = some ds.size) :
    (results fn tmps).run P w = .ok (.tuple #[.agg cs, .agg ds]) w := by
  have hp' : tmps[p]?.getD undef = .pointer (some ⟨g, 0, none⟩) := by simpa using hp
  have hq' : tmps[q]?.getD undef = .pointer (some ⟨k, 0, none⟩) := by simpa using hq
  simp [results, h, hp', hq', asAddr, run_loadVar_row w g t ty cs (0, 0) d hg hu hd hi, run_loadVar_row w k t ty ds (0, 0) d hk hu hd hj]
/-- A row and a plain result. -/
theorem results_row_tmp {P : Program} {fn : Func} {p q : Tmp} {ty : TypeId} (h : fn.results = #[.cell p ty, .tmp q]) {tmps : Array Value} {w : World} {g : Nat} {t : TypeId} {cs : Array Value} {v : Value} {d : TypeDesc}
    (hp : tmps.getD p undef = .pointer (some ⟨g, 0, none⟩)) (hq : tmps.getD q undef = v) (hg : Blk w g t cs)
    (hu : P.underlying ty = some d) (hd : (match d with | .struct _ | .array _ _ => true | _ => false) = true) (hi : (P.info? ty).map (·.size) = some cs.size) :
    (results fn tmps).run P w = .ok (.tuple #[.agg cs, v]) w := by
  have hp' : tmps[p]?.getD undef = .pointer (some ⟨g, 0, none⟩) := by simpa using hp
  have hq' : tmps[q]?.getD undef = v := by simpa using hq
  simp [results, h, hp', hq', asAddr, run_loadVar_row w g t ty cs (0, 0) d hg hu hd hi]
/-- The operations and what is asked behind them, under names. -/
theorem wpAnyH_name {P : Program} {md : Region.Mode} {ops : Array Oper} {Q : Exit → Act → World → Prop} {S : World → Prop} {n : Nat} {l : Array Bool} {a : Act} {w : World}
    (h : ∀ (ops' : Array Oper) (Q' : Exit → Act → World → Prop), ops = ops' → Q = Q' → wpAnyH P md ops' Q' S n l a w) : wpAnyH P md ops Q S n l a w := h ops Q rfl rfl
theorem wpAnyH_cast {P : Program} {md : Region.Mode} {ops : Array Oper} {Q : Exit → Act → World → Prop} {S : World → Prop} {n n' : Nat} {l l' : Array Bool} {a : Act} {w : World}
    (hn : n = n') (hl : l = l') (h : wpAnyH P md ops Q S n' l' a w) : wpAnyH P md ops Q S n l a w := by
  subst hn
  subst hl
  exact h
end Go.Proofs.Ytiebelmglchbdaa
