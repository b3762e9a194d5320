/- Slices of slices of bytes as facts (RF; LF: a literal), literals of them, a text's bytes that are marked. -/
import Derived.Test.YthjechjffhhiiaaDoorZb
import Derived.Great.Walk
namespace Go.Proofs.YthjechjffhhiiaaDoor
set_option linter.unusedVariables false
set_option linter.unusedSimpArgs false
set_option maxRecDepth 100000
open Go Go.RowKit

def RF (L : List (List UInt8)) (v : Value) (w : World) : Prop := ∃ A n c, v = .slice A n c ∧ RS w w.heap.size A n c L
section
variable {n : Nat} {w0 w w' : World} {a : Act} {e : Env} {h : Hep} {Q : Exit → Act → World → Prop} {ops : Array Oper} {rest : List Oper} {o : Oper} {P : Program}
/-- One operation, in the text's order. -/
theorem pl_R {d : Nat} {R : Rel} {F : Value → World → Prop} (hR : ∀ (a : Act) (w w' : World), St n w0 a w e h → R w w' → St n w0 a w' e h) (hob : Region.wanted o (yielded ops a.tmps) = true ∧ o.wp P a w (fun a' w' => ∃ v, a' = a.put o.dst v ∧ R w w' ∧ F v w') Q) (hdst : o.dst = some d) (hl : Nat.blt d n = true) (hf : e.all (fun p => !Nat.beq p.1 d) = true)
    (H : St n w0 a w e h) (next : ∀ v a w', F v w' → R w w' → St n w0 a w' ((d, v) :: e) h → wpList P ops Q rest a w') : wpList P ops Q (o :: rest) a w :=
  wpList_step fun K hK => by
    rw [hob.1, if_pos rfl]
    exact Oper.wp_mono (fun a' w' hw => by
      obtain ⟨v, rfl, hb, hF⟩ := hw
      refine hK _ _ (next v _ _ hF hb ?_)
      rw [hdst]
      exact (hR _ _ _ H hb).put v hl hf) hob.2
theorem ob_assignS {x : Operand} {v : Value} {F : Value → World → Prop} (H : St n w0 a w e h) (hw : ∀ a w, St n w0 a w e h → Region.wanted o (yielded ops a.tmps) = true) (ho : o.op = .assign x) (hx : sev e x = some v) (hv : F v w) : ObS P ops Q o a w F := by
  refine ob_runR H hw ⟨v, w, ?_, Below.refl _ _, hv⟩
  simp [execOp, ho, H.ev hx]
/-- What was known, behind what left it alone. -/
theorem Kn.join {a' : Act} {e' : Env} (K : Kn w0 w h) (H : St n w a' w' e' []) : St n w0 a' w' e' h :=
  ⟨H.size, H.defers, H.env, K.below.trans (H.below.mono K.below.size), fun p hp => (K.heap p hp).below H.below (K.heap p hp).lt, K.own, K.apart⟩
end
/-- Values of slices. -/
structure PV (W : World) (B : Nat) (xs : List Value) (L : List (List UInt8)) : Prop where
  len : xs.length = L.length
  at_ : ∀ (j : Nat) (l : List UInt8), L[j]? = some l → ∃ Aj nj cj, xs[j]? = some (Value.slice Aj nj cj) ∧ BS W B Aj nj cj l
  one : ∀ u ∈ xs, u.oneCell' = true
def LF (L : List (List UInt8)) (v : Value) (w : World) : Prop := ∃ g xs, v = .slice (some ⟨g, 0, none⟩) L.length L.length ∧ g < w.heap.size ∧ (∀ j u, xs[j]? = some u → w.cell? ⟨g, j, none⟩ = some u) ∧ PV w w.heap.size xs L
theorem RS.more {w : World} {B B' n c : Nat} {A : Option Addr} {L : List (List UInt8)} (h : RS w B A n c L) (hB : B ≤ B') : RS w B' A n c L :=
  ⟨h.len, fun hn => by
    obtain ⟨b, o, e, hb, hc⟩ := h.at_ hn
    refine ⟨b, o, e, by omega, fun j l hl => ?_⟩
    obtain ⟨Aj, nj, cj, h1, h2⟩ := hc j l hl
    exact ⟨Aj, nj, cj, h1, h2.more hB⟩⟩
theorem PV.nil (W : World) (B : Nat) : PV W B [] [] := ⟨rfl, (fun j l h => by simp at h), (fun u h => by cases h)⟩
theorem PV.keep {W W' : World} {B : Nat} {xs : List Value} {L : List (List UInt8)} (h : PV W B xs L) (hk : ∀ p : Addr, p.block < B → W'.cell? p = W.cell? p) : PV W' B xs L :=
  ⟨h.len, fun j l hl => by
    obtain ⟨Aj, nj, cj, h1, h2⟩ := h.at_ j l hl
    exact ⟨Aj, nj, cj, h1, h2.keep hk⟩, h.one⟩
theorem PV.below {W W' : World} {B : Nat} {xs : List Value} {L : List (List UInt8)} (h : PV W B xs L) (hb : Below B W W') : PV W' B xs L := h.keep fun _ hp => hb.cell hp
theorem PV.more {W : World} {B B' : Nat} {xs : List Value} {L : List (List UInt8)} (h : PV W B xs L) (hB : B ≤ B') : PV W B' xs L :=
  ⟨h.len, fun j l hl => by
    obtain ⟨Aj, nj, cj, h1, h2⟩ := h.at_ j l hl
    exact ⟨Aj, nj, cj, h1, h2.more hB⟩, h.one⟩
theorem PV.cons {W : World} {B : Nat} {xs : List Value} {L : List (List UInt8)} (h : PV W B xs L) {A : Option Addr} {n c : Nat} {l : List UInt8} (hl : BS W B A n c l) : PV W B (.slice A n c :: xs) (l :: L) := by
  refine ⟨by simp [h.len], fun j l' hj => ?_, fun u hu => ?_⟩
  · cases j with
    | zero =>
      injection hj with hj
      subst hj
      exact ⟨A, n, c, rfl, hl⟩
    | succ j => exact h.at_ j l' hj
  · rcases List.mem_cons.1 hu with rfl | hu
    · rfl
    · exact h.one u hu
section
variable {B : Nat} {h : Hep}
theorem RF.grow {L : List (List UInt8)} : ∀ (v : Value) (w w' : World), RF L v w → Grow B h w w' → RF L v w' := fun v w w' ⟨A, n, c, e, h⟩ hb => ⟨A, n, c, e, (h.keep hb.cells).more hb.below.size⟩
theorem LF.grow {L : List (List UInt8)} : ∀ (v : Value) (w w' : World), LF L v w → Grow B h w w' → LF L v w' := fun v w w' ⟨g, xs, e, h1, h3, h2⟩ hb => ⟨g, xs, e, Nat.lt_of_lt_of_le h1 hb.below.size, fun j u hu => (hb.cells _ h1).trans (h3 j u hu), (h2.keep hb.cells).more hb.below.size⟩
end
theorem RF.below {L : List (List UInt8)} {v : Value} {w w' : World} (hv : RF L v w) (hb : Below w.heap.size w w') : RF L v w' := RF.grow (B := 0) (h := []) _ _ _ hv (gro hb (Nat.zero_le _))
theorem rs_row {w : World} {g B : Nat} {xs : List Value} {L : List (List UInt8)} (hb : ∀ j u, xs[j]? = some u → w.cell? ⟨g, j, none⟩ = some u) (hg : g < B) (hp : PV w B xs L) {n c : Nat} (hn : L.length = n) : RS w B (some ⟨g, 0, none⟩) n c L :=
  ⟨hn, fun _ => ⟨g, 0, rfl, hg, fun j l hl => by
    obtain ⟨Aj, nj, cj, h1, h2⟩ := hp.at_ j l hl
    exact ⟨Aj, nj, cj, by rw [Nat.zero_add]; exact hb j _ h1, h2⟩⟩⟩
theorem LF.rf {L : List (List UInt8)} {v : Value} {w : World} (h : LF L v w) : RF L v w := by
  obtain ⟨g, xs, e, h1, h3, h2⟩ := h
  exact ⟨_, _, _, e, rs_row h3 h1 h2 rfl⟩
theorem RF.nil (w : World) : RF [] (.slice none 0 0) w := ⟨_, _, _, rfl, ⟨rfl, fun h => absurd h (by omega)⟩⟩
theorem run_rows1 (w : World) (A : Option Addr) (n c : Nat) : (Instr.buildSlice 40 1 #[(0, .slice A n c)]).run Tryd.prog w = .ok (.slice (some ⟨w.heap.size, 0, none⟩) 1 1) (w.alloc (.cells #[.slice A n c] 22)) := by kernel_rfl
theorem run_rows2 (w : World) (A : Option Addr) (n c : Nat) (A2 : Option Addr) (n2 c2 : Nat) : (Instr.buildSlice 40 2 #[(0, .slice A n c), (1, .slice A2 n2 c2)]).run Tryd.prog w = .ok (.slice (some ⟨w.heap.size, 0, none⟩) 2 2) (w.alloc (.cells #[.slice A n c, .slice A2 n2 c2] 22)) := by kernel_rfl
theorem run_rows3 (w : World) (A : Option Addr) (n c : Nat) (A2 : Option Addr) (n2 c2 : Nat) (A3 : Option Addr) (n3 c3 : Nat) : (Instr.buildSlice 40 3 #[(0, .slice A n c), (1, .slice A2 n2 c2), (2, .slice A3 n3 c3)]).run Tryd.prog w = .ok (.slice (some ⟨w.heap.size, 0, none⟩) 3 3) (w.alloc (.cells #[.slice A n c, .slice A2 n2 c2, .slice A3 n3 c3] 22)) := by kernel_rfl
theorem lf_new {w : World} {xs : List Value} {L : List (List UInt8)} (hp : PV w w.heap.size xs L) {k : Nat} (hk : L.length = k) : Below w.heap.size w (w.alloc (.cells xs.toArray 22)) ∧ LF L (.slice (some ⟨w.heap.size, 0, none⟩) k k) (w.alloc (.cells xs.toArray 22)) := by
  subst hk
  have hb : Below w.heap.size w (w.alloc (.cells xs.toArray 22)) := (Below.refl _ _).alloc (Nat.le_refl _) _
  have hn : Blk (w.alloc (.cells xs.toArray 22)) w.heap.size 22 xs.toArray := Blk.new _ _ _
  exact ⟨hb, _, xs, rfl, hn.lt, fun j u hu => by rw [hn.cell]; simpa using hu, (hp.below hb).more hb.size⟩
section
variable {n : Nat} {w0 w w' : World} {a : Act} {e : Env} {h : Hep} {Q : Exit → Act → World → Prop} {ops : Array Oper} {o : Oper}
theorem ob_rows1S {x : Operand} {v : Value} {l : List UInt8} (H : St n w0 a w e h) (hw : ∀ a w, St n w0 a w e h → Region.wanted o (yielded ops a.tmps) = true) (ho : o.op = .buildSlice 40 1 #[(0, x)]) (hx : sev e x = some v) (hv : BF l v w) :
    ObS Tryd.prog ops Q o a w (LF [l]) := by
  refine ob_runR H hw ?_
  obtain ⟨A, k, c, rfl, hb⟩ := hv
  obtain ⟨h1, h2⟩ := lf_new ((PV.nil w w.heap.size).cons hb) (k := 1) rfl
  refine ⟨_, _, ?_, h1, h2⟩
  simp [execOp, ho, H.ev hx, run_rows1, Result.andThen]
theorem ob_rows2S {x y : Operand} {v u : Value} {l m : List UInt8} (H : St n w0 a w e h) (hw : ∀ a w, St n w0 a w e h → Region.wanted o (yielded ops a.tmps) = true) (ho : o.op = .buildSlice 40 2 #[(0, x), (1, y)]) (hx : sev e x = some v) (hy : sev e y = some u) (hv : BF l v w) (hu : BF m u w) :
    ObS Tryd.prog ops Q o a w (LF [l, m]) := by
  refine ob_runR H hw ?_
  obtain ⟨A, k, c, rfl, hb⟩ := hv
  obtain ⟨A2, k2, c2, rfl, hb2⟩ := hu
  obtain ⟨h1, h2⟩ := lf_new (((PV.nil w w.heap.size).cons hb2).cons hb) (k := 2) rfl
  refine ⟨_, _, ?_, h1, h2⟩
  simp [execOp, ho, H.ev hx, H.ev hy, run_rows2, Result.andThen]
theorem ob_rows3S {x y z : Operand} {v u t : Value} {l m k : List UInt8} (H : St n w0 a w e h) (hw : ∀ a w, St n w0 a w e h → Region.wanted o (yielded ops a.tmps) = true) (ho : o.op = .buildSlice 40 3 #[(0, x), (1, y), (2, z)]) (hx : sev e x = some v) (hy : sev e y = some u) (hz : sev e z = some t) (hv : BF l v w) (hu : BF m u w) (ht : BF k t w) :
    ObS Tryd.prog ops Q o a w (LF [l, m, k]) := by
  refine ob_runR H hw ?_
  obtain ⟨A, i, c, rfl, hb⟩ := hv
  obtain ⟨A2, i2, c2, rfl, hb2⟩ := hu
  obtain ⟨A3, i3, c3, rfl, hb3⟩ := ht
  obtain ⟨h1, h2⟩ := lf_new ((((PV.nil w w.heap.size).cons hb3).cons hb2).cons hb) (k := 3) rfl
  refine ⟨_, _, ?_, h1, h2⟩
  simp [execOp, ho, H.ev hx, H.ev hy, H.ev hz, run_rows3, Result.andThen]
end
theorem RF.sb {L : List (List UInt8)} : ∀ (v : Value) (w w' : World), RF L v w → SB w w' → RF L v w' := fun v w w' h hb => RF.below h hb
theorem LF.sb {L : List (List UInt8)} : ∀ (v : Value) (w w' : World), LF L v w → SB w w' → LF L v w' := fun v w w' h hb => LF.grow (B := 0) (h := []) v w w' h (gro hb (Nat.zero_le _))
instance {L : List (List UInt8)} {v : Value} : Lasts (LF L v) := ⟨fun w w' h hb => LF.sb _ _ _ h hb⟩
instance {L : List (List UInt8)} {v : Value} : Lasts (RF L v) := ⟨fun w w' h hb => RF.sb _ _ _ h hb⟩
def MF (B : Nat) (h : Hep) (l : List UInt8) (v : Value) (w : World) : Prop := ∃ g fr, v = .slice (some ⟨g, 0, none⟩) l.length l.length ∧ B ≤ g ∧ (∀ x ∈ h, x.1 ≠ g) ∧ w.heap[g]? = some (.cells (bvs l) 5 fr)
theorem MF.grow {B B' : Nat} {h : Hep} {l : List UInt8} : ∀ (v : Value) (w w' : World), MF B h l v w → Grow B' h w w' → MF B h l v w' := fun v w w' ⟨g, fr, e, h1, h2, h3⟩ hb => by
  obtain ⟨fr', h4⟩ := hb.objs _ _ _ _ h3
  exact ⟨g, fr', e, h1, h2, h4⟩
theorem freeze_cell (w : World) (a : Addr) (n : Nat) (p : Addr) : (w.freeze a n).cell? p = w.cell? p := by
  unfold World.freeze
  split
  · rfl
  · unfold World.cell?
    dsimp only
    rw [Array.getElem?_modify]
    by_cases hk : a.block = p.block
    · rw [if_pos hk]
      cases hg : w.heap[p.block]? with
      | none => rfl
      | some o => cases o <;> rfl
    · rw [if_neg hk]
theorem freeze_heap (w : World) (a : Addr) (n k : Nat) (hk : a.block ≠ k) : (w.freeze a n).heap[k]? = w.heap[k]? := by
  unfold World.freeze
  split
  · rfl
  · dsimp only
    rw [Array.getElem?_modify, if_neg hk]
theorem freeze_objs (w : World) (a : Addr) (n g : Nat) (C : Array Value) (t : TypeId) (fr : Nat × Nat) (hg : w.heap[g]? = some (.cells C t fr)) : ∃ fr', (w.freeze a n).heap[g]? = some (.cells C t fr') := by
  unfold World.freeze
  split
  · exact ⟨fr, hg⟩
  · dsimp only
    rw [Array.getElem?_modify, hg]
    split
    · obtain ⟨lo, hi⟩ := fr
      exact ⟨_, rfl⟩
    · exact ⟨fr, rfl⟩
theorem freeze_grow {B : Nat} {h : Hep} (w : World) (a : Addr) (n : Nat) (hB : B ≤ a.block) (hh : ∀ x ∈ h, x.1 ≠ a.block) : Grow B h w (w.freeze a n) := by
  have hs : (w.freeze a n).heap.size = w.heap.size := by
    unfold World.freeze
    split
    · rfl
    · simp
  refine ⟨⟨?_, ?_, ?_, by omega, fun k hk => freeze_heap w a n k (by omega)⟩, fun p _ => freeze_cell w a n p, freeze_objs w a n, fun x hx _ => freeze_heap w a n x.1 (Ne.symm (hh x hx))⟩
  all_goals
    unfold World.freeze
    split <;> rfl
section
variable {n : Nat} {w0 w w' : World} {a : Act} {e : Env} {h : Hep} {Q : Exit → Act → World → Prop} {ops : Array Oper} {o : Oper}
theorem run_mark {g k c : Nat} {C : Array Value} {t : TypeId} {fr : Nat × Nat} (hg : w.heap[g]? = some (.cells C t fr)) : (convert 22 22 (.slice (some ⟨g, 0, none⟩) k c)).run Tryd.prog w = .ok (.slice (some ⟨g, 0, none⟩) k c) (w.freeze ⟨g, C.size, none⟩ 1) := by
  have hsh : w.shape? g = some (t, C.size) := by unfold World.shape?; rw [hg]
  simp [convert, run_underlying Tryd.underlying22, run_underlying Tryd.underlying5, markStringish, hsh]
theorem ob_mark {x : Operand} {v : Value} {l : List UInt8} (H : St n w0 a w e h) (hw : ∀ a w, St n w0 a w e h → Region.wanted o (yielded ops a.tmps) = true) (ho : o.op = .convert 22 22 x) (hx : sev e x = some v) (hv : MF w0.heap.size h l v w) :
    Ob Tryd.prog ops Q w0.heap.size h o a w (BF l) := by
  refine ob_run H hw ?_
  obtain ⟨g, fr, rfl, hB, hh, hg⟩ := hv
  have hgr := freeze_grow (h := h) w ⟨g, (bvs l).size, none⟩ 1 hB hh
  obtain ⟨fr', hg'⟩ := hgr.objs _ _ _ _ hg
  refine ⟨.slice (some ⟨g, 0, none⟩) l.length l.length, w.freeze ⟨g, (bvs l).size, none⟩ 1, ?_, hgr, _, _, _, rfl, rfl, Nat.le_refl _, (by intro e; cases e), fun _ => ⟨g, 0, rfl, (Array.getElem?_eq_some_iff.1 hg').1, fun j x hx => ?_⟩⟩
  · simp [execOp, ho, H.ev hx, run_mark hg, Result.andThen]
  · rw [Nat.zero_add, cell_of_row _ g j (bvs l) 5 fr' hg', bvs_get, hx]
    rfl
theorem rf_old {L : List (List UInt8)} {v : Value} (hm : RF L v w0) (H : St n w0 a w e h) : RF L v w := RF.grow (B := 0) (h := []) _ _ _ hm (gro H.below (Nat.zero_le _))
end
end Go.Proofs.YthjechjffhhiiaaDoor
