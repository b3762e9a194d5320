/- The document's disk (layer 14): its cells, how it lies (RX, RO). -/
import Derived.Test.YtiebelmglchbdaaPn
namespace Go.Proofs.Ytiebelmglchbdaa
set_option linter.unusedVariables false
set_option linter.unusedSimpArgs false
set_option maxRecDepth 100000
open Go Go.RowKit

/-- A disk's own four cells. -/
def rdC (vB vL : Value) (f : Int) (d : Bool) : Array Value := #[vB, vL, .int .i64 f, .bool d]
section
variable {g : Nat} {t : TypeId} {vB vL : Value} {f : Int} {d : Bool} {A A' : Option Addr} {n c n' c' : Nat}
theorem fa_rd (k : Nat) (hk : k < 4) (W : World) : (Instr.fieldAt 67 (.pointer (some ⟨g, 0, none⟩)) k).run Try.prog W = .ok (.pointer (some ⟨g, k, none⟩)) W := by
  rcases k with _ | _ | _ | _ | k
  · kernel_rfl
  · kernel_rfl
  · kernel_rfl
  · kernel_rfl
  · omega
theorem ld_rd0 (W : World) (h : Blk W g t (rdC (.slice A n c) vL f d)) : (Instr.loadAt 64 (.pointer (some ⟨g, 0, none⟩))).run Try.prog W = .ok (.slice A n c) W := by
  have hc : W.cell? ⟨g, 0, none⟩ = some (.slice A n c) := h.cell 0
  go_simp
theorem ld_rd1 (W : World) (h : Blk W g t (rdC vB (.slice A n c) f d)) : (Instr.loadAt 65 (.pointer (some ⟨g, 1, none⟩))).run Try.prog W = .ok (.slice A n c) W := by
  have hc : W.cell? ⟨g, 1, none⟩ = some (.slice A n c) := h.cell 1
  go_simp
theorem ld_rd2 (W : World) (h : Blk W g t (rdC vB vL f d)) : (Instr.loadAt 3 (.pointer (some ⟨g, 2, none⟩))).run Try.prog W = .ok (.int .i64 f) W := by
  have hc : W.cell? ⟨g, 2, none⟩ = some (.int .i64 f) := h.cell 2
  go_simp
theorem ld_rd3 (W : World) (h : Blk W g t (rdC vB vL f d)) : (Instr.loadAt 4 (.pointer (some ⟨g, 3, none⟩))).run Try.prog W = .ok (.bool d) W := by
  have hc : W.cell? ⟨g, 3, none⟩ = some (.bool d) := h.cell 3
  go_simp
theorem st_rd0 (W : World) (h : Blk W g t (rdC (.slice A n c) vL f d)) : (Instr.storeAt 64 (.pointer (some ⟨g, 0, none⟩)) (.slice A' n' c')).run Try.prog W = .ok () (W.setCells g 0 [.slice A' n' c']) := by
  have hc : W.cell? ⟨g, 0, none⟩ = some (.slice A n c) := h.cell 0
  have hf := h.frozen 0
  have hs : (W.cell? ⟨g, 0, none⟩).isSome = true := by rw [hc]; rfl
  show _ = Result.ok () (W.setCell ⟨g, 0, none⟩ _)
  go_simp
theorem st_rd1 (W : World) (h : Blk W g t (rdC vB (.slice A n c) f d)) : (Instr.storeAt 65 (.pointer (some ⟨g, 1, none⟩)) (.slice A' n' c')).run Try.prog W = .ok () (W.setCells g 1 [.slice A' n' c']) := by
  have hc : W.cell? ⟨g, 1, none⟩ = some (.slice A n c) := h.cell 1
  have hf := h.frozen 1
  have hs : (W.cell? ⟨g, 1, none⟩).isSome = true := by rw [hc]; rfl
  show _ = Result.ok () (W.setCell ⟨g, 1, none⟩ _)
  go_simp
theorem st_rd2 {u : Int} (W : World) (h : Blk W g t (rdC vB vL f d)) : (Instr.storeAt 3 (.pointer (some ⟨g, 2, none⟩)) (.int .i64 u)).run Try.prog W = .ok () (W.setCells g 2 [.int .i64 u]) := by
  have hc : W.cell? ⟨g, 2, none⟩ = some (.int .i64 f) := h.cell 2
  have hf := h.frozen 2
  have hs : (W.cell? ⟨g, 2, none⟩).isSome = true := by rw [hc]; rfl
  show _ = Result.ok () (W.setCell ⟨g, 2, none⟩ _)
  go_simp
theorem st_rd3 {u : Bool} (W : World) (h : Blk W g t (rdC vB vL f d)) : (Instr.storeAt 4 (.pointer (some ⟨g, 3, none⟩)) (.bool u)).run Try.prog W = .ok () (W.setCells g 3 [.bool u]) := by
  have hc : W.cell? ⟨g, 3, none⟩ = some (.bool d) := h.cell 3
  have hf := h.frozen 3
  have hs : (W.cell? ⟨g, 3, none⟩).isSome = true := by rw [hc]; rfl
  show _ = Result.ok () (W.setCell ⟨g, 3, none⟩ _)
  go_simp
theorem ia_rows0 {j : Nat} (hj : j < n) (W : World) : (Instr.indexAt 64 (.slice (some ⟨g, 0, none⟩) n c) (.int .i64 (j : Int))).run Try.prog W = .ok (.pointer (some ⟨g, j, none⟩)) W := by
  have h1 : (0 : Int) ≤ (j : Int) := by omega
  have h2 : (j : Int) < (n : Int) := by omega
  go_simp
theorem ia_lates {j : Nat} (hA : A = some ⟨g, 0, none⟩) (hj : j < n) (W : World) : (Instr.indexAt 65 (.slice A n c) (.int .i64 (j : Int))).run Try.prog W = .ok (.pointer (some ⟨g, j * 2, none⟩)) W := by
  subst hA
  have h1 : (0 : Int) ≤ (j : Int) := by omega
  have h2 : (j : Int) < (n : Int) := by omega
  go_simp
theorem fa_late0 {o : Nat} (W : World) : (Instr.fieldAt 87 (.pointer (some ⟨g, o, none⟩)) 0).run Try.prog W = .ok (.pointer (some ⟨g, o, none⟩)) W := by kernel_rfl
theorem fa_late1 {o : Nat} (W : World) : (Instr.fieldAt 87 (.pointer (some ⟨g, o, none⟩)) 1).run Try.prog W = .ok (.pointer (some ⟨g, o + 1, none⟩)) W := by kernel_rfl
theorem ld_slB {j : Nat} {cur : Array Value} (hj : cur[j]? = some (.slice A n c)) (W : World) (h : Blk W g t cur) : (Instr.loadAt 39 (.pointer (some ⟨g, j, none⟩))).run Try.prog W = .ok (.slice A n c) W := by
  have hc : W.cell? ⟨g, j, none⟩ = some (.slice A n c) := (h.cell j).trans hj
  go_simp
theorem st_slB {j : Nat} {cur : Array Value} (hj : cur[j]? = some (.slice A n c)) (W : World) (h : Blk W g t cur) : (Instr.storeAt 39 (.pointer (some ⟨g, j, none⟩)) (.slice A' n' c')).run Try.prog W = .ok () (W.setCells g j [.slice A' n' c']) := by
  have hc : W.cell? ⟨g, j, none⟩ = some (.slice A n c) := (h.cell j).trans hj
  have hf := h.frozen j
  have hs : (W.cell? ⟨g, j, none⟩).isSome = true := by rw [hc]; rfl
  show _ = Result.ok () (W.setCell ⟨g, j, none⟩ _)
  go_simp
end
theorem bd_rdisk (W : World) : (Instr.build 67 [(2, .int .i64 (-1))].toArray).run Try.prog W = .ok (.agg (rdC (.slice none 0 0) (.slice none 0 0) (-1) false)) W := by kernel_rfl
theorem bx_rdisk (c : Array Value) (W : World) : (Instr.box 67 (.agg c)).run Try.prog W = .ok (.pointer (some ⟨W.heap.size, 0, none⟩)) (W.alloc (.cells c 67)) := by kernel_rfl
/-! A write's two cells. -/
def ltC (n : Int) (v : Value) : Array Value := #[.int .i64 n, v]
theorem al_late (W : World) : (Instr.alloc 87 true (.tuple #[])).run Try.prog W = .ok (.pointer (some ⟨W.heap.size, 0, none⟩)) (W.alloc (.cells (ltC 0 (.slice none 0 0)) 87)) := by kernel_rfl
theorem info_late (n : Int) (v : Value) : (Try.prog.info? 87).map (·.size) = some (ltC n v).size := by kernel_rfl
theorem size_late (n m : Int) (v u : Value) : (ltC n v).size = (ltC m u).size := rfl
theorem one_late (n : Int) (A : Option Addr) (k c : Nat) : (ltC n (.slice A k c)).all (·.oneCell') = true := by simp [ltC, Value.oneCell']
theorem ld_late0 {g : Nat} {t : TypeId} {n : Int} {v : Value} (W : World) (h : Blk W g t (ltC n v)) : (Instr.loadAt 3 (.pointer (some ⟨g, 0, none⟩))).run Try.prog W = .ok (.int .i64 n) W := ld_numC rfl W h
theorem ld_late1 {g : Nat} {t : TypeId} {n : Int} {A : Option Addr} {k c : Nat} (W : World) (h : Blk W g t (ltC n (.slice A k c))) : (Instr.loadAt 39 (.pointer (some ⟨g, 1, none⟩))).run Try.prog W = .ok (.slice A k c) W := ld_slB rfl W h
theorem ld_lateA {g j : Nat} {t : TypeId} {cur : Array Value} {n : Int} {v : Value} (h0 : cur[j]? = some (.int .i64 n)) (h1 : cur[j + 1]? = some v) (W : World) (h : Blk W g t cur) : (Instr.loadAt 87 (.pointer (some ⟨g, j, none⟩))).run Try.prog W = .ok (.agg (ltC n v)) W := by
  have hr : W.rangeAt g j [.int .i64 n, v] := fun i u hu => by
    rcases i with _ | _ | i
    · injection hu with hu; subst hu; exact (h.cell j).trans h0
    · injection hu with hu; subst hu; exact (h.cell (j + 1)).trans h1
    · simp at hu
  exact run_loadAt_mid (P := Try.prog) W g j 87 [.int .i64 n, v] _ hr Try.underlying87 rfl (by kernel_rfl)
theorem bd_late (n : Int) (A : Option Addr) (k c : Nat) (W : World) : (Instr.build 87 [(0, .int .i64 n), (1, .slice A k c)].toArray).run Try.prog W = .ok (.agg (ltC n (.slice A k c))) W := by kernel_rfl
theorem bs_late (n : Int) (v : Value) (W : World) : (Instr.buildSlice 65 1 [(0, .agg (ltC n v))].toArray).run Try.prog W = .ok (.slice (some ⟨W.heap.size, 0, none⟩) 1 1) (W.alloc (.cells (ltC n v) 87)) := by kernel_rfl
theorem bs_row (A : Option Addr) (k c : Nat) (W : World) : (Instr.buildSlice 64 1 [(0, .slice A k c)].toArray).run Try.prog W = .ok (.slice (some ⟨W.heap.size, 0, none⟩) 1 1) (W.alloc (.cells #[.slice A k c] 39)) := by kernel_rfl
theorem info_lateA : (Try.prog.info? 87).map (fun i => (i.zero, i.size, i.bytes)) = some (some (.agg (ltC 0 (.slice none 0 0))), 2, 32) := by kernel_rfl
theorem info_rowA : (Try.prog.info? 39).map (fun i => (i.zero, i.size, i.bytes)) = some (some (.slice none 0 0), 1, 24) := by kernel_rfl
section
variable {n : Nat} {w0 w w' : World} {a : Act} {e : Env} {h t hh : Hep} {Q : Exit → Act → World → Prop} {ops : Array Oper} {rest : List Oper} {o : Oper}
/-- One element more. -/
theorem pl_appE {E T : TypeId} {sz bytes d k m gs : Nat} {z : Value} {x y : Operand} {v : Value} {news xs : List Value} (hT : Try.prog.underlying T = some (.slice E)) (hi : (Try.prog.info? E).map (fun i => (i.zero, i.size, i.bytes)) = some (some z, sz, bytes)) (hz : z.cells.size = sz) (hsz : 0 < sz) (hby : bytes ≤ 1000) (hk : h[k]? = some (gs, .ty E, news.toArray)) (hnl : news.length = 1 * sz) (h1 : ∀ u ∈ news, u.oneCell' = true)
    (ho : o.op = .call { callee := .builtin .append, args := #[x, y], argTypes := #[T, T] }) (hx : sev e x = some v) (hy : sev e y = some (.slice (some ⟨gs, 0, none⟩) 1 1)) (hv : OutD E sz t v m xs) (hs : m ≤ 100000) (hg : o.guard = none) (hdst : o.dst = some d) (hl : Nat.blt d n = true) (hf : e.all (fun p => !Nat.beq p.1 d) = true) (H : St n w0 a w e (h ++ (t ++ hh)))
    (next : ∀ A c t' a w', OutD E sz t' (.slice A (m + 1) c) (m + 1) (xs ++ news) → St n w0 a w' ((d, .slice A (m + 1) c) :: e) (h ++ (t' ++ hh)) → wpList Try.prog ops Q rest a w') : wpList Try.prog ops Q (o :: rest) a w :=
  wpList_plain hg fun K_ hK => by
    have H2 : St n w0 a w e ((h ++ hh) ++ t) := H.perm' (by rw [List.append_assoc]; exact List.perm_append_comm.append_left h)
    have hb : Blk w gs (.ty E) news.toArray := H.heap _ (List.mem_append_left _ (List.mem_iff_getElem?.2 ⟨k, hk⟩))
    cases hq : Try.prog.info? E with
    | none => rw [hq] at hi; cases hi
    | some i =>
      rw [hq] at hi
      simp only [Option.map_some, Option.some.injEq, Prod.mk.injEq] at hi
      obtain ⟨hz0, hsz', hby'⟩ := hi
      have hown := hv.owns H2
      have hb2 : (m + 1) * bytes ≤ 100001 * 1000 := Nat.mul_le_mul (by omega) hby
      obtain ⟨v', w', h1, h2, h3, _, h4⟩ := run_append_own_at (P := Try.prog) w w0.heap.size T o.type E i _ sz bytes hT hq hz0 hsz' hby' hz hsz v m xs hown ⟨gs, 0, none⟩ 1 1 news hnl (fun j y hy => by
        rw [Addr.add_lit, Nat.zero_add, hb.cell, List.getElem?_toArray]
        exact hy) h1 (by simp only [maxLen]; omega) (by omega) H.below.size
      obtain ⟨t', hv', H', _⟩ := H2.appD hv h2 h3 h4 (by omega)
      obtain ⟨A, c, rfl, _⟩ := hv'.form
      have H3 : St n w0 a w' e (h ++ (t' ++ hh)) := H'.perm' (by rw [List.append_assoc]; exact List.perm_append_comm.append_left h)
      unfold Oper.wp
      simp [execOp, ho, resolve, invoke, builtin, H.ev hx, H.ev hy, h1, Result.andThen]
      refine hK _ _ (next A c t' _ _ hv' ?_)
      rw [hdst]
      exact H3.put _ hl hf
/-- A row is one of the rest from now on. -/
theorem St.store1 {x : Nat × Tid × Array Value} {tL r : Hep} (H : St n w0 a w e (x :: (h ++ (tL ++ (r ++ hh))))) : St n w0 a w e (h ++ (tL ++ ((x :: r) ++ hh))) := H.perm' (by
  rw [← List.append_assoc, ← List.append_assoc h tL]
  exact List.perm_middle.symm)
end
/-! What is new, in a slice of its own. -/
def BoxS (G : Value → World → Prop) (B : Nat) (h : Hep) (t : TypeId) (c : Value → Array Value) (v : Value) (w : World) : Prop := ∃ u g, G u w ∧ v = .slice (some ⟨g, 0, none⟩) 1 1 ∧ Blk w g t (c u) ∧ B ≤ g ∧ (∀ p ∈ h, p.1 ≠ g) ∧ ∀ g', u.ownBlock = some g' → g' ≠ g
def LtF (n : Int) (G : Value → World → Prop) (v : Value) (w : World) : Prop := ∃ u, G u w ∧ v = .agg (ltC n u)
instance {G : Value → World → Prop} [hG : ∀ v, Lasts (G v)] {B : Nat} {h : Hep} {t : TypeId} {c : Value → Array Value} {v : Value} : Lasts (BoxS G B h t c v) := ⟨fun w w' ⟨u, g, h1, h2, h3, h4⟩ hb => ⟨u, g, (hG u).lasts _ _ h1 hb, h2, h3.below hb h3.lt, h4⟩⟩
instance {n : Int} {G : Value → World → Prop} [hG : ∀ v, Lasts (G v)] {v : Value} : Lasts (LtF n G v) := ⟨fun w w' ⟨u, h1, h2⟩ hb => ⟨u, (hG u).lasts _ _ h1 hb, h2⟩⟩
section
variable {n : Nat} {w0 w w' : World} {a : Act} {e : Env} {h t hh : Hep} {Q : Exit → Act → World → Prop} {ops : Array Oper} {rest : List Oper} {o : Oper}
theorem ob_made512 {x y : Operand} (H : St n w0 a w e h) (hw : ∀ a w, St n w0 a w e h → Region.wanted o (yielded ops a.tmps) = true) (ho : o.op = .makeSlice 39 x y) (hx : sev e x = some (.int .i64 512)) (hy : sev e y = some (.int .i64 512)) : ObS Try.prog ops Q o a w (NewS 512 w0.heap.size h (.ty 5) (bvs (rb 512 b0s))) := by
  refine ⟨hw a w H, ?_⟩
  have h1 := made_bytes (m := 512) ho hx hy (by decide) a w H
  unfold Oper.wp
  rw [h1]
  exact ⟨_, rfl, (Below.refl _ _).alloc (Nat.le_refl _) _, _, rfl, _, rfl, Blk.new _ _ _, H.below.size, fun p hp => Nat.ne_of_lt (H.heap p hp).lt⟩
theorem ob_boxR {x : Operand} {u : Value} {z : Array Value} (H : St n w0 a w e h) (hw : ∀ a w, St n w0 a w e h → Region.wanted o (yielded ops a.tmps) = true) (ho : o.op = .buildSlice 64 1 [(0, x)].toArray) (hx : sev e x = some u) (hu : NewS 512 w0.heap.size h (.ty 5) z u w) :
    ObS Try.prog ops Q o a w (BoxS (NewS 512 w0.heap.size h (.ty 5) z) w0.heap.size h 39 (fun u => #[u])) := by
  refine ob_runR H hw ?_
  have hu0 := hu
  obtain ⟨g, rfl, hv⟩ := hu
  obtain ⟨g2, e2, hb, hB, hn⟩ := hv
  injection e2 with e2
  injection e2 with e2
  injection e2 with e2
  subst e2
  refine ⟨.slice (some ⟨w.heap.size, 0, none⟩) 1 1, w.alloc (.cells #[.slice (some ⟨g, 0, none⟩) 512 512] 39), ?_, (Below.refl _ _).alloc (Nat.le_refl _) _, .slice (some ⟨g, 0, none⟩) 512 512, w.heap.size, ?_, rfl, Blk.new _ _ _, H.below.size, fun p hp => Nat.ne_of_lt (H.heap p hp).lt, fun g' hg' => ?_⟩
  · unfold execOp
    simp only [ho]
    have e1 : [(0, x)].toArray.map (fun (p : Nat × Operand) => (p.1, a.eval p.2)) = [(0, Value.slice (some ⟨g, 0, none⟩) 512 512)].toArray := by
      simp [H.ev hx]
    rw [e1, Sem.run_bind, bs_row]
    rfl
  · exact (inferInstance : Lasts (NewS 512 w0.heap.size h (.ty 5) z (.slice (some ⟨g, 0, none⟩) 512 512))).lasts _ _ hu0 ((Below.refl _ _).alloc (Nat.le_refl _) _)
  · injection hg' with hg'
    rw [← hg']
    exact Nat.ne_of_lt hb.lt
theorem ob_late {x : Operand} {u : Value} {k : Int} {l : List UInt8} (H : St n w0 a w e h) (hw : ∀ a w, St n w0 a w e h → Region.wanted o (yielded ops a.tmps) = true) {y : Operand} (ho : o.op = .build 87 [(0, y), (1, x)].toArray) (hy : sev e y = some (.int .i64 k)) (hx : sev e x = some u) (hu : OF w0.heap.size h l u w) :
    ObS Try.prog ops Q o a w (LtF k (OF w0.heap.size h l)) := by
  refine ob_runR H hw ?_
  obtain ⟨A, m, c, rfl, _⟩ := hu.1.form
  refine ⟨.agg (ltC k (.slice A m c)), w, ?_, Below.refl _ _, _, hu, rfl⟩
  unfold execOp
  simp only [ho]
  have e1 : [(0, y), (1, x)].toArray.map (fun (p : Nat × Operand) => (p.1, a.eval p.2)) = [(0, Value.int .i64 k), (1, Value.slice A m c)].toArray := by
    simp [H.ev hx, H.ev hy]
  rw [e1, Sem.run_bind, bd_late]
  rfl
theorem ob_boxL {x : Operand} {v : Value} {k : Int} {l : List UInt8} (H : St n w0 a w e h) (hw : ∀ a w, St n w0 a w e h → Region.wanted o (yielded ops a.tmps) = true) (ho : o.op = .buildSlice 65 1 [(0, x)].toArray) (hx : sev e x = some v) (hu : LtF k (OF w0.heap.size h l) v w) :
    ObS Try.prog ops Q o a w (BoxS (OF w0.heap.size h l) w0.heap.size h 87 (ltC k)) := by
  refine ob_runR H hw ?_
  obtain ⟨u, hu, rfl⟩ := hu
  refine ⟨.slice (some ⟨w.heap.size, 0, none⟩) 1 1, w.alloc (.cells (ltC k u) 87), ?_, (Below.refl _ _).alloc (Nat.le_refl _) _, u, w.heap.size, ?_, rfl, Blk.new _ _ _, H.below.size, fun p hp => Nat.ne_of_lt (H.heap p hp).lt, fun g' hg' => ?_⟩
  · unfold execOp
    simp only [ho]
    have e1 : [(0, x)].toArray.map (fun (p : Nat × Operand) => (p.1, a.eval p.2)) = [(0, Value.agg (ltC k u))].toArray := by
      simp [H.ev hx]
    rw [e1, Sem.run_bind, bs_late]
    rfl
  · exact OF.sb _ _ _ hu ((Below.refl _ _).alloc (Nat.le_refl _) _)
  · rcases hu.1.2 with ⟨rfl, _⟩ | ⟨g, cap, cur, rfl, _, hh, _⟩
    · cases hg'
    · injection hg' with hg'
      rw [← hg']
      exact Nat.ne_of_lt (Array.getElem?_eq_some_iff.1 hh).1
end
/-! How a disk lies. -/
/-- One of the rows is a slice of these 512 bytes. -/
def RowB (r : Hep) (x : Nat × Nat) (b : List UInt8) : Prop := ∃ cur, (x.1, .ty 5, cur) ∈ r ∧ US8 cur 512 x.2 b
section
variable {r r' : Hep} {x : Nat × Nat} {b : List UInt8} {n : Nat} {w0 w : World} {a : Act} {e : Env} {h : Hep}
theorem RowB.mono (hx : RowB r x b) (hs : ∀ p ∈ r, p ∈ r') : RowB r' x b := by
  obtain ⟨cur, h1, h2⟩ := hx
  exact ⟨cur, hs _ h1, h2⟩
theorem RowB.bf (hx : RowB r x b) (H : St n w0 a w e h) (hs : ∀ p ∈ r, p ∈ h) : BF b (.slice (some ⟨x.1, 0, none⟩) 512 x.2) w := by
  obtain ⟨cur, h1, h2⟩ := hx
  exact bf_uc (H.heap _ (hs _ h1)) h2
theorem RowB.len (hx : RowB r x b) : b.length = 512 := by
  obtain ⟨cur, h1, h2⟩ := hx
  simpa using h2.len
theorem RowB.ne {g : Nat} (hx : RowB r x b) (hs : ∀ p ∈ r, p.1 ≠ g) : x.1 ≠ g := by
  obtain ⟨cur, h1, h2⟩ := hx
  exact hs _ h1
end
/-- The cells of a disk's blocks and writes; their rows; each has one of its own. -/
structure RK (cB : Array Value) (xs : List Value) (r : Hep) (gu gl : Nat → Nat × Nat) (B : List (List UInt8)) (L : List (Nat × List UInt8)) : Prop where
  bo : ∀ i b, B[i]? = some b → cB[i]? = some (.slice (some ⟨(gu i).1, 0, none⟩) 512 (gu i).2) ∧ RowB r (gu i) b
  ln : xs.length = L.length * 2
  lo : ∀ k p, L[k]? = some p → xs[k * 2]? = some (.int .i64 ((p.1 : Nat) : Int)) ∧ xs[k * 2 + 1]? = some (.slice (some ⟨(gl k).1, 0, none⟩) 512 (gl k).2) ∧ RowB r (gl k) p.2
  uu : ∀ i j, i < B.length → j < B.length → (gu i).1 = (gu j).1 → i = j
  ll : ∀ i j, i < L.length → j < L.length → (gl i).1 = (gl j).1 → i = j
  ul : ∀ i k, i < B.length → k < L.length → (gu i).1 ≠ (gl k).1
section
variable {cB : Array Value} {xs : List Value} {r : Hep} {gu gl : Nat → Nat × Nat} {B : List (List UInt8)} {L : List (Nat × List UInt8)} {g cap : Nat} {cur : Array Value} {b : List UInt8}
theorem RK.neB (h : RK cB xs r gu gl B L) (hf : ∀ p ∈ r, p.1 ≠ g) {i : Nat} (hi : i < B.length) : (gu i).1 ≠ g := (h.bo i _ (List.getElem?_eq_getElem hi)).2.ne hf
theorem RK.neL (h : RK cB xs r gu gl B L) (hf : ∀ p ∈ r, p.1 ≠ g) {i : Nat} (hi : i < L.length) : (gl i).1 ≠ g := (h.lo i _ (List.getElem?_eq_getElem hi)).2.2.ne hf
theorem RK.setB (h : RK cB xs r gu gl B L) {n : Nat} (hn : n < B.length) (hu : US8 cur 512 cap b) (hf : ∀ p ∈ r, p.1 ≠ g) : RK (setV cB n [.slice (some ⟨g, 0, none⟩) 512 cap]) xs ((g, .ty 5, cur) :: r) (fun i => if i = n then (g, cap) else gu i) gl (B.set n b) L := by
  have hlt : n < cB.size := by
    have h1 := (h.bo n _ (List.getElem?_eq_getElem hn)).1
    exact (Array.getElem?_eq_some_iff.1 h1).1
  refine ⟨fun i c hc => ?_, h.ln, fun k p hp => ?_, fun i j hi hj he => ?_, h.ll, fun i k hi hk => ?_⟩
  · rw [List.getElem?_set] at hc
    show (cB.setIfInBounds n _)[i]? = _ ∧ _
    rw [Array.getElem?_setIfInBounds]
    by_cases e : n = i
    · subst e
      rw [if_pos rfl, if_pos hn] at hc
      injection hc with hc
      subst hc
      rw [if_pos rfl, if_pos hlt, if_pos rfl]
      exact ⟨rfl, cur, List.mem_cons_self, hu⟩
    · rw [if_neg e] at hc
      rw [if_neg e, if_neg (Ne.symm e)]
      exact ⟨(h.bo i c hc).1, (h.bo i c hc).2.mono fun p hp => List.mem_cons_of_mem _ hp⟩
  · obtain ⟨h1, h2, h3⟩ := h.lo k p hp
    exact ⟨h1, h2, h3.mono fun p hp => List.mem_cons_of_mem _ hp⟩
  · rw [List.length_set] at hi hj
    have ni := h.neB hf hi
    have nj := h.neB hf hj
    by_cases e1 : i = n
    · by_cases e2 : j = n
      · rw [e1, e2]
      · simp only [if_pos e1, if_neg e2] at he
        exact absurd he.symm nj
    · by_cases e2 : j = n
      · simp only [if_neg e1, if_pos e2] at he
        exact absurd he ni
      · simp only [if_neg e1, if_neg e2] at he
        exact h.uu i j hi hj he
  · rw [List.length_set] at hi
    by_cases e1 : i = n
    · simp only [if_pos e1]
      exact (h.neL hf hk).symm
    · simp only [if_neg e1]
      exact h.ul i k hi hk
theorem RK.snocL (h : RK cB xs r gu gl B L) {p : Nat × List UInt8} (hu : US8 cur 512 cap p.2) (hf : ∀ p ∈ r, p.1 ≠ g) : RK cB (xs ++ [.int .i64 ((p.1 : Nat) : Int), .slice (some ⟨g, 0, none⟩) 512 cap]) ((g, .ty 5, cur) :: r) gu (fun k => if k = L.length then (g, cap) else gl k) B (L ++ [p]) := by
  have hln := h.ln
  refine ⟨fun i c hc => ⟨(h.bo i c hc).1, (h.bo i c hc).2.mono fun p hp => List.mem_cons_of_mem _ hp⟩, ?_, fun k q hq => ?_, h.uu, fun i j hi hj he => ?_, fun i k hi hk => ?_⟩
  · simp only [List.length_append, List.length_cons, List.length_nil]
    omega
  · rcases Nat.lt_trichotomy k L.length with hk | hk | hk
    · rw [List.getElem?_append_left hk] at hq
      obtain ⟨h1, h2, h3⟩ := h.lo k q hq
      rw [List.getElem?_append_left (by omega), List.getElem?_append_left (by omega), if_neg (by omega)]
      exact ⟨h1, h2, h3.mono fun p hp => List.mem_cons_of_mem _ hp⟩
    · subst hk
      rw [List.getElem?_append_right (Nat.le_refl _), Nat.sub_self] at hq
      injection hq with hq
      subst hq
      rw [List.getElem?_append_right (by omega), List.getElem?_append_right (by omega), if_pos rfl, show L.length * 2 - xs.length = 0 by omega, show L.length * 2 + 1 - xs.length = 1 by omega]
      exact ⟨rfl, rfl, cur, List.mem_cons_self, hu⟩
    · rw [List.getElem?_eq_none (by simp; omega)] at hq
      cases hq
  · have e1 : (L ++ [p]).length = L.length + 1 := by simp
    rw [e1] at hi hj
    by_cases e1 : i = L.length
    · by_cases e2 : j = L.length
      · rw [e1, e2]
      · simp only [if_pos e1, if_neg e2] at he
        exact absurd he.symm (h.neL hf (by omega))
    · by_cases e2 : j = L.length
      · simp only [if_neg e1, if_pos e2] at he
        exact absurd he (h.neL hf (by omega))
      · simp only [if_neg e1, if_neg e2] at he
        exact h.ll i j (by omega) (by omega) he
  · have e1 : (L ++ [p]).length = L.length + 1 := by simp
    rw [e1] at hk
    by_cases e1 : k = L.length
    · simp only [if_pos e1]
      exact h.neB hf hi
    · simp only [if_neg e1]
      exact h.ul i k hi (by omega)
theorem RK.noL (h : RK cB xs r gu gl B L) : RK cB [] r gu gl B [] := ⟨h.bo, rfl, fun k p hp => by simp at hp, h.uu, fun i j hi => absurd hi (Nat.not_lt_zero _), fun i k hi hk => absurd hk (Nat.not_lt_zero _)⟩
end
structure RX where
  gB : Nat
  cB : Array Value
  capB : Nat
  A : Option Addr
  capL : Nat
  xs : List Value
  tL : Hep
  rest : Hep
  gu : Nat → Nat × Nat
  gl : Nat → Nat × Nat
def RX.row (X : RX) (D : Dk) : Array Value := rdC (.slice (some ⟨X.gB, 0, none⟩) D.B.length X.capB) (.slice X.A D.L.length X.capL) D.fuse D.dead
def RX.rows (X : RX) (p : Nat) (D : Dk) : Hep := [(p, .ty 67, X.row D), (X.gB, .ty 39, X.cB)] ++ (X.tL ++ X.rest)
structure RX.ok (X : RX) (D : Dk) : Prop where
  od : OutD 87 2 X.tL (.slice X.A D.L.length X.capL) D.L.length X.xs
  rk : RK X.cB X.xs X.rest X.gu X.gl D.B D.L
  dk : D.ok
  nb : 0 < D.B.length ∧ D.B.length ≤ 8192
  nl : D.L.length ≤ 10000
  fu : -1 ≤ D.fuse ∧ D.fuse < 9223372036854775808
/-- The document's disk in told rows. -/
def RO (p : Nat) (D : Dk) (r : Hep) : Prop := ∃ X : RX, r = X.rows p D ∧ X.ok D
theorem RX.rows_hh (X : RX) (p : Nat) (D : Dk) (hh : Hep) : X.rows p D ++ hh = (p, .ty 67, X.row D) :: (X.gB, .ty 39, X.cB) :: (X.tL ++ (X.rest ++ hh)) := by
  unfold RX.rows
  rw [List.append_assoc, List.append_assoc]
  rfl
/-- Where the writes stand. -/
theorem RX.ok.at_ {X : RX} {D : Dk} (h : X.ok D) : ∃ (gL : Nat) (cL : Array Value), 0 < D.L.length → X.A = some ⟨gL, 0, none⟩ ∧ (gL, .ty 87, cL) ∈ X.tL ∧ ∀ (j : Nat) (u : Value), X.xs[j]? = some u → cL[j]? = some u := by
  rcases Nat.eq_zero_or_pos D.L.length with h0 | h0
  · exact ⟨0, #[], fun hp => by omega⟩
  · obtain ⟨g, cur, h1, h2, h3⟩ := h.od.at_ h0
    exact ⟨g, cur, fun _ => ⟨h2, by rw [h1]; exact List.mem_singleton.2 rfl, h3⟩⟩
theorem zeroB_rb : zeroB = rb 512 b0s := zeros_rb 512
/-! What is new is told from now on. -/
section
variable {n : Nat} {w0 w : World} {a : Act} {e : Env} {h : Hep}
theorem boxR_told {z : Array Value} {v : Value} (hv : BoxS (NewS 512 w0.heap.size h (.ty 5) z) w0.heap.size h 39 (fun u => #[u]) v w) (H : St n w0 a w e h) : ∃ gz gx, v = .slice (some ⟨gx, 0, none⟩) 1 1 ∧ (∀ p ∈ h, p.1 ≠ gz) ∧ St n w0 a w e ((gx, .ty 39, #[.slice (some ⟨gz, 0, none⟩) 512 512]) :: (gz, .ty 5, z) :: h) := by
  obtain ⟨u, gx, ⟨g, rfl, g2, e2, hb, hB, hn⟩, rfl, hbx, hBx, hnx, hne⟩ := hv
  injection e2 with e2
  injection e2 with e2
  injection e2 with e2
  subst e2
  refine ⟨g, gx, rfl, hn, (H.add hb hB hn).add hbx hBx fun p hp => ?_⟩
  rcases List.mem_cons.1 hp with rfl | hp
  · exact hne g rfl
  · exact hnx p hp
theorem ofs_told {l : List UInt8} {v : Value} (hv : OF w0.heap.size h l v w) (hl : l.length = 512) (H : St n w0 a w e h) : ∃ g cap cur, v = .slice (some ⟨g, 0, none⟩) 512 cap ∧ US8 cur 512 cap l ∧ (∀ p ∈ h, p.1 ≠ g) ∧ St n w0 a w e ((g, .ty 5, cur) :: h) := by
  obtain ⟨g, cap, cur, rfl, hb, hB, hn, hu⟩ := hv.uc hl (by decide)
  exact ⟨g, cap, cur, rfl, hu, hn, H.add hb hB hn⟩
theorem boxL_told {k : Int} {l : List UInt8} {v : Value} (hv : BoxS (OF w0.heap.size h l) w0.heap.size h 87 (ltC k) v w) (hl : l.length = 512) (H : St n w0 a w e h) : ∃ g cap cur gx, v = .slice (some ⟨gx, 0, none⟩) 1 1 ∧ US8 cur 512 cap l ∧ (∀ p ∈ h, p.1 ≠ g) ∧ St n w0 a w e ((gx, .ty 87, ltC k (.slice (some ⟨g, 0, none⟩) 512 cap)) :: (g, .ty 5, cur) :: h) := by
  obtain ⟨u, gx, hu, rfl, hbx, hBx, hnx, hne⟩ := hv
  obtain ⟨g, cap, cur, rfl, hu, hn, H2⟩ := ofs_told hu hl H
  refine ⟨g, cap, cur, gx, rfl, hu, hn, H2.add hbx hBx fun p hp => ?_⟩
  rcases List.mem_cons.1 hp with rfl | hp
  · exact hne g rfl
  · exact hnx p hp
end
/-! New disks. -/
/-- The rows of so many new blocks. -/
structure NK (us : List Value) (r : Hep) (gu : Nat → Nat × Nat) : Prop where
  bo : ∀ i, i < us.length → us[i]? = some (.slice (some ⟨(gu i).1, 0, none⟩) 512 (gu i).2) ∧ RowB r (gu i) zeroB
  uu : ∀ i j, i < us.length → j < us.length → (gu i).1 = (gu j).1 → i = j
theorem NK.nil : NK [] [] (fun _ => (0, 0)) := ⟨fun i hi => absurd hi (Nat.not_lt_zero _), fun i j hi => absurd hi (Nat.not_lt_zero _)⟩
theorem NK.snoc {us : List Value} {r : Hep} {gu : Nat → Nat × Nat} {g : Nat} (h : NK us r gu) (hf : ∀ p ∈ r, p.1 ≠ g) : NK (us ++ [.slice (some ⟨g, 0, none⟩) 512 512]) ((g, .ty 5, bvs zeroB) :: r) (fun i => if i = us.length then (g, 512) else gu i) := by
  have hz : US8 (bvs zeroB) 512 512 zeroB := ⟨Nat.le_refl _, by unfold maxLen; decide, by rw [bvs_size]; exact zero_len, by unfold bvs; rw [List.take_of_length_le (by simp [zero_len])], by simp [zero_len]⟩
  have e1 : (us ++ [Value.slice (some ⟨g, 0, none⟩) 512 512]).length = us.length + 1 := by simp
  refine ⟨fun i hi => ?_, fun i j hi hj he => ?_⟩
  · rw [e1] at hi
    by_cases e : i = us.length
    · rw [if_pos e, e, List.getElem?_append_right (Nat.le_refl _), Nat.sub_self]
      exact ⟨rfl, _, List.mem_cons_self, hz⟩
    · rw [if_neg e, List.getElem?_append_left (by omega)]
      exact ⟨(h.bo i (by omega)).1, (h.bo i (by omega)).2.mono fun p hp => List.mem_cons_of_mem _ hp⟩
  · rw [e1] at hi hj
    by_cases e1 : i = us.length
    · by_cases e2 : j = us.length
      · rw [e1, e2]
      · simp only [if_pos e1, if_neg e2] at he
        exact absurd he.symm ((h.bo j (by omega)).2.ne hf)
    · by_cases e2 : j = us.length
      · simp only [if_neg e1, if_pos e2] at he
        exact absurd he ((h.bo i (by omega)).2.ne hf)
      · simp only [if_neg e1, if_neg e2] at he
        exact h.uu i j (by omega) (by omega) he
theorem NK.rk {us : List Value} {r : Hep} {gu : Nat → Nat × Nat} {cB : Array Value} {m : Nat} (h : NK us r gu) (hm : us.length = m) (hc : ∀ (j : Nat) (u : Value), us[j]? = some u → cB[j]? = some u) : RK cB [] r gu gu (List.replicate m zeroB) [] := by
  subst hm
  refine ⟨fun i b hb => ?_, rfl, fun k p hp => by simp at hp, fun i j hi hj => ?_, fun i j hi => absurd hi (Nat.not_lt_zero _), fun i k hi hk => absurd hk (Nat.not_lt_zero _)⟩
  · rw [List.getElem?_replicate] at hb
    split at hb
    · rename_i hi
      injection hb with hb
      subst hb
      exact ⟨hc _ _ (h.bo i hi).1, (h.bo i hi).2⟩
    · cases hb
  · rw [List.length_replicate] at hi hj
    exact h.uu i j hi hj
theorem RK.mono {cB : Array Value} {xs : List Value} {r r' : Hep} {gu gl : Nat → Nat × Nat} {B : List (List UInt8)} {L : List (Nat × List UInt8)} (h : RK cB xs r gu gl B L) (hs : ∀ p ∈ r, p ∈ r') : RK cB xs r' gu gl B L := ⟨fun i b hb => ⟨(h.bo i b hb).1, (h.bo i b hb).2.mono hs⟩, h.ln, fun k p hp => ⟨(h.lo k p hp).1, (h.lo k p hp).2.1, (h.lo k p hp).2.2.mono hs⟩, h.uu, h.ll, h.ul⟩
theorem getB {B : List (List UInt8)} {n : Nat} (h : n < B.length) : B[n]? = some (B.getD n []) := by
  rw [List.getD_eq_getElem?_getD, List.getElem?_eq_getElem h]
  rfl
end Go.Proofs.Ytiebelmglchbdaa
