/- The document's layer 11: tables of whole numbers; the orders. -/
import Derived.Test.YthjechjffhhiiaaDoorBc
import Derived.Test.YthjechjffhhiiaaDoorZc
namespace Go.Proofs.YthjechjffhhiiaaDoor
set_option linter.unusedVariables false
set_option linter.unusedSimpArgs false
set_option maxRecDepth 100000
open Go Go.RowKit

/-! Tables: slices of whole numbers (told as lists of blocks). -/
def iv (m : Nat) (f : Nat → Nat) : Array Value := ((List.range m).map fun i => .int .i64 ((f i : Nat) : Int)).toArray
def tabR (o : Nat → Nat) (n m : Nat) : Array Value := ((List.range n).map fun i => .slice (some ⟨o i, 0, none⟩) m m).toArray
def rowsB (o : Nat → Nat) (m : Nat) (f : Nat → Nat → Nat) : Nat → Hep
  | 0 => []
  | k + 1 => (o k, 3, iv m (f k)) :: rowsB o m f k
def tabB (g : Nat) (o : Nat → Nat) (n m : Nat) (f : Nat → Nat → Nat) : Hep := (g, 50, tabR o n m) :: rowsB o m f n
theorem iv_get {m i : Nat} (h : i < m) (f : Nat → Nat) : (iv m f)[i]? = some (.int .i64 ((f i : Nat) : Int)) := by simp [iv, h]
theorem tabR_get {n i : Nat} (h : i < n) (o : Nat → Nat) (m : Nat) : (tabR o n m)[i]? = some (.slice (some ⟨o i, 0, none⟩) m m) := by simp [tabR, h]
theorem rowsB_mem (o : Nat → Nat) (m : Nat) (f : Nat → Nat → Nat) : ∀ {n k : Nat}, k < n → (o k, 3, iv m (f k)) ∈ rowsB o m f n
  | n + 1, k, h => by
    by_cases e : k = n
    · subst e
      exact List.mem_cons_self
    · exact List.mem_cons_of_mem _ (rowsB_mem o m f (by omega))
theorem tabB_row {g : Nat} {o : Nat → Nat} {n m : Nat} {f : Nat → Nat → Nat} {k : Nat} (h : k < n) : (o k, 3, iv m (f k)) ∈ tabB g o n m f := List.mem_cons_of_mem _ (rowsB_mem o m f h)
theorem ia_ints {j n c o : Nat} (hj : j < n) {g : Nat} (W : World) : (Instr.indexAt 50 (.slice (some ⟨g, o, none⟩) n c) (.int .i64 (j : Int))).run Tryd.prog W = .ok (.pointer (some ⟨g, o + j, none⟩)) W := by
  have h1 : (0 : Int) ≤ (j : Int) := by omega
  have h2 : (j : Int) < (n : Int) := by omega
  go_simp
theorem ia_intss {j n c o : Nat} (hj : j < n) {g : Nat} (W : World) : (Instr.indexAt 48 (.slice (some ⟨g, o, none⟩) n c) (.int .i64 (j : Int))).run Tryd.prog W = .ok (.pointer (some ⟨g, o + j, none⟩)) W := by
  have h1 : (0 : Int) ≤ (j : Int) := by omega
  have h2 : (j : Int) < (n : Int) := by omega
  go_simp
theorem ld_iv {g j m : Nat} {t : TypeId} {f : Nat → Nat} (hj : j < m) (W : World) (h : Blk W g t (iv m f)) : (Instr.loadAt 3 (.pointer (some ⟨g, 0 + j, none⟩))).run Tryd.prog W = .ok (.int .i64 ((f j : Nat) : Int)) W := by
  have hc := h.cell j
  rw [iv_get hj] at hc
  rw [Nat.zero_add]
  go_simp
theorem ld_tab {g j n m : Nat} {t : TypeId} {o : Nat → Nat} (hj : j < n) (W : World) (h : Blk W g t (tabR o n m)) : (Instr.loadAt 50 (.pointer (some ⟨g, 0 + j, none⟩))).run Tryd.prog W = .ok (.slice (some ⟨o j, 0, none⟩) m m) W := by
  have hc := h.cell j
  rw [tabR_get hj] at hc
  rw [Nat.zero_add]
  go_simp
section
variable {P : Program} {n : Nat} {w0 w w' : World} {a : Act} {e e' : Env} {h h' : Hep} {G G' : List (World → Prop)} {Q : Exit → Act → World → Prop} {ops : Array Oper} {rest l : List Oper} {o : Oper}
/-- A slice that is built of what is known. -/
theorem made_evp {t : TypeId} {k : Nat} {ps : List (Nat × Operand)} {vs : List (Nat × Value)} {F : Nat → Value} {z : Array Value} {t' : TypeId} (ho : o.op = .buildSlice t k ps.toArray) (hx : sevp e ps = some vs)
    (hr : ∀ W, (Instr.buildSlice t k vs.toArray).run P W = .ok (F W.heap.size) (W.alloc (.cells z t'))) : ∀ a w, St n w0 a w e h → (execOp a.eval o).run P w = .ok (.value (F w.heap.size)) (w.alloc (.cells z t')) := fun a w H => by
  unfold execOp
  have e1 : ps.toArray.map (fun (p : Nat × Operand) => (p.1, a.eval p.2)) = vs.toArray := by rw [List.map_toArray, H.evp hx]
  simp only [ho]
  show (do let x ← Instr.buildSlice t k (ps.toArray.map (fun (p : Nat × Operand) => (p.1, a.eval p.2))); pure (Next.value x) : Sem Next).run P w = _
  rw [e1, Sem.run_bind, hr]
  rfl
/-- A call that yields new blocks, told behind all. -/
theorem rT {d : Nat} {f : FuncId} {args : List Operand} {tys : Array TypeId} {vs : List Value} {V : Nat → Value} {T : Nat → (Nat → Nat) → Hep} (hk : chk n ops e o = some d) (ho : o.op = .call { callee := .value (.func f), args := args.toArray, argTypes := tys }) (hf : Ours P f) (hx : sevs e args = some vs)
    (hc : ∀ w, Calls P f vs.toArray w (fun r W' => ∃ g u, r = .returned (V g) ∧ Below w.heap.size w W' ∧ (∀ p ∈ T g u, Blk W' p.1 p.2.1 p.2.2 ∧ w.heap.size ≤ p.1) ∧ (T g u).Pairwise (fun p q => p.1 ≠ q.1))) [hL : LastsL G]
    (next : ∀ g u, Rn P n w0 Q ops rest ((d, V g) :: e) (h ++ T g u) G) : Rn P n w0 Q ops (o :: rest) e h G := fun a w H g =>
  wpList_step fun K hK => by
    obtain ⟨h1, h2⟩ := chk_of hk
    rw [wantS_of H h1, if_pos rfl]
    refine step_of (F := fun v W' => ∃ g u, v = V g ∧ (∀ p ∈ T g u, Blk W' p.1 p.2.1 p.2.2 ∧ w.heap.size ≤ p.1) ∧ (T g u).Pairwise (fun p q => p.1 ≠ q.1)) h2 H g (ob_callS H (fun a w H => wantS_of H h1) ho hf hx ((hc w).mono fun r W' hr => ?_)).2 fun v a' w' hF H2 g2 => ?_
    · obtain ⟨g0, u0, rfl, hb, hB, hp⟩ := hr
      exact ⟨_, rfl, hb, g0, u0, rfl, hB, hp⟩
    · obtain ⟨g0, u0, rfl, hB, hp⟩ := hF
      refine hK _ _ (next g0 u0 a' w' ⟨H2.size, H2.defers, H2.env, H2.below, fun p hp => ?_, fun p hp => ?_, List.pairwise_append.2 ⟨H2.apart, hp, fun p hp q hq => ?_⟩⟩ g2)
      · rcases List.mem_append.1 hp with hp | hp
        · exact H2.heap p hp
        · exact (hB p hp).1
      · rcases List.mem_append.1 hp with hp | hp
        · exact H2.own p hp
        · exact Nat.le_trans H.below.size (hB p hp).2
      · have := (H.heap p hp).lt
        have := (hB q hq).2
        omega
theorem St.swap {x y z : Hep} (H : St n w0 a w e (x ++ (y ++ z))) : St n w0 a w e (y ++ (x ++ z)) := by
  have hp : (x ++ (y ++ z)).Perm (y ++ (x ++ z)) := by
    rw [← List.append_assoc, ← List.append_assoc]
    exact List.Perm.append_right _ List.perm_append_comm
  exact H.sub (fun _ h => h) (fun p hx => hp.mem_iff.2 hx) (hp.pairwise H.apart (fun h1 h2 => h1 h2.symm))
/-- A load from a block told in the tail. -/
theorem does_loadIn {t : TypeId} {x : Operand} {g f : Nat} {t' : TypeId} {cs : Array Value} {v : Value} (m : Nat) (T : Hep) (ho : o.op = .load t x) (hx : sev e x = some (.pointer (some ⟨g, f, none⟩))) (hT : h.drop m = T) (hm : (g, t', cs) ∈ T)
    (hv : ∀ W, Blk W g t' cs → (Instr.loadAt t (.pointer (some ⟨g, f, none⟩))).run P W = .ok v W) : Does P Q n w0 e h o v := by
  obtain ⟨k, hk⟩ := List.mem_iff_getElem?.1 (List.mem_of_mem_drop (hT ▸ hm))
  exact does_loadAt ho hx hk hv
end
/-! Built. -/
def rowP (m : Nat) (f : Nat → Nat) : List (Nat × Value) := (List.range m).map fun i => (i, .int .i64 ((f i : Nat) : Int))
def tabP (o : Nat → Nat) (n m : Nat) : List (Nat × Value) := (List.range n).map fun i => (i, .slice (some ⟨o i, 0, none⟩) m m)
theorem run_ord (r : Nat) (hr : r < 10) (W : World) : (Instr.buildSlice 50 16 (rowP 16 (ord r)).toArray).run Tryd.prog W = .ok (.slice (some ⟨W.heap.size, 0, none⟩) 16 16) (W.alloc (.cells (iv 16 (ord r)) 3)) := by
  obtain rfl | rfl | rfl | rfl | rfl | rfl | rfl | rfl | rfl | rfl : r = 0 ∨ r = 1 ∨ r = 2 ∨ r = 3 ∨ r = 4 ∨ r = 5 ∨ r = 6 ∨ r = 7 ∨ r = 8 ∨ r = 9 := by omega
  all_goals kernel_rfl
theorem run_plc (r : Nat) (hr : r < 8) (W : World) : (Instr.buildSlice 50 4 (rowP 4 (plc r)).toArray).run Tryd.prog W = .ok (.slice (some ⟨W.heap.size, 0, none⟩) 4 4) (W.alloc (.cells (iv 4 (plc r)) 3)) := by
  obtain rfl | rfl | rfl | rfl | rfl | rfl | rfl | rfl : r = 0 ∨ r = 1 ∨ r = 2 ∨ r = 3 ∨ r = 4 ∨ r = 5 ∨ r = 6 ∨ r = 7 := by omega
  all_goals kernel_rfl
theorem run_tab10 (o : Nat → Nat) (W : World) : (Instr.buildSlice 48 10 (tabP o 10 16).toArray).run Tryd.prog W = .ok (.slice (some ⟨W.heap.size, 0, none⟩) 10 10) (W.alloc (.cells (tabR o 10 16) 50)) := by kernel_rfl
theorem run_tab8 (o : Nat → Nat) (W : World) : (Instr.buildSlice 48 8 (tabP o 8 4).toArray).run Tryd.prog W = .ok (.slice (some ⟨W.heap.size, 0, none⟩) 8 8) (W.alloc (.cells (tabR o 8 4) 50)) := by kernel_rfl
attribute [local irreducible] wv wc bvs bv iv tabR
set_option maxHeartbeats 4000000 in
theorem rorders_any (w : World) : Calls Tryd.prog 19 #[] w (fun rr w' => ∃ g u, rr = .returned (.slice (some ⟨g, 0, none⟩) 10 10) ∧ Below w.heap.size w w' ∧ (∀ p ∈ tabB g u 10 16 ord, Blk w' p.1 p.2.1 p.2.2 ∧ w.heap.size ≤ p.1) ∧ (tabB g u 10 16 ord).Pairwise (fun p q => p.1 ≠ q.1)) := by
  refine calls_st (vs := []) 12 Tryd.func19 rfl Tryd.ntmps19 rfl (fun a W H => ?_)
  replace H : St 12 w a W [] [] := H
  refine sqR H gs0 fun Z_ z_ => rS 1 rfl <| rN0 z_ ?_
  try clear H a W
  intro a W H
  refine sqR H gs0 fun Z_ z_ => rM (F := fun g => .slice (some ⟨g, 0, none⟩) 16 16) (t := 3) (z := iv 16 (ord 0)) rfl (made_evp (F := fun g => .slice (some ⟨g, 0, none⟩) 16 16) (vs := rowP 16 (ord 0)) rfl (by kernel_rfl) (run_ord 0 (by decide))) fun g1 => rM (F := fun g => .slice (some ⟨g, 0, none⟩) 16 16) (t := 3) (z := iv 16 (ord 1)) rfl (made_evp (F := fun g => .slice (some ⟨g, 0, none⟩) 16 16) (vs := rowP 16 (ord 1)) rfl (by kernel_rfl) (run_ord 1 (by decide))) fun g2 => rM (F := fun g => .slice (some ⟨g, 0, none⟩) 16 16) (t := 3) (z := iv 16 (ord 2)) rfl (made_evp (F := fun g => .slice (some ⟨g, 0, none⟩) 16 16) (vs := rowP 16 (ord 2)) rfl (by kernel_rfl) (run_ord 2 (by decide))) fun g3 => rM (F := fun g => .slice (some ⟨g, 0, none⟩) 16 16) (t := 3) (z := iv 16 (ord 3)) rfl (made_evp (F := fun g => .slice (some ⟨g, 0, none⟩) 16 16) (vs := rowP 16 (ord 3)) rfl (by kernel_rfl) (run_ord 3 (by decide))) fun g4 => rM (F := fun g => .slice (some ⟨g, 0, none⟩) 16 16) (t := 3) (z := iv 16 (ord 4)) rfl (made_evp (F := fun g => .slice (some ⟨g, 0, none⟩) 16 16) (vs := rowP 16 (ord 4)) rfl (by kernel_rfl) (run_ord 4 (by decide))) fun g5 => rM (F := fun g => .slice (some ⟨g, 0, none⟩) 16 16) (t := 3) (z := iv 16 (ord 5)) rfl (made_evp (F := fun g => .slice (some ⟨g, 0, none⟩) 16 16) (vs := rowP 16 (ord 5)) rfl (by kernel_rfl) (run_ord 5 (by decide))) fun g6 => rM (F := fun g => .slice (some ⟨g, 0, none⟩) 16 16) (t := 3) (z := iv 16 (ord 6)) rfl (made_evp (F := fun g => .slice (some ⟨g, 0, none⟩) 16 16) (vs := rowP 16 (ord 6)) rfl (by kernel_rfl) (run_ord 6 (by decide))) fun g7 => rM (F := fun g => .slice (some ⟨g, 0, none⟩) 16 16) (t := 3) (z := iv 16 (ord 7)) rfl (made_evp (F := fun g => .slice (some ⟨g, 0, none⟩) 16 16) (vs := rowP 16 (ord 7)) rfl (by kernel_rfl) (run_ord 7 (by decide))) fun g8 => rM (F := fun g => .slice (some ⟨g, 0, none⟩) 16 16) (t := 3) (z := iv 16 (ord 8)) rfl (made_evp (F := fun g => .slice (some ⟨g, 0, none⟩) 16 16) (vs := rowP 16 (ord 8)) rfl (by kernel_rfl) (run_ord 8 (by decide))) fun g9 => rM (F := fun g => .slice (some ⟨g, 0, none⟩) 16 16) (t := 3) (z := iv 16 (ord 9)) rfl (made_evp (F := fun g => .slice (some ⟨g, 0, none⟩) 16 16) (vs := rowP 16 (ord 9)) rfl (by kernel_rfl) (run_ord 9 (by decide))) fun g10 => rM (F := fun g => .slice (some ⟨g, 0, none⟩) 10 10) (t := 50) (z := tabR (fun i => [g1, g2, g3, g4, g5, g6, g7, g8, g9, g10].getD i 0) 10 16) rfl (made_evp (F := fun g => .slice (some ⟨g, 0, none⟩) 10 10) (vs := tabP (fun i => [g1, g2, g3, g4, g5, g6, g7, g8, g9, g10].getD i 0) 10 16) rfl (by kernel_rfl) (run_tab10 _)) fun g11 => rK [1, 1, 1, 1, 1, 1, 1, 1, 1, 1, 1, 0] [] [] <| rS 1 rfl <| rK [1, 0, 0, 0, 0, 0, 0, 0, 0, 0, 0, 0] [] [] <| rN0 z_ ?_
  try clear H a W
  intro a W H
  refine wp_ret ?_
  repeat (first | (with_reducible refine then_ret ?_) | (with_reducible refine blk_ret ?_))
  refine end_tmp (p := 0) rfl rfl H (fun hb => ?_)
  have H2 : St _ _ _ _ _ (tabB g11 (fun i => [g1, g2, g3, g4, g5, g6, g7, g8, g9, g10].getD i 0) 10 16 ord) := H
  exact ⟨_, _, rfl, hb, fun p hp => ⟨H2.heap p hp, H2.own p hp⟩, H2.apart⟩
end Go.Proofs.YthjechjffhhiiaaDoor
