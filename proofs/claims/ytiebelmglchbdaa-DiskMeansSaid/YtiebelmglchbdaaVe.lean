/- Walks told by slots and blocks: statements, loops, a function's end. No dump is imported. -/
import Derived.Test.YtiebelmglchbdaaVd
namespace Go.Proofs.Ytiebelmglchbdaa
set_option linter.unusedVariables false
set_option linter.unusedSimpArgs false
open Go Go.RowKit

section
variable {P : Program} {n : Nat} {w0 w w' : World} {a : Act} {e : Env} {h : Hep} {Q : Exit → Act → World → Prop} {ops : Array Oper} {rest : List Oper} {o : Oper}
theorem news_of {t : TypeId} {z : Array Value} (ho : o.op = .alloc t) (hz : ∀ W, (Instr.alloc t true (.tuple #[])).run P W = .ok (.pointer (some ⟨W.heap.size, 0, none⟩)) (W.alloc (.cells z t))) : News P o t z := fun a w => by
  unfold execOp
  simp only [ho, Sem.run_bind, hz, Result.andThen_ok, Sem.run_pure]
theorem wanted_none (hg : o.guard = none) : ∀ a w, St n w0 a w e h → Region.wanted o (yielded ops a.tmps) = true := fun a w _ => by simp [Region.wanted, hg]
theorem wanted_some {j d : Nat} {b c : Bool} {oj : Oper} (hg : o.guard = some (j, b)) (hj : ops[j]? = some oj) (hd : oj.dst = some d) (hv : look e d = some (.bool c)) {r : Bool} (hr : (c == b) = r) : ∀ a w, St n w0 a w e h → Region.wanted o (yielded ops a.tmps) = r := fun a w H => by
  have := H.slot hv
  subst hr
  simp [Region.wanted, hg, yielded, hj, hd, this]
theorem wanted_off {j d : Nat} {b : Bool} {oj : Oper} (hg : o.guard = some (j, b)) (hj : ops[j]? = some oj) (hd : oj.dst = some d) (hv : look e d = some undef) : ∀ a w, St n w0 a w e h → Region.wanted o (yielded ops a.tmps) = false := fun a w H => by
  have := H.slot hv
  simp [Region.wanted, hg, yielded, hj, hd, this, undef]
/-! A function's end. -/
theorem end_cell {fn : Func} {R : Ending → World → Prop} {p : Tmp} {t : TypeId} {t' : TypeId} {g k : Nat} {cs : Array Value} {d : TypeDesc} (hr : fn.results = #[.cell p t]) (hp : look e p = some (.pointer (some ⟨g, 0, none⟩))) (hk : h[k]? = some (g, .ty t', cs))
    (hu : P.underlying t = some d) (hd : (match d with | .struct _ | .array _ _ => true | _ => false) = true) (hi : (P.info? t).map (·.size) = some cs.size) (H : St n w0 a w e h) (hR : Below w0.heap.size w0 w → R (.returned (.agg cs)) w) : bodyPost P fn R .ret a w :=
  bodyPost_ret (results_cell_row hr _ _ g t' cs (0, 0) d (H.ev (x := .tmp p) hp) (H.heap _ (List.mem_iff_getElem?.2 ⟨k, hk⟩)) hu hd hi) H.defers (hR H.below)
theorem end_tmp {fn : Func} {R : Ending → World → Prop} {p : Tmp} {v : Value} (hr : fn.results = #[.tmp p]) (hp : look e p = some v) (H : St n w0 a w e h) (hR : Below w0.heap.size w0 w → R (.returned v) w) : bodyPost P fn R .ret a w := by
  refine bodyPost_ret (v := v) ?_ H.defers (hR H.below)
  rw [results_tmp hr]
  have := H.ev (x := .tmp p) hp
  exact congrArg (Result.ok · w) this
theorem end_cell_tmp {fn : Func} {R : Ending → World → Prop} {p q : Tmp} {t : TypeId} {t' : TypeId} {g k : Nat} {cs : Array Value} {v : Value} {d : TypeDesc} (hr : fn.results = #[.cell p t, .tmp q]) (hp : look e p = some (.pointer (some ⟨g, 0, none⟩))) (hq : look e q = some v) (hk : h[k]? = some (g, .ty t', cs))
    (hu : P.underlying t = some d) (hd : (match d with | .struct _ | .array _ _ => true | _ => false) = true) (hi : (P.info? t).map (·.size) = some cs.size) (H : St n w0 a w e h) (hR : Below w0.heap.size w0 w → R (.returned (.tuple #[.agg cs, v])) w) : bodyPost P fn R .ret a w :=
  bodyPost_ret (results_row_tmp hr (H.ev (x := .tmp p) hp) (H.ev (x := .tmp q) hq) (H.heap _ (List.mem_iff_getElem?.2 ⟨k, hk⟩)) hu hd hi) H.defers (hR H.below)
/-- A row that a result's variable holds. -/
theorem run_cell {p : Tmp} {t : TypeId} {t' : TypeId} {g k : Nat} {cs : Array Value} {d : TypeDesc} (hp : look e p = some (.pointer (some ⟨g, 0, none⟩))) (hk : h[k]? = some (g, .ty t', cs))
    (hu : P.underlying t = some d) (hd : (match d with | .struct _ | .array _ _ => true | _ => false) = true) (hi : (P.info? t).map (·.size) = some cs.size) (H : St n w0 a w e h) : a.tmps[p]?.getD undef = .pointer (some ⟨g, 0, none⟩) ∧ (loadVar t ⟨g, 0, none⟩).run P w = .ok (.agg cs) w := by
  refine ⟨?_, run_loadVar_row w g t' t cs (0, 0) d (H.heap _ (List.mem_iff_getElem?.2 ⟨k, hk⟩)) hu hd hi⟩
  rw [H.slot hp]
  rfl
theorem end_cells {fn : Func} {R : Ending → World → Prop} {p q : Tmp} {t s : TypeId} {t' s' : TypeId} {g k g2 k2 : Nat} {cs ds : Array Value} {d d2 : TypeDesc} (hr : fn.results = #[.cell p t, .cell q s]) (hp : look e p = some (.pointer (some ⟨g, 0, none⟩))) (hk : h[k]? = some (g, .ty t', cs))
    (hu : P.underlying t = some d) (hd : (match d with | .struct _ | .array _ _ => true | _ => false) = true) (hi : (P.info? t).map (·.size) = some cs.size) (hq : look e q = some (.pointer (some ⟨g2, 0, none⟩))) (hk2 : h[k2]? = some (g2, .ty s', ds))
    (hu2 : P.underlying s = some d2) (hd2 : (match d2 with | .struct _ | .array _ _ => true | _ => false) = true) (hi2 : (P.info? s).map (·.size) = some ds.size) (H : St n w0 a w e h) (hR : Below w0.heap.size w0 w → R (.returned (.tuple #[.agg cs, .agg ds])) w) : bodyPost P fn R .ret a w := by
  refine bodyPost_ret ?_ H.defers (hR H.below)
  obtain ⟨h1, h2⟩ := run_cell hp hk hu hd hi H
  obtain ⟨h3, h4⟩ := run_cell hq hk2 hu2 hd2 hi2 H
  simp [results, hr, h1, h3, asAddr, h2, h4]

/-! Loops. -/
theorem least {p : Nat → Prop} : ∀ m, p m → ∃ m, p m ∧ ∀ j, p j → m ≤ j := by
  intro m
  induction m using Nat.strongRecOn with
  | _ m ih =>
    intro hm
    by_cases h : ∃ j, j < m ∧ p j
    · obtain ⟨j, hj, hpj⟩ := h
      exact ih j hj hpj
    · exact ⟨m, hm, fun j hj => Nat.le_of_not_lt fun hl => h ⟨j, hl, hj⟩⟩
/-- A loop of at most N rounds: I k is what holds behind k of them. -/
theorem wp_rounds {c : Code} (N : Nat) (I : Nat → Act → World → Prop) {k0 : Nat} (h0 : I k0 a w) (hk : k0 ≤ N)
    (round : ∀ k a w, k ≤ N → I k a w → c.wp P (Exit.then (fun a' w' => ∃ k', k < k' ∧ k' ≤ N ∧ I k' a' w') Q) a w) : (Code.loop c).wp P Q a w := by
  have hex : ∀ (q : Act × World), ∃ m : Nat, (∃ k, k ≤ N ∧ I k q.1 q.2) → (∃ k, k ≤ N ∧ I k q.1 q.2 ∧ N - k = m) ∧ ∀ k, k ≤ N → I k q.1 q.2 → m ≤ N - k := by
    intro q
    by_cases hq : ∃ k, k ≤ N ∧ I k q.1 q.2
    · obtain ⟨k, h1, h2⟩ := hq
      obtain ⟨m, ⟨j, hj1, hj2, hj3⟩, hmin⟩ := least (p := fun m => ∃ k, k ≤ N ∧ I k q.1 q.2 ∧ N - k = m) (N - k) ⟨k, h1, h2, rfl⟩
      exact ⟨m, fun _ => ⟨⟨j, hj1, hj2, hj3⟩, fun i hi1 hi2 => hmin _ ⟨i, hi1, hi2, rfl⟩⟩⟩
    · exact ⟨0, fun h => absurd h hq⟩
  obtain ⟨μ, hμ⟩ := Classical.axiomOfChoice hex
  refine wp_loop (fun a w => ∃ k, k ≤ N ∧ I k a w) (fun a w => μ (a, w)) ⟨k0, hk, h0⟩ (fun a w hI => ?_)
  obtain ⟨⟨k, hk1, hk2, hk3⟩, _⟩ := hμ (a, w) hI
  refine Code.wp_mono ?_ (round k a w hk1 hk2)
  intro e a' w' hq
  cases e with
  | normal =>
    obtain ⟨k', h1, h2, h3⟩ := hq
    have hI' : ∃ k, k ≤ N ∧ I k a' w' := ⟨k', h2, h3⟩
    have := (hμ (a', w') hI').2 k' h2 h3
    exact ⟨hI', by show μ (a', w') < μ (a, w); omega⟩
  | _ => exact hq
end
/-! Whole numbers. -/
section
variable {P : Program} {t : TypeId}
theorem i_lss (k m : Int) (x y : Operand) (W : World) : (do eqGuard .lss t x y (.int .i64 k) (.int .i64 m); binOp .lss t (.int .i64 k) (.int .i64 m) : Sem Value).run P W = .ok (.bool (decide (k < m))) W := by go_simp
theorem i_lss_yes {k m : Nat} (h : k < m) (x y : Operand) (W : World) : (do eqGuard .lss t x y (.int .i64 (k : Int)) (.int .i64 (m : Int)); binOp .lss t (.int .i64 (k : Int)) (.int .i64 (m : Int)) : Sem Value).run P W = .ok (.bool true) W := by
  rw [i_lss, decide_eq_true (by omega)]
theorem i_lss_no {k m : Nat} (h : ¬ k < m) (x y : Operand) (W : World) : (do eqGuard .lss t x y (.int .i64 (k : Int)) (.int .i64 (m : Int)); binOp .lss t (.int .i64 (k : Int)) (.int .i64 (m : Int)) : Sem Value).run P W = .ok (.bool false) W := by
  rw [i_lss, decide_eq_false (by omega)]
theorem i_geq (k m : Int) (x y : Operand) (W : World) : (do eqGuard .geq t x y (.int .i64 k) (.int .i64 m); binOp .geq t (.int .i64 k) (.int .i64 m) : Sem Value).run P W = .ok (.bool (decide (k ≥ m))) W := by go_simp
theorem i_add (k m : Int) (hl : -9223372036854775808 ≤ k + m ∧ k + m ≤ 9223372036854775807) (x y : Operand) (W : World) : (do eqGuard .add t x y (.int .i64 k) (.int .i64 m); binOp .add t (.int .i64 k) (.int .i64 m) : Sem Value).run P W = .ok (.int .i64 (k + m)) W := by
  go_simp
  exact IntWalk.i64_in _ hl
theorem i_sub (k m : Int) (hl : -9223372036854775808 ≤ k - m ∧ k - m ≤ 9223372036854775807) (x y : Operand) (W : World) : (do eqGuard .sub t x y (.int .i64 k) (.int .i64 m); binOp .sub t (.int .i64 k) (.int .i64 m) : Sem Value).run P W = .ok (.int .i64 (k - m)) W := by
  go_simp
  exact IntWalk.i64_in _ hl
theorem i_inc {k : Nat} (h : k < 9223372036854775807) (x y : Operand) (W : World) : (do eqGuard .add t x y (.int .i64 (k : Int)) (.int .i64 1); binOp .add t (.int .i64 (k : Int)) (.int .i64 1) : Sem Value).run P W = .ok (.int .i64 ((k + 1 : Nat) : Int)) W := by
  rw [i_add _ _ (by omega)]
  rfl
theorem i_from {k m : Nat} (h : k ≤ m) (hm : m < 9223372036854775807) (x y : Operand) (W : World) : (do eqGuard .sub t x y (.int .i64 (m : Int)) (.int .i64 (k : Int)); binOp .sub t (.int .i64 (m : Int)) (.int .i64 (k : Int)) : Sem Value).run P W = .ok (.int .i64 ((m - k : Nat) : Int)) W := by
  rw [i_sub _ _ (by omega), show (m : Int) - (k : Int) = ((m - k : Nat) : Int) by omega]
theorem i_quo8 (k : Int) (h : 0 ≤ k ∧ k ≤ 9223372036854775807) (x y : Operand) (W : World) : (do eqGuard .quo t x y (.int .i64 k) (.int .i64 8); binOp .quo t (.int .i64 k) (.int .i64 8) : Sem Value).run P W = .ok (.int .i64 (k / 8)) W := by
  go_simp
  exact IntWalk.i64_quo _ _ ⟨h.1, h.2, by omega⟩
theorem i_rem8 (k : Int) (h : 0 ≤ k ∧ k ≤ 9223372036854775807) (x y : Operand) (W : World) : (do eqGuard .rem t x y (.int .i64 k) (.int .i64 8); binOp .rem t (.int .i64 k) (.int .i64 8) : Sem Value).run P W = .ok (.int .i64 (k % 8)) W := by
  go_simp
  exact Int.tmod_eq_emod_of_nonneg h.1
end
section
variable {P : Program} {w : World} {a : Act} {Q : Exit → Act → World → Prop} {K : Act → World → Prop}
theorem then_ret (h : Q .ret a w) : Exit.then K Q .ret a w := h
theorem blk_ret {id : Nat} (h : Q .ret a w) : Exit.inBlock id Q .ret a w := h
theorem blk_normal {id : Nat} (h : Q .normal a w) : Exit.inBlock id Q .normal a w := h
theorem then_exit {id : Nat} (h : Q (.exit id) a w) : Exit.then K Q (.exit id) a w := h
theorem blk_exit {id : Nat} (h : Q .normal a w) : Exit.inBlock id Q (.exit id) a w := by
  show (if id = id then Q .normal a w else Q (.exit id) a w)
  rw [if_pos rfl]
  exact h
theorem blk_pass {id j : Nat} (hj : j ≠ id) (h : Q (.exit j) a w) : Exit.inBlock id Q (.exit j) a w := by
  show (if j = id then Q .normal a w else Q (.exit j) a w)
  rw [if_neg hj]
  exact h
theorem out_of {id : Nat} (h : Q .normal a w) : Exit.then K (Exit.inBlock id Q) (.exit id) a w := by
  show Exit.inBlock id Q (.exit id) a w
  show (if id = id then Q .normal a w else Q (.exit id) a w)
  rw [if_pos rfl]
  exact h
end
end Go.Proofs.Ytiebelmglchbdaa
