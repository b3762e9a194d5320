/- A function's walk told by what its slots and blocks hold: no world, no frame is ever written out. An operation is told once; a region that draws its order, too: whatever the order, each operation comes to the same value (St, Does, drawn). No dump is imported. -/
import Derived.Test.YtiebelmglchbdaaFr
import Derived.Deep.MidRow
namespace Go.Proofs.Ytiebelmglchbdaa
set_option linter.unusedVariables false
set_option linter.unusedSimpArgs false
open Go Go.RowKit

abbrev Env := List (Nat × Value)
abbrev Hep := List (Nat × Tid × Array Value)
/-- In a, of n slots, the slots of e hold these values; in w, that came of w0, the blocks of h hold these rows. -/
structure St (n : Nat) (w0 : World) (a : Act) (w : World) (e : Env) (h : Hep) : Prop where
  size : a.tmps.size = n
  defers : a.defers = []
  env : ∀ p ∈ e, a.tmps[p.1]? = some p.2
  below : Below w0.heap.size w0 w
  heap : ∀ p ∈ h, Blk w p.1 p.2.1 p.2.2
  own : ∀ p ∈ h, w0.heap.size ≤ p.1
  apart : h.Pairwise (fun p q => p.1 ≠ q.1)
/-- An operand's value, by the slots that are known. -/
def look : Env → Nat → Option Value
  | [], _ => none
  | p :: r, k => bif Nat.beq p.1 k then some p.2 else look r k
def sev (e : Env) : Operand → Option Value
  | .tmp k => look e k
  | .const v => some v
  | .global g => some (.pointer (some ⟨g, 0, none⟩))
  | .func f => some (.func (.func f) #[] #[])
def sevs (e : Env) : List Operand → Option (List Value)
  | [] => some []
  | x :: r => match sev e x, sevs e r with
    | some v, some vs => some (v :: vs)
    | _, _ => none
theorem look_mem {e : Env} {k : Nat} {v : Value} (h : look e k = some v) : (k, v) ∈ e := by
  induction e with
  | nil => cases h
  | cons p r ih =>
    unfold look at h
    cases hb : Nat.beq p.1 k with
    | true =>
      rw [hb] at h
      have hk := Nat.eq_of_beq_eq_true hb
      injection h with h
      subst h
      subst hk
      exact List.mem_cons_self
    | false =>
      rw [hb] at h
      exact List.mem_cons_of_mem _ (ih h)
section
variable {P : Program} {n : Nat} {w0 w w' : World} {a : Act} {e : Env} {h : Hep} {Q : Exit → Act → World → Prop} {ops : Array Oper} {rest : List Oper} {o : Oper}
theorem St.slot (H : St n w0 a w e h) {k : Nat} {v : Value} (hv : look e k = some v) : a.tmps[k]? = some v := H.env _ (look_mem hv)
theorem St.ev (H : St n w0 a w e h) {x : Operand} {v : Value} (hv : sev e x = some v) : a.eval x = v := by
  cases x with
  | tmp k =>
    have := H.slot hv
    simp [Act.eval, this]
  | const u => exact Option.some.inj hv
  | global g => exact Option.some.inj hv
  | func f => exact Option.some.inj hv
theorem St.evs (H : St n w0 a w e h) : ∀ {xs : List Operand} {vs : List Value}, sevs e xs = some vs → xs.map a.eval = vs
  | [], vs, hv => Option.some.inj hv
  | x :: r, vs, hv => by
    unfold sevs at hv
    cases h1 : sev e x with
    | none => rw [h1] at hv; cases hv
    | some v =>
      cases h2 : sevs e r with
      | none => rw [h1, h2] at hv; cases hv
      | some us =>
        rw [h1, h2] at hv
        injection hv with hv
        rw [List.map_cons, H.ev h1, H.evs h2, hv]
/-- Beginning: the arguments' slots. -/
def fills : Nat → List Value → Env
  | _, [] => []
  | k, v :: r => (k, v) :: fills (k + 1) r
theorem fills_get {k : Nat} {vs : List Value} {p : Nat × Value} (hp : p ∈ fills k vs) : ∃ j, p.1 = k + j ∧ vs[j]? = some p.2 := by
  induction vs generalizing k with
  | nil => cases hp
  | cons v r ih =>
    rcases List.mem_cons.1 hp with rfl | hp
    · exact ⟨0, rfl, rfl⟩
    · obtain ⟨j, h1, h2⟩ := ih hp
      exact ⟨j + 1, by omega, h2⟩
theorem St.start (vs : List Value) (n : Nat) (w : World) (hn : vs.length ≤ n) : St n w { tmps := vs.toArray ++ Array.replicate (n - vs.toArray.size) undef, defers := [] } w (fills 0 vs) [] := by
  refine ⟨?_, rfl, fun p hp => ?_, Below.refl _ _, (fun p hp => by cases hp), (fun p hp => by cases hp), List.Pairwise.nil⟩
  · simp
    omega
  · obtain ⟨j, h1, h2⟩ := fills_get hp
    have hj : j < vs.length := (List.getElem?_eq_some_iff.1 h2).1
    rw [h1, Nat.zero_add]
    dsimp only
    rw [Array.getElem?_append_left (by simpa using hj)]
    simpa using h2
/-- A function's body. -/
theorem calls_st {f : FuncId} {fn : Func} {c : Code} {vs : List Value} {R : Ending → World → Prop} (n : Nat) (hf : P.funcs[f]? = some fn) (hb : fn.body = some c) (hn : fn.ntmps = n) (hl : Nat.ble vs.length n = true)
    (hc : ∀ a W, St n w a W (fills 0 vs) [] → c.wp P (bodyPost P fn R) a W) : Calls P f vs.toArray w R := by
  subst hn
  exact calls_of_wp hf hb (hc _ _ (St.start vs _ w (Nat.le_of_ble_eq_true hl)))
theorem St.put (H : St n w0 a w e h) {d : Nat} (v : Value) (hd : Nat.blt d n = true) (hf : e.all (fun p => !Nat.beq p.1 d) = true) : St n w0 (a.put (some d) v) w ((d, v) :: e) h := by
  have hd' : d < a.tmps.size := by rw [H.size]; simpa [Nat.blt_eq] using hd
  refine ⟨by simp [Act.put, H.size], H.defers, fun p hp => ?_, H.below, H.heap, H.own, H.apart⟩
  rcases List.mem_cons.1 hp with rfl | hp
  · show (a.tmps.setIfInBounds d v)[d]? = some v
    simp [hd']
  · have hne : d ≠ p.1 := by
      have := List.all_eq_true.1 hf p hp
      intro e1
      rw [e1, Nat.beq_refl] at this
      cases this
    show (a.tmps.setIfInBounds d v)[p.1]? = some p.2
    rw [Array.getElem?_setIfInBounds_ne hne]
    exact H.env p hp
theorem St.putN (H : St n w0 a w e h) (v : Value) : St n w0 (a.put none v) w e h := H
theorem St.call (H : St n w0 a w e h) (hb : Below w.heap.size w w') : St n w0 a w' e h :=
  ⟨H.size, H.defers, H.env, H.below.trans (hb.mono H.below.size), fun p hp => (H.heap p hp).below hb (H.heap p hp).lt, H.own, H.apart⟩
theorem St.drew (H : St n w0 a w e h) : St n w0 a w.drew e h := ⟨H.size, H.defers, H.env, H.below.drew, H.heap, H.own, H.apart⟩
theorem St.alloc (H : St n w0 a w e h) (cs : Array Value) (t : TypeId) : St n w0 a (w.alloc (.cells cs t)) e ((w.heap.size, t, cs) :: h) := by
  refine ⟨H.size, H.defers, H.env, H.below.alloc H.below.size _, fun p hp => ?_, fun p hp => ?_, List.pairwise_cons.2 ⟨fun p hp => ?_, H.apart⟩⟩
  · rcases List.mem_cons.1 hp with rfl | hp
    · exact Blk.new _ _ _
    · exact (H.heap p hp).alloc _
  · rcases List.mem_cons.1 hp with rfl | hp
    · exact H.below.size
    · exact H.own p hp
  · exact Nat.ne_of_gt (H.heap p hp).lt
theorem setAt_mem {h : Hep} {k : Nat} {x : Nat × Tid × Array Value} {p : Nat × Tid × Array Value} (hp : p ∈ h.set k x) : p = x ∨ ∃ j, j ≠ k ∧ h[j]? = some p := by
  obtain ⟨j, hj⟩ := List.mem_iff_getElem?.1 hp
  by_cases e : j = k
  · subst e
    left
    have hl : j < h.length := by
      have := (List.getElem?_eq_some_iff.1 hj).1
      simpa using this
    rw [List.getElem?_set_self hl] at hj
    exact (Option.some.inj hj).symm
  · right
    exact ⟨j, e, by rw [List.getElem?_set_ne (Ne.symm e)] at hj; exact hj⟩
theorem pw_ne {h : Hep} (hp : h.Pairwise (fun p q => p.1 ≠ q.1)) {i j : Nat} (hij : i ≠ j) {x y : Nat × Tid × Array Value} (hx : h[i]? = some x) (hy : h[j]? = some y) : x.1 ≠ y.1 := by
  obtain ⟨hi, rfl⟩ := List.getElem?_eq_some_iff.1 hx
  obtain ⟨hj, rfl⟩ := List.getElem?_eq_some_iff.1 hy
  rcases Nat.lt_or_ge i j with hl | hl
  · exact List.pairwise_iff_getElem.1 hp i j hi hj hl
  · exact Ne.symm (List.pairwise_iff_getElem.1 hp j i hj hi (by omega))
theorem pw_of {h : Hep} (hp : ∀ (i j : Nat) (x y : Nat × Tid × Array Value), i < j → h[i]? = some x → h[j]? = some y → x.1 ≠ y.1) : h.Pairwise (fun p q => p.1 ≠ q.1) :=
  List.pairwise_iff_getElem.2 fun i j hi hj hl => hp i j _ _ hl (List.getElem?_eq_getElem hi) (List.getElem?_eq_getElem hj)
/-- A block's row is written, whatever of it: f is what becomes of a world, c what the row becomes. -/
theorem St.write (H : St n w0 a w e h) {k g : Nat} {t : Tid} {cs c : Array Value} (hk : h[k]? = some (g, t, cs)) (hs : Blk w' g t c) (hb : Below w0.heap.size w0 w') (ho : ∀ (b : Nat) (t' : Tid) (d : Array Value), b ≠ g → Blk w b t' d → Blk w' b t' d) :
    St n w0 a w' e (h.set k (g, t, c)) := by
  refine ⟨H.size, H.defers, H.env, hb, fun p hp => ?_, fun p hp => ?_, pw_of fun i j x y hl hx hy => ?_⟩
  · rcases setAt_mem hp with rfl | ⟨j, hj, hp⟩
    · exact hs
    · exact ho _ _ _ (pw_ne H.apart hj hp hk) (H.heap p (List.mem_iff_getElem?.2 ⟨j, hp⟩))
  · rcases setAt_mem hp with rfl | ⟨j, hj, hp⟩
    · exact H.own (g, t, cs) (List.mem_iff_getElem?.2 ⟨k, hk⟩)
    · exact H.own p (List.mem_iff_getElem?.2 ⟨j, hp⟩)
  · have fst : ∀ (m : Nat) (z : Nat × Tid × Array Value), (h.set k (g, t, c))[m]? = some z → ∃ u : Nat × Tid × Array Value, h[m]? = some u ∧ u.1 = z.1 := by
      intro m z hz
      by_cases e1 : m = k
      · subst e1
        have hl : m < h.length := (List.getElem?_eq_some_iff.1 hk).1
        rw [List.getElem?_set_self hl] at hz
        exact ⟨_, hk, by rw [← Option.some.inj hz]⟩
      · rw [List.getElem?_set_ne (Ne.symm e1)] at hz
        exact ⟨_, hz, rfl⟩
    obtain ⟨u, hu, eu⟩ := fst i x hx
    obtain ⟨v, hv, ev⟩ := fst j y hy
    rw [← eu, ← ev]
    exact pw_ne H.apart (by omega) hu hv
theorem St.setRow (H : St n w0 a w e h) {k g : Nat} {t : TypeId} {cs : Array Value} (hk : h[k]? = some (g, .ty t, cs)) (c : Array Value) : St n w0 a (w.setRow g c) e (h.set k (g, .ty t, c)) := by
  have hm : (g, .ty t, cs) ∈ h := List.mem_iff_getElem?.2 ⟨k, hk⟩
  exact H.write hk ((H.heap _ hm).setRow_same c) (below_setRow H.below (H.own _ hm) c) (fun b t' d hne hb => hb.setRow_other hne c)
/-- Cells that are written one after another. -/
def setV (cs : Array Value) (o : Nat) : List Value → Array Value
  | [] => cs
  | v :: r => setV (cs.setIfInBounds o v) (o + 1) r
theorem Blk.setV {g : Nat} {t : Tid} : ∀ (vs : List Value) (o : Nat) (cs : Array Value) (W : World), Blk W g t cs → Blk (W.setCells g o vs) g t (setV cs o vs)
  | [], _, _, _, h => h
  | v :: r, o, cs, W, h => Blk.setV r (o + 1) _ _ (h.set_ o v)
theorem Blk.setCells_other {g b : Nat} {t : Tid} {d : Array Value} (hne : b ≠ g) : ∀ (vs : List Value) (o : Nat) (W : World), Blk W b t d → Blk (W.setCells g o vs) b t d
  | [], _, _, h => h
  | v :: r, o, W, h => Blk.setCells_other hne r (o + 1) _ (h.far hne v)
theorem below_setCells {B g : Nat} {w0 : World} (hg : B ≤ g) : ∀ (vs : List Value) (o : Nat) (W : World), Below B w0 W → Below B w0 (W.setCells g o vs)
  | [], _, _, h => h
  | v :: r, o, W, h => below_setCells hg r (o + 1) _ (h.setCell hg v)
theorem St.setCells (H : St n w0 a w e h) {k g : Nat} {t : Tid} {cs c : Array Value} (hk : h[k]? = some (g, t, cs)) (o : Nat) (vs : List Value) (hc : setV cs o vs = c) : St n w0 a (w.setCells g o vs) e (h.set k (g, t, c)) := by
  have hm : (g, t, cs) ∈ h := List.mem_iff_getElem?.2 ⟨k, hk⟩
  subst hc
  exact H.write hk (Blk.setV vs o cs w (H.heap _ hm)) (below_setCells (H.own _ hm) vs o w H.below) (fun b t' d hne hb => Blk.setCells_other hne vs o w hb)
/-- What is known may be told otherwise, or in part. -/
theorem St.sub (H : St n w0 a w e h) {e' : Env} {h' : Hep} (he : ∀ p ∈ e', p ∈ e) (hh : ∀ p ∈ h', p ∈ h) (hp : h'.Pairwise (fun p q => p.1 ≠ q.1)) : St n w0 a w e' h' :=
  ⟨H.size, H.defers, fun p hp => H.env p (he p hp), H.below, fun p hp => H.heap p (hh p hp), fun p hp => H.own p (hh p hp), hp⟩
def picks {α : Type} (l : List α) : List Nat → List α
  | [] => []
  | k :: r => match l[k]? with
    | some x => x :: picks l r
    | none => picks l r
theorem picks_get {α : Type} {l : List α} {ks : List Nat} {x : α} (hx : x ∈ picks l ks) : ∃ k ∈ ks, l[k]? = some x := by
  induction ks with
  | nil => cases hx
  | cons k r ih =>
    unfold picks at hx
    cases hk : l[k]? with
    | none =>
      rw [hk] at hx
      obtain ⟨j, hj, e⟩ := ih hx
      exact ⟨j, List.mem_cons_of_mem _ hj, e⟩
    | some y =>
      rw [hk] at hx
      rcases List.mem_cons.1 hx with rfl | hx
      · exact ⟨k, List.mem_cons_self, hk⟩
      · obtain ⟨j, hj, e⟩ := ih hx
        exact ⟨j, List.mem_cons_of_mem _ hj, e⟩
def rises : List Nat → Bool
  | [] => true
  | k :: r => r.all (fun j => Nat.blt k j) && rises r
theorem picks_pw {l : Hep} (hl : l.Pairwise (fun p q => p.1 ≠ q.1)) : ∀ {ks : List Nat}, rises ks = true → (picks l ks).Pairwise (fun p q => p.1 ≠ q.1)
  | [], _ => List.Pairwise.nil
  | k :: r, hr => by
    unfold rises at hr
    rw [Bool.and_eq_true] at hr
    unfold picks
    cases hk : l[k]? with
    | none => exact picks_pw hl hr.2
    | some y =>
      refine List.pairwise_cons.2 ⟨fun p hp => ?_, picks_pw hl hr.2⟩
      obtain ⟨j, hj, e⟩ := picks_get hp
      have := List.all_eq_true.1 hr.1 j hj
      rw [Nat.blt_eq] at this
      exact pw_ne hl (by omega) hk e
theorem St.pick (H : St n w0 a w e h) (es hs : List Nat) (hr : rises hs = true) : St n w0 a w (picks e es) (picks h hs) := by
  refine H.sub (fun p hp => ?_) (fun p hp => ?_) (picks_pw H.apart hr)
  · obtain ⟨k, _, hk⟩ := picks_get hp
    exact List.mem_iff_getElem?.2 ⟨k, hk⟩
  · obtain ⟨k, _, hk⟩ := picks_get hp
    exact List.mem_iff_getElem?.2 ⟨k, hk⟩

/-! What an operation does. -/
/-- It comes to the value v, and leaves what was there. -/
def Does (P : Program) (Q : Exit → Act → World → Prop) (n : Nat) (w0 : World) (e : Env) (h : Hep) (o : Oper) (v : Value) : Prop :=
  ∀ a w, St n w0 a w e h → o.wp P a w (fun a' w' => a' = a.put o.dst v ∧ Below w.heap.size w w') Q
/-- It comes to the value v, and to nothing else. -/
def Runs (P : Program) (n : Nat) (e : Env) (h : Hep) (o : Oper) (v : Value) : Prop := ∀ w0 a w, St n w0 a w e h → (execOp a.eval o).run P w = .ok (.value v) w
theorem Runs.does {v : Value} (hr : Runs P n e h o v) : Does P Q n w0 e h o v := fun a w H => by
  unfold Oper.wp
  rw [hr w0 a w H]
  exact ⟨rfl, Below.refl _ _⟩
theorem does_run {v : Value} (hv : ∀ a w, St n w0 a w e h → (execOp a.eval o).run P w = .ok (.value v) w) : Does P Q n w0 e h o v := fun a w H => by
  unfold Oper.wp
  rw [hv a w H]
  exact ⟨rfl, Below.refl _ _⟩
theorem runs_move {x : Operand} {v : Value} (ho : o.op = .move x) (hx : sev e x = some v) : Runs P n e h o v := fun w0 a w H => by
  unfold execOp
  simp only [ho, H.ev hx, Sem.run_pure]
theorem does_move {x : Operand} {v : Value} (ho : o.op = .move x) (hx : sev e x = some v) : Does P Q n w0 e h o v := (runs_move ho hx).does
theorem runs_assign {x : Operand} {v : Value} (ho : o.op = .assign x) (hx : sev e x = some v) : Runs P n e h o v := fun w0 a w H => by
  unfold execOp
  simp only [ho, H.ev hx, Sem.run_pure]
theorem does_assign {x : Operand} {v : Value} (ho : o.op = .assign x) (hx : sev e x = some v) : Does P Q n w0 e h o v := (runs_assign ho hx).does
theorem runs_pick {c x y : Operand} {b : Bool} {v : Value} (ho : o.op = .pick c x y) (hc : sev e c = some (.bool b)) (hx : b = true → sev e x = some v) (hy : b = false → sev e y = some v) : Runs P n e h o v := fun w0 a w H => by
  unfold execOp
  cases b with
  | true => simp [ho, H.ev hc, H.ev (hx rfl), asBool]
  | false => simp [ho, H.ev hc, H.ev (hy rfl), asBool]
theorem does_pick {c x y : Operand} {b : Bool} {v : Value} (ho : o.op = .pick c x y) (hc : sev e c = some (.bool b)) (hx : b = true → sev e x = some v) (hy : b = false → sev e y = some v) : Does P Q n w0 e h o v := (runs_pick ho hc hx hy).does
theorem runs_extract {x : Operand} {k : Nat} {vs : Array Value} {v : Value} (ho : o.op = .extract x k) (hx : sev e x = some (.tuple vs)) (hv : ∀ W, (Instr.extract (.tuple vs) k).run P W = .ok v W) : Runs P n e h o v := fun w0 a w H => by
  unfold execOp
  simp only [ho, H.ev hx, Sem.run_bind, hv, Result.andThen_ok, Sem.run_pure]
theorem does_extract {x : Operand} {k : Nat} {vs : Array Value} {v : Value} (ho : o.op = .extract x k) (hx : sev e x = some (.tuple vs)) (hv : ∀ W, (Instr.extract (.tuple vs) k).run P W = .ok v W) : Does P Q n w0 e h o v := (runs_extract ho hx hv).does
theorem runs_unOp {op : UnOp} {t : TypeId} {x : Operand} {u v : Value} (ho : o.op = .unOp op t x) (hx : sev e x = some u) (hv : ∀ W, (Op.unary op u).run P W = .ok v W) : Runs P n e h o v := fun w0 a w H => by
  unfold execOp
  simp only [ho, H.ev hx, Sem.run_bind, hv, Result.andThen_ok, Sem.run_pure]
theorem does_unOp {op : UnOp} {t : TypeId} {x : Operand} {u v : Value} (ho : o.op = .unOp op t x) (hx : sev e x = some u) (hv : ∀ W, (Op.unary op u).run P W = .ok v W) : Does P Q n w0 e h o v := (runs_unOp ho hx hv).does
theorem does_binOp {op : BinOp} {t t2 : TypeId} {x y : Operand} {u1 u2 v : Value} (ho : o.op = .binOp op t x y t2) (hx : sev e x = some u1) (hy : sev e y = some u2)
    (hv : ∀ W, (do eqGuard op t x y u1 u2; binOp op t u1 u2 : Sem Value).run P W = .ok v W) : Does P Q n w0 e h o v := does_run fun a w H => by
  unfold execOp
  simp only [ho, H.ev hx, H.ev hy]
  rw [Sem.run_bind, hv w]
  rfl
theorem does_field {t : TypeId} {x : Operand} {k : Nat} {u v : Value} (ho : o.op = .field t x k) (hx : sev e x = some u) (hv : ∀ W, (Instr.field t u k).run P W = .ok v W) : Does P Q n w0 e h o v := does_run fun a w H => by
  unfold execOp
  simp only [ho, H.ev hx, Sem.run_bind, hv, Result.andThen_ok, Sem.run_pure]
theorem does_index {t : TypeId} {x y : Operand} {u1 u2 v : Value} (ho : o.op = .index t x y) (hx : sev e x = some u1) (hy : sev e y = some u2) (hv : ∀ W, (Instr.index t u1 u2).run P W = .ok v W) : Does P Q n w0 e h o v := does_run fun a w H => by
  unfold execOp
  simp only [ho, H.ev hx, H.ev hy, Sem.run_bind, hv, Result.andThen_ok, Sem.run_pure]
theorem does_convert {s t : TypeId} {x : Operand} {u v : Value} (ho : o.op = .convert s t x) (hx : sev e x = some u) (hv : ∀ W, (convert s t u).run P W = .ok v W) : Does P Q n w0 e h o v := does_run fun a w H => by
  unfold execOp
  simp only [ho, H.ev hx, Sem.run_bind, hv, Result.andThen_ok, Sem.run_pure]
theorem does_fieldAddr {t : TypeId} {x : Operand} {k : Nat} {u v : Value} (ho : o.op = .fieldAddr t x k) (hx : sev e x = some u) (hv : ∀ W, (Instr.fieldAt t u k).run P W = .ok v W) : Does P Q n w0 e h o v := does_run fun a w H => by
  unfold execOp
  simp only [ho, H.ev hx, Sem.run_bind, hv, Result.andThen_ok, Sem.run_pure]
theorem does_indexAddr {t : TypeId} {x y : Operand} {u1 u2 v : Value} (ho : o.op = .indexAddr t x y) (hx : sev e x = some u1) (hy : sev e y = some u2) (hv : ∀ W, (Instr.indexAt t u1 u2).run P W = .ok v W) : Does P Q n w0 e h o v := does_run fun a w H => by
  unfold execOp
  simp only [ho, H.ev hx, H.ev hy, Sem.run_bind, hv, Result.andThen_ok, Sem.run_pure]
/-- The parts of what is built. -/
def sevp (e : Env) : List (Nat × Operand) → Option (List (Nat × Value))
  | [] => some []
  | p :: r => match sev e p.2, sevp e r with
    | some v, some vs => some ((p.1, v) :: vs)
    | _, _ => none
theorem St.evp (H : St n w0 a w e h) : ∀ {ps : List (Nat × Operand)} {vs : List (Nat × Value)}, sevp e ps = some vs → ps.map (fun p => (p.1, a.eval p.2)) = vs
  | [], vs, hv => Option.some.inj hv
  | p :: r, vs, hv => by
    unfold sevp at hv
    cases h1 : sev e p.2 with
    | none => rw [h1] at hv; cases hv
    | some v =>
      cases h2 : sevp e r with
      | none => rw [h1, h2] at hv; cases hv
      | some us =>
        rw [h1, h2] at hv
        injection hv with hv
        rw [List.map_cons, H.ev h1, H.evp h2, hv]
theorem does_build {t : TypeId} {ps : List (Nat × Operand)} {vs : List (Nat × Value)} {v : Value} (ho : o.op = .build t ps.toArray) (hx : sevp e ps = some vs) (hv : ∀ W, (Instr.build t vs.toArray).run P W = .ok v W) : Does P Q n w0 e h o v := does_run fun a w H => by
  unfold execOp
  have e1 : ps.toArray.map (fun (p : Nat × Operand) => (p.1, a.eval p.2)) = vs.toArray := by rw [List.map_toArray, H.evp hx]
  simp only [ho]
  show (do let x ← Instr.build t (ps.toArray.map (fun (p : Nat × Operand) => (p.1, a.eval p.2))); pure (Next.value x) : Sem Next).run P w = _
  rw [e1, Sem.run_bind, hv]
  rfl
/-- A load of a whole block. -/
theorem does_load {t : TypeId} {x : Operand} {g k : Nat} {t' : TypeId} {cs : Array Value} {d : TypeDesc} (ho : o.op = .load t x) (hx : sev e x = some (.pointer (some ⟨g, 0, none⟩))) (hk : h[k]? = some (g, .ty t', cs))
    (hu : P.underlying t = some d) (hd : (match d with | .struct _ | .array _ _ => true | _ => false) = true) (hi : (P.info? t).map (·.size) = some cs.size) : Does P Q n w0 e h o (.agg cs) := fun a w H =>
  wp_load_row t x ho g (H.ev hx) t' cs (0, 0) d (H.heap _ (List.mem_iff_getElem?.2 ⟨k, hk⟩)) hu hd hi ⟨rfl, Below.refl _ _⟩
/-- A load of a part of a block: what it yields is said of whatever world has that block. -/
theorem does_loadAt {t : TypeId} {x : Operand} {g f k : Nat} {t' : Tid} {cs : Array Value} {v : Value} (ho : o.op = .load t x) (hx : sev e x = some (.pointer (some ⟨g, f, none⟩))) (hk : h[k]? = some (g, t', cs))
    (hv : ∀ W, Blk W g t' cs → (Instr.loadAt t (.pointer (some ⟨g, f, none⟩))).run P W = .ok v W) : Does P Q n w0 e h o v := does_run fun a w H => by
  unfold execOp
  simp only [ho, H.ev hx, Sem.run_bind, hv w (H.heap _ (List.mem_iff_getElem?.2 ⟨k, hk⟩)), Result.andThen_ok, Sem.run_pure]
/-- A function of the program's own, that has a body. -/
def Ours (P : Program) (f : FuncId) : Prop := ∃ fn, P.funcs[f]? = some fn ∧ (fn.name == "runtime.NumGoroutine" || fn.body.isNone) = false
theorem run_callFunc {f : FuncId} (hf : Ours P f) (args : Array Value) (W : World) : (callFunc f args).run P W = .ok (.enter f args) W := by
  obtain ⟨fn, h1, h2⟩ := hf
  rw [Bool.or_eq_false_iff] at h2
  unfold callFunc
  have n1 : fn.name ≠ "runtime.NumGoroutine" := by simpa using h2.1
  have n2 : fn.body ≠ none := by
    intro e
    have := h2.2
    rw [e] at this
    cases this
  simp [Sem.run_bind, h1, n1, n2]
theorem run_call {ρ : Operand → Value} {f : FuncId} {args : List Operand} {tys : Array TypeId} (ho : o.op = .call { callee := .value (.func f), args := args.toArray, argTypes := tys }) (hf : Ours P f) (hρ : ρ (.func f) = .func (.func f) #[] #[]) (W : World) :
    (execOp ρ o).run P W = .ok (.enter f (args.map ρ).toArray) W := by
  unfold execOp
  simp only [ho, resolve, hρ, Deferred.ofValue, List.map_toArray]
  simp [Sem.run_bind, Sem.run_pure, invoke, run_callFunc hf]
theorem does_call {f : FuncId} {args : List Operand} {tys : Array TypeId} {vs : List Value} {v : Value} (ho : o.op = .call { callee := .value (.func f), args := args.toArray, argTypes := tys }) (hf : Ours P f) (hx : sevs e args = some vs)
    (hc : ∀ W, Below w0.heap.size w0 W → Calls P f vs.toArray W (fun r W' => r = .returned v ∧ Below W.heap.size W W')) : Does P Q n w0 e h o v := fun a w H => by
  unfold Oper.wp
  rw [run_call ho hf rfl, H.evs hx, Oper.upon_enter]
  refine (hc w H.below).mono ?_
  rintro r W' ⟨rfl, hb⟩
  exact ⟨rfl, hb⟩

/-! In the text's order. -/
theorem pl_does {d : Nat} {v : Value} (hd : Does P Q n w0 e h o v) (hg : o.guard = none) (hdst : o.dst = some d) (hl : Nat.blt d n = true) (hf : e.all (fun p => !Nat.beq p.1 d) = true)
    (H : St n w0 a w e h) (next : ∀ a w, St n w0 a w ((d, v) :: e) h → wpList P ops Q rest a w) : wpList P ops Q (o :: rest) a w :=
  wpList_plain hg fun K hK => Oper.wp_mono (fun a' w' hw => by
    obtain ⟨rfl, hb⟩ := hw
    refine hK _ _ (next _ _ ?_)
    rw [hdst]
    exact (H.call hb).put v hl hf) (hd a w H)
theorem pl_skip {d : Nat} (hw : ∀ a w, St n w0 a w e h → Region.wanted o (yielded ops a.tmps) = false) (hdst : o.dst = some d) (hl : Nat.blt d n = true) (hf : e.all (fun p => !Nat.beq p.1 d) = true)
    (H : St n w0 a w e h) (next : ∀ a w, St n w0 a w ((d, undef) :: e) h → wpList P ops Q rest a w) : wpList P ops Q (o :: rest) a w :=
  wpList_step fun K hK => by
    rw [hw a w H]
    refine hK _ _ (next _ _ ?_)
    rw [hdst]
    exact H.put _ hl hf
theorem pl_does_g {d : Nat} {v : Value} (hd : Does P Q n w0 e h o v) (hw : ∀ a w, St n w0 a w e h → Region.wanted o (yielded ops a.tmps) = true) (hdst : o.dst = some d) (hl : Nat.blt d n = true) (hf : e.all (fun p => !Nat.beq p.1 d) = true)
    (H : St n w0 a w e h) (next : ∀ a w, St n w0 a w ((d, v) :: e) h → wpList P ops Q rest a w) : wpList P ops Q (o :: rest) a w :=
  wpList_step fun K hK => by
    rw [hw a w H, if_pos rfl]
    exact Oper.wp_mono (fun a' w' hw => by
      obtain ⟨rfl, hb⟩ := hw
      refine hK _ _ (next _ _ ?_)
      rw [hdst]
      exact (H.call hb).put v hl hf) (hd a w H)
/-- A new variable. -/
def News (P : Program) (o : Oper) (t : TypeId) (z : Array Value) : Prop := ∀ (a : Act) (w : World), (execOp a.eval o).run P w = .ok (.value (.pointer (some ⟨w.heap.size, 0, none⟩))) (w.alloc (.cells z t))
theorem pl_new {d : Nat} {t : TypeId} {z : Array Value} (hd : News P o t z) (hg : o.guard = none) (hdst : o.dst = some d) (hl : Nat.blt d n = true) (hf : e.all (fun p => !Nat.beq p.1 d) = true)
    (H : St n w0 a w e h) (next : ∀ (g : Nat) a w, St n w0 a w ((d, .pointer (some ⟨g, 0, none⟩)) :: e) ((g, .ty t, z) :: h) → wpList P ops Q rest a w) : wpList P ops Q (o :: rest) a w :=
  wpList_plain hg fun K hK => by
    unfold Oper.wp
    rw [hd a w]
    refine hK _ _ (next w.heap.size _ _ ?_)
    rw [hdst]
    exact (H.alloc z t).put _ hl hf
/-- A variable for an argument. -/
theorem pl_box {d : Nat} {t : TypeId} {x : Operand} {v : Value} {z : Array Value} (ho : o.op = .box t x) (hx : sev e x = some v) (hr : ∀ W, (Instr.box t v).run P W = .ok (.pointer (some ⟨W.heap.size, 0, none⟩)) (W.alloc (.cells z t)))
    (hg : o.guard = none) (hdst : o.dst = some d) (hl : Nat.blt d n = true) (hf : e.all (fun p => !Nat.beq p.1 d) = true)
    (H : St n w0 a w e h) (next : ∀ (g : Nat) a w, St n w0 a w ((d, .pointer (some ⟨g, 0, none⟩)) :: e) ((g, .ty t, z) :: h) → wpList P ops Q rest a w) : wpList P ops Q (o :: rest) a w :=
  wpList_plain hg fun K hK => by
    unfold Oper.wp execOp
    simp only [ho, H.ev hx, Sem.run_bind, hr, Result.andThen_ok, Sem.run_pure]
    refine hK _ _ (next w.heap.size _ _ ?_)
    rw [hdst]
    exact (H.alloc z t).put _ hl hf
/-- A store of a whole block. -/
theorem pl_store {t : TypeId} {x y : Operand} {g k : Nat} {t' : TypeId} {cs c : Array Value} (ho : o.op = .store t x y) (hx : sev e x = some (.pointer (some ⟨g, 0, none⟩))) (hy : sev e y = some (.agg c)) (hk : h[k]? = some (g, .ty t', cs))
    (hi : (P.info? t).map (·.size) = some c.size) (hs : cs.size = c.size) (h1 : c.all (·.oneCell') = true) (hg : o.guard = none) (hdst : o.dst = none)
    (H : St n w0 a w e h) (next : ∀ a w, St n w0 a w e (h.set k (g, .ty t', c)) → wpList P ops Q rest a w) : wpList P ops Q (o :: rest) a w :=
  wpList_plain hg fun K hK => wp_store_row t x y ho g c (H.ev hx) (H.ev hy) t' cs (H.heap _ (List.mem_iff_getElem?.2 ⟨k, hk⟩)) hi hs h1 (hK _ _ (next _ _ (by
    rw [hdst]
    exact H.setRow hk c)))
/-- A store of a part of a block. -/
theorem pl_storeAt {t : TypeId} {x y : Operand} {g f k : Nat} {t' : Tid} {cs c : Array Value} {v : Value} {vs : List Value} (ho : o.op = .store t x y) (hx : sev e x = some (.pointer (some ⟨g, f, none⟩))) (hy : sev e y = some v) (hk : h[k]? = some (g, t', cs))
    (hr : ∀ W, Blk W g t' cs → (Instr.storeAt t (.pointer (some ⟨g, f, none⟩)) v).run P W = .ok () (W.setCells g f vs)) (hc : setV cs f vs = c) (hg : o.guard = none) (hdst : o.dst = none)
    (H : St n w0 a w e h) (next : ∀ a w, St n w0 a w e (h.set k (g, t', c)) → wpList P ops Q rest a w) : wpList P ops Q (o :: rest) a w :=
  wpList_plain hg fun K hK => by
    unfold Oper.wp execOp
    simp only [ho, H.ev hx, H.ev hy, Sem.run_bind, hr w (H.heap _ (List.mem_iff_getElem?.2 ⟨k, hk⟩)), Result.andThen_ok, Sem.run_pure]
    refine hK _ _ (next _ _ ?_)
    rw [hdst]
    exact H.setCells hk f vs hc
theorem pl_end (next : Q .normal a w) : wpList P ops Q [] a w := next
theorem rg_plain {id : Nat} {l : List Oper} (h : wpList P l.toArray Q l a w) : (Code.region id l.toArray false).wp P Q a w := wp_region_lit h
/-- Statements. -/
theorem then_normal {next : Act → World → Prop} (h : next a w) : Exit.then next Q .normal a w := h
end

/-! A region that draws its order: the first operations come in any order, each to its value, or to a new variable; the rest behind all of them, one after another. -/
inductive Item where
  /-- It comes to v in slot d; it hangs on the values of the operations ps. -/
  | val (d : Nat) (v : Value) (ps : List Nat)
  /-- It comes to v in slot d, whatever the blocks hold: it may come behind some of the rest. -/
  | pur (d : Nat) (v : Value) (ps : List Nat)
  /-- It is not wanted. -/
  | off (d : Nat) (ps : List Nat)
  | new (d : Nat) (t : TypeId) (z : Array Value)
def Item.d : Item → Nat
  | .val d _ _ => d
  | .pur d _ _ => d
  | .off d _ => d
  | .new d _ _ => d
def Item.out (g : Nat) : Item → Value
  | .val _ v _ => v
  | .pur _ v _ => v
  | .off _ _ => undef
  | .new _ _ _ => .pointer (some ⟨g, 0, none⟩)
def outs (G : Nat → Nat) : Nat → List Item → Env
  | _, [] => []
  | k, it :: r => (it.d, it.out (G k)) :: outs G (k + 1) r
def newHep (G : Nat → Nat) : Nat → List Item → Hep
  | _, [] => []
  | k, .new d t z :: r => (G k, t, z) :: newHep G (k + 1) r
  | k, _ :: r => newHep G (k + 1) r
/-- The values of some operations. -/
def depE (plan : List Item) : List Nat → Env
  | [] => []
  | p :: r => match plan[p]? with
    | some (.val d v _) => (d, v) :: depE plan r
    | some (.pur d v _) => (d, v) :: depE plan r
    | some (.off d _) => (d, undef) :: depE plan r
    | _ => depE plan r
def Item.ps : Item → List Nat
  | .val _ _ ps => ps
  | .pur _ _ ps => ps
  | .off _ ps => ps
  | .new _ _ _ => []
/-- What is to be shown of each. -/
def Item.ob (P : Program) (ops : Array Oper) (Q : Exit → Act → World → Prop) (n : Nat) (w0 : World) (e : Env) (h : Hep) (plan : List Item) (o : Oper) : Item → Prop
  | .val d v ps => Does P Q n w0 (depE plan ps ++ e) h o v ∧ ∀ a w, St n w0 a w (depE plan ps ++ e) h → Region.wanted o (yielded ops a.tmps) = true
  | .pur d v ps => Runs P n (depE plan ps ++ e) [] o v ∧ o.guard = none
  | .off d ps => ∀ a w, St n w0 a w (depE plan ps ++ e) h → Region.wanted o (yielded ops a.tmps) = false
  | .new d t z => News P o t z ∧ o.guard = none
def Obs (P : Program) (ops : Array Oper) (Q : Exit → Act → World → Prop) (n : Nat) (w0 : World) (e : Env) (h : Hep) (plan : List Item) : List Oper → List Item → Prop
  | o :: os, it :: r => it.ob P ops Q n w0 e h plan o ∧ Obs P ops Q n w0 e h plan os r
  | _, _ => True
/-- The operations that one waits for. -/
def waits (o : Oper) : List Nat := (o.after.toList.filter (fun x => Region.binds .any x)).map (·.on)
def maskOf : List Nat → Nat
  | [] => 0
  | k :: r => Nat.lor (Nat.shiftLeft 1 k) (maskOf r)
def masks (ops : Array Oper) : List Nat := ops.toList.map (fun o => maskOf (waits o))
/-- All that they wait for, and what those wait for. -/
def closeM (ms : List Nat) : Nat → Nat → Nat
  | 0, S => S
  | i + 1, S => closeM ms i (bif Nat.testBit S i then Nat.lor S (ms.getD i 0) else S)
def distinct : List Nat → Bool
  | [] => true
  | k :: r => r.all (fun j => !Nat.beq j k) && distinct r
/-- One after another, from m on: each waits for all from m to before it. -/
def lineUp (ms : List Nat) (m : Nat) : Nat → List Nat → Bool
  | _, [] => true
  | k, x :: r => Nat.beq (Nat.land (closeM ms k x) (Nat.shiftLeft 1 k - Nat.shiftLeft 1 m)) (Nat.shiftLeft 1 k - Nat.shiftLeft 1 m) && lineUp ms m (k + 1) r
/-- Which may come late. -/
def purMask : Nat → List Item → Nat
  | _, [] => 0
  | k, .pur _ _ _ :: r => Nat.lor (Nat.shiftLeft 1 k) (purMask (k + 1) r)
  | k, _ :: r => purMask (k + 1) r
def sub2 (a b : Nat) : Bool := Nat.beq (Nat.land a b) a
/-- The first of the rest waits for all but those that may come late, and these wait for nothing else. -/
def headOk (ms : List Nat) (pm m : Nat) : List Nat → Bool
  | [] => true
  | x :: _ => sub2 (Nat.shiftLeft 1 m - 1) (Nat.lor (closeM ms m x) pm) && (List.range m).all (fun j => !Nat.testBit pm j || sub2 (ms.getD j 0) (Nat.lor (closeM ms m x) pm))
def maskArr (n S : Nat) : Array Bool := ((List.range n).map (fun j => Nat.testBit S j)).toArray
def purFree (ops : Array Oper) (ms : List Nat) (pm m : Nat) : Bool := (List.range m).all (fun j => !Nat.testBit pm j || Region.free .any ops (maskArr ops.size (closeM ms j (ms.getD j 0))) j) && (Nat.beq pm 0 || Region.noSelect ops)
def downs : Nat → List Nat → Bool
  | _, [] => true
  | k, m :: r => Nat.blt m (Nat.shiftLeft 1 k) && downs (k + 1) r
def psOk : List Nat → List Item → Bool
  | m :: ms, it :: r => it.ps.all (fun j => Nat.testBit m j) && psOk ms r
  | _, [] => true
  | [], _ :: _ => false
def dstOk : List Oper → List Item → Bool
  | o :: os, it :: r => (match o.dst with | some d => Nat.beq d it.d | none => false) && dstOk os r
  | _, [] => true
  | [], _ :: _ => false
def planOk (ops : Array Oper) (n : Nat) (e : Env) (plan : List Item) (ms : List Nat) : Bool :=
  Nat.ble plan.length ops.size && downs 0 ms && psOk ms plan && dstOk ops.toList plan && distinct (plan.map (·.d)) && plan.all (fun it => Nat.blt it.d n && e.all (fun p => !Nat.beq p.1 it.d)) && lineUp ms plan.length plan.length (ms.drop plan.length) && headOk ms (purMask 0 plan) plan.length (ms.drop plan.length) && purFree ops ms (purMask 0 plan) plan.length
end Go.Proofs.Ytiebelmglchbdaa
