/- Slices of bytes as facts that last while a world grows (BF), bytes of the call's own (OF), appends, strings; calls that write on their caller's blocks (Kn), closures; loads out of slices and rows. -/
import Derived.Test.YtiebelmglchbdaaIa
import Derived.Test.YtiebelmglchbdaaProg
import Derived.Great.BuildSlice
import Derived.ArgAppend
import Derived.Laws.OwnMore
namespace Go.Proofs.Ytiebelmglchbdaa
set_option linter.unusedVariables false
set_option linter.unusedSimpArgs false
set_option maxRecDepth 100000
open Go Go.RowKit

def BF (l : List UInt8) (v : Value) (w : World) : Prop := ∃ A n c, v = .slice A n c ∧ BS w w.heap.size A n c l
section
variable {B : Nat} {h : Hep}
theorem BF.grow {l : List UInt8} : ∀ (v : Value) (w w' : World), BF l v w → Grow B h w w' → BF l v w' := fun v w w' ⟨A, n, c, e, h⟩ hb => ⟨A, n, c, e, (h.keep hb.cells).more hb.below.size⟩
end
theorem BF.below {l : List UInt8} {v : Value} {w w' : World} (hv : BF l v w) (hb : Below w.heap.size w w') : BF l v w' := BF.grow (B := 0) (h := []) _ _ _ hv (gro hb (Nat.zero_le _))
theorem BF.nil (w : World) : BF [] (.slice none 0 0) w := ⟨_, _, _, rfl, BS.nil _ _⟩
/-! Relations. -/
/-- Nothing that was there is touched. -/
abbrev SB : Rel := fun w w' => Below w.heap.size w w'
/-- One block alone of the call's own bytes is written on. -/
def WR (B : Nat) (h : Hep) : Rel := fun w w' => ∃ row, w.grownBy w' row ∧ ∀ g, row = some g → B ≤ g ∧ (∀ p ∈ h, p.1 ≠ g) ∧ ∃ cur, w.heap[g]? = some (.cells cur 5 (0, 0))
/-- Bytes of the call's own, apart from what is told. -/
def OF (B : Nat) (h : Hep) (l : List UInt8) (v : Value) (w : World) : Prop := OwnB w B 5 v l ∧ ∀ g, v.ownBlock = some g → ∀ p ∈ h, p.1 ≠ g
/-- A row of which the first n cells are these; all of it is the slice's. -/
structure UC (cur : Array Value) (n cap : Nat) (l : List Value) : Prop where
  le : n ≤ cap
  max : cap ≤ maxLen
  size : cur.size = cap
  take : cur.toList.take n = l
  len : l.length = n
abbrev US8 (cur : Array Value) (n cap : Nat) (l : List UInt8) : Prop := UC cur n cap (l.map bv)
theorem UC.at_ {cur : Array Value} {n cap : Nat} {l : List Value} (h : UC cur n cap l) {j : Nat} {u : Value} (hj : l[j]? = some u) : cur[j]? = some u := by
  rw [← h.take, List.getElem?_take] at hj
  split at hj
  · rw [← Array.getElem?_toList]
    exact hj
  · cases hj
theorem bf_uc {w : World} {g n cap : Nat} {cur : Array Value} {l : List UInt8} (hb : Blk w g 5 cur) (hu : US8 cur n cap l) : BF l (.slice (some ⟨g, 0, none⟩) n cap) w := by
  have hl : l.length = n := by simpa using hu.len
  refine ⟨_, _, _, rfl, hl, hu.le, (by intro e; cases e), fun _ => ⟨g, 0, rfl, hb.lt, fun j x hx => ?_⟩⟩
  rw [Nat.zero_add, hb.cell]
  exact hu.at_ (by rw [List.getElem?_map, hx]; rfl)
theorem own_uc {w : World} {base : Nat} {e : TypeId} {v : Value} {n : Nat} {xs : List Value} (h : w.ownsRow base e 1 v n xs) (hn : 0 < n) : ∃ g cap cur, v = .slice (some ⟨g, 0, none⟩) n cap ∧ base ≤ g ∧ Blk w g e cur ∧ UC cur n cap xs := by
  obtain ⟨h0, h1⟩ := h
  rcases h1 with ⟨_, h2⟩ | ⟨g, cap, cur, rfl, hb, hh, hc, hm, hs, ht⟩
  · omega
  · exact ⟨g, cap, cur, rfl, hb, hh, hc, hm, by omega, by rw [← ht, Nat.mul_one], by omega⟩
/-! What an operation comes to, where nothing that was there is touched. -/
section
variable {P : Program} {n : Nat} {w0 w w' : World} {a : Act} {e : Env} {h : Hep} {Q : Exit → Act → World → Prop} {ops : Array Oper} {o : Oper}
theorem sb_st : ∀ (a : Act) (w w' : World), St n w0 a w e h → SB w w' → St n w0 a w' e h := fun _ _ _ H hb => H.call hb
theorem wr_st : ∀ (a : Act) (w w' : World), St n w0 a w e h → WR w0.heap.size h w w' → St n w0 a w' e h := fun a w w' H ⟨row, hg, hr⟩ =>
  ⟨H.size, H.defers, H.env, H.below.grown hg H.below.size (fun g hg' => (hr g hg').1), fun p hp => (H.heap p hp).as (hg.block p.1 (H.heap p hp).lt (fun e => (hr p.1 e.symm).2.1 p hp rfl)), H.own, H.apart⟩
abbrev ObS (P : Program) (ops : Array Oper) (Q : Exit → Act → World → Prop) (o : Oper) (a : Act) (w : World) (F : Value → World → Prop) : Prop :=
  Region.wanted o (yielded ops a.tmps) = true ∧ o.wp P a w (fun a' w' => ∃ v, a' = a.put o.dst v ∧ SB w w' ∧ F v w') Q
theorem ob_valS {V : Value} (H : St n w0 a w e h) (hw : ∀ a w, St n w0 a w e h → Region.wanted o (yielded ops a.tmps) = true) (hd : Does P Q n w0 e h o V) : ObS P ops Q o a w (fun v _ => v = V) :=
  ⟨hw a w H, Oper.wp_mono (fun a' w' hx => ⟨V, hx.1, hx.2, rfl⟩) (hd a w H)⟩
theorem ob_runR {R : Rel} {F : Value → World → Prop} (H : St n w0 a w e h) (hw : ∀ a w, St n w0 a w e h → Region.wanted o (yielded ops a.tmps) = true) (hr : ∃ v w', (execOp a.eval o).run P w = .ok (.value v) w' ∧ R w w' ∧ F v w') :
    Region.wanted o (yielded ops a.tmps) = true ∧ o.wp P a w (fun a' w' => ∃ v, a' = a.put o.dst v ∧ R w w' ∧ F v w') Q := by
  refine ⟨hw a w H, ?_⟩
  obtain ⟨v, w', h1, h2, h3⟩ := hr
  unfold Oper.wp
  rw [h1]
  exact ⟨v, rfl, h2, h3⟩
theorem ob_callS {f : FuncId} {args : List Operand} {tys : Array TypeId} {vs : List Value} {F : Value → World → Prop} (H : St n w0 a w e h) (hw : ∀ a w, St n w0 a w e h → Region.wanted o (yielded ops a.tmps) = true)
    (ho : o.op = .call { callee := .value (.func f), args := args.toArray, argTypes := tys }) (hf : Ours P f) (hx : sevs e args = some vs)
    (hc : Calls P f vs.toArray w (fun r W' => ∃ v, r = .returned v ∧ Below w.heap.size w W' ∧ F v W')) : ObS P ops Q o a w F := by
  refine ⟨hw a w H, ?_⟩
  unfold Oper.wp
  rw [run_call ho hf rfl, H.evs hx, Oper.upon_enter]
  refine hc.mono ?_
  rintro r W' ⟨v, rfl, hb, hF⟩
  exact ⟨v, rfl, hb, hF⟩
theorem ob_calS {f : FuncId} {args : List Operand} {tys : Array TypeId} {vs : List Value} {V : Value} (H : St n w0 a w e h) (hw : ∀ a w, St n w0 a w e h → Region.wanted o (yielded ops a.tmps) = true)
    (ho : o.op = .call { callee := .value (.func f), args := args.toArray, argTypes := tys }) (hf : Ours P f) (hx : sevs e args = some vs)
    (hc : Calls P f vs.toArray w (fun r W' => r = .returned V ∧ Below w.heap.size w W')) : ObS P ops Q o a w (fun v _ => v = V) :=
  ob_callS H hw ho hf hx (hc.mono fun r W' ⟨h1, h2⟩ => ⟨V, h1, h2, rfl⟩)
theorem ob_moveS {x : Operand} {v : Value} {F : Value → World → Prop} (H : St n w0 a w e h) (hw : ∀ a w, St n w0 a w e h → Region.wanted o (yielded ops a.tmps) = true) (ho : o.op = .move x) (hx : sev e x = some v) (hv : F v w) : ObS P ops Q o a w F := by
  refine ob_runR H hw ⟨v, w, ?_, Below.refl _ _, hv⟩
  simp [execOp, ho, H.ev hx]
end
section
variable {n : Nat} {w0 w w' : World} {a : Act} {e : Env} {h : Hep} {Q : Exit → Act → World → Prop} {ops : Array Oper} {o : Oper}
theorem u8_info : (Try.prog.info? 5).map (fun i => (i.zero, i.size, i.bytes)) = some (some (.int .u8 0), 1, 1) := by kernel_rfl
theorem grown_none {w w' : World} (h : w.grownBy w' none) : SB w w' := (Below.refl _ _).grown h (Nat.le_refl _) (fun g e => by cases e)
theorem of_after {B : Nat} {h : Hep} {l : List UInt8} {v v' : Value} {w w' : World} (H : St n w0 a w e h) (hv : ∀ g, v.ownBlock = some g → ∀ p ∈ h, p.1 ≠ g) (h2 : v'.ownBlock = v.ownBlock ∨ v'.ownBlock = some w.heap.size) (ho : OwnB w' B 5 v' l) : OF B h l v' w' := by
  refine ⟨ho, fun g hg p hp => ?_⟩
  rcases h2 with h2 | h2
  · exact hv g (h2 ▸ hg) p hp
  · rw [h2] at hg
    injection hg with hg
    subst hg
    exact Nat.ne_of_lt (H.heap p hp).lt
/-- 'append([]byte(nil), x...)'. -/
theorem ob_app0S {x : Operand} {u : Value} {l : List UInt8} (H : St n w0 a w e h) (hw : ∀ a w, St n w0 a w e h → Region.wanted o (yielded ops a.tmps) = true) (ho : o.op = .call { callee := .builtin .append, args := #[.const (.slice none 0 0), x], argTypes := #[39, 39] })
    (hx : sev e x = some u) (hu : BF l u w) (hs : l.length ≤ 1000000) : ObS Try.prog ops Q o a w (OF w0.heap.size h l) := by
  refine ob_runR H hw ?_
  obtain ⟨A, k, c, rfl, hr⟩ := hu
  have hk := hr.len
  obtain ⟨v', w', h1, h2, h3, h4⟩ := run_app_own (P := Try.prog) (w := w) 39 o.type 5 Try.underlying39 u8_info w0.heap.size (.slice none 0 0) [] (OwnB.nil _ _ _) _ k c A l hr (by simp only [List.length_nil]; omega) H.below.size
  refine ⟨v', w', ?_, grown_none h3, of_after H (v := .slice none 0 0) (fun g hg => by cases hg) h4 (by simpa using h2)⟩
  have hc : a.eval (.const (.slice none 0 0)) = .slice none 0 0 := rfl
  simp [execOp, ho, resolve, invoke, builtin, hc, H.ev hx, h1, Result.andThen]
/-- 'append(v, x...)', v the call's own. -/
theorem ob_appW {x y : Operand} {v u : Value} {l m : List UInt8} (H : St n w0 a w e h) (hw : ∀ a w, St n w0 a w e h → Region.wanted o (yielded ops a.tmps) = true) (ho : o.op = .call { callee := .builtin .append, args := #[x, y], argTypes := #[39, 39] })
    (hx : sev e x = some v) (hy : sev e y = some u) (hv : OF w0.heap.size h l v w) (hu : BF m u w) (hs : l.length + m.length ≤ 1000000) :
    Region.wanted o (yielded ops a.tmps) = true ∧ o.wp Try.prog a w (fun a' w' => ∃ v, a' = a.put o.dst v ∧ WR w0.heap.size h w w' ∧ OF w0.heap.size h (l ++ m) v w') Q := by
  refine ob_runR H hw ?_
  obtain ⟨A, k, c, rfl, hr⟩ := hu
  have hk := hr.len
  obtain ⟨hown, hap⟩ := hv
  obtain ⟨v', w', h1, h2, h3, h4⟩ := run_app_own (P := Try.prog) (w := w) 39 o.type 5 Try.underlying39 u8_info w0.heap.size v l hown _ k c A m hr (by omega) H.below.size
  refine ⟨v', w', ?_, ⟨_, h3, fun g hg => ⟨(hown.own hg).1, fun p hp => hap g hg p hp, ?_⟩⟩, of_after H hap h4 h2⟩
  · simp [execOp, ho, resolve, invoke, builtin, H.ev hx, H.ev hy, h1, Result.andThen]
  · rcases hown.2 with ⟨rfl, _⟩ | ⟨g', cap, cur, rfl, _, hh, _⟩
    · cases hg
    · injection hg with hg
      subst hg
      exact ⟨cur, hh⟩
end
/-! What lasts. -/
theorem BF.sb {l : List UInt8} : ∀ (v : Value) (w w' : World), BF l v w → SB w w' → BF l v w' := fun v w w' h hb => BF.below h hb
theorem NewF.sb {B : Nat} {h : Hep} {t : TypeId} {z : Array Value} : ∀ (v : Value) (w w' : World), NewF B h t z v w → SB w w' → NewF B h t z v w' := fun v w w' ⟨g, e, hb, h1, h2⟩ hs => ⟨g, e, hb.below hs hb.lt, h1, h2⟩
theorem NewF.wr {B B' : Nat} {h h' : Hep} {t : TypeId} {z : Array Value} (ht : t ≠ 5) : ∀ (v : Value) (w w' : World), NewF B h t z v w → WR B' h' w w' → NewF B h t z v w' := fun v w w' ⟨g, e, hb, h1, h2⟩ ⟨row, hg, hr⟩ => ⟨g, e, (hg.block g hb.lt (fun e2 => by
  obtain ⟨_, _, cur, hc⟩ := hr g e2.symm
  have h3 := hb.symm.trans hc
  injection h3 with h3
  injection h3 with h3 h4
  exact ht h4)).trans hb, h1, h2⟩
theorem OF.sb {B : Nat} {h : Hep} {l : List UInt8} : ∀ (v : Value) (w w' : World), OF B h l v w → SB w w' → OF B h l v w' := fun v w w' ⟨ho, ha⟩ hb => by
  refine ⟨⟨ho.1, ho.2.imp id ?_⟩, ha⟩
  rintro ⟨g, cap, cur, rfl, h1, hh, r⟩
  exact ⟨g, cap, cur, rfl, h1, (hb.block g (Array.getElem?_eq_some_iff.1 hh).1).trans hh, r⟩
theorem OF.bf {B : Nat} {h : Hep} {l : List UInt8} {v : Value} {w : World} (hv : OF B h l v w) : BF l v w := by
  obtain ⟨A, n, c, e, hb, _⟩ := hv.1.form
  exact ⟨A, n, c, e, hb⟩
theorem OF.uc {B : Nat} {h : Hep} {l : List UInt8} {v : Value} {w : World} {n : Nat} (hv : OF B h l v w) (hn : l.length = n) (h0 : 0 < n) : ∃ g cap cur, v = .slice (some ⟨g, 0, none⟩) n cap ∧ Blk w g 5 cur ∧ B ≤ g ∧ (∀ p ∈ h, p.1 ≠ g) ∧ US8 cur n cap l := by
  obtain ⟨ho, ha⟩ := hv
  unfold OwnB at ho
  rw [hn] at ho
  obtain ⟨g, cap, cur, rfl, h1, h2, h3⟩ := own_uc ho h0
  exact ⟨g, cap, cur, rfl, h2, h1, ha g rfl, h3⟩
section
variable {n : Nat} {w0 w w' : World} {a : Act} {e : Env} {h : Hep}
theorem bf_old {l : List UInt8} {v : Value} (hm : BF l v w0) (H : St n w0 a w e h) : BF l v w := BF.grow (B := 0) (h := []) _ _ _ hm (gro H.below (Nat.zero_le _))
end

/-! Calls that write on what their caller knows. -/
structure Kn (w0 w : World) (h : Hep) : Prop where
  below : Below w0.heap.size w0 w
  heap : ∀ p ∈ h, Blk w p.1 p.2.1 p.2.2
  own : ∀ p ∈ h, w0.heap.size ≤ p.1
  apart : h.Pairwise (fun p q => p.1 ≠ q.1)
section
variable {P : Program} {n : Nat} {w0 w w' : World} {a : Act} {e : Env} {h h' : Hep} {Q : Exit → Act → World → Prop} {ops : Array Oper} {rest : List Oper} {o : Oper}
theorem St.kn (H : St n w0 a w e h) : Kn w0 w h := ⟨H.below, H.heap, H.own, H.apart⟩
theorem St.again {w1 : World} (H : St n w1 a w e h) (K : Kn w0 w' h') : St n w0 a w' e h' := ⟨H.size, H.defers, H.env, K.below, K.heap, K.own, K.apart⟩
theorem calls_kn {f : FuncId} {fn : Func} {c : Code} {vs : List Value} {R : Ending → World → Prop} (n : Nat) (hf : P.funcs[f]? = some fn) (hb : fn.body = some c) (hn : fn.ntmps = n) (hl : Nat.ble vs.length n = true)
    (K : Kn w0 w h) (hc : ∀ a W, St n w0 a W (fills 0 vs) h → c.wp P (bodyPost P fn R) a W) : Calls P f vs.toArray w R := by
  subst hn
  exact calls_of_wp hf hb (hc _ _ ((St.start vs _ w (Nat.le_of_ble_eq_true hl)).again K))
theorem end_none {fn : Func} {R : Ending → World → Prop} (hr : fn.results = #[]) (H : St n w0 a w e h) (hR : Kn w0 w h → R (.returned (.tuple #[])) w) : bodyPost P fn R .normal a w := by
  refine ⟨H.defers, .tuple #[], ?_, hR H.kn⟩
  simp [results, hr]
theorem pl_callK {d : Nat} {f : FuncId} {x : Operand} {caps : Array Value} {args : List Operand} {tys : Array TypeId} {vs vs' : List Value} {v : Value} (ho : o.op = .call { callee := .value x, args := args.toArray, argTypes := tys }) (hf : Ours P f)
    (hx0 : sev e x = some (.func (.func f) #[] caps)) (hx : sevs e args = some vs) (hv : vs.toArray ++ caps = vs'.toArray)
    (hc : Kn w0 w h → Calls P f vs'.toArray w (fun r W' => r = .returned v ∧ Kn w0 W' h'))
    (hg : o.guard = none) (hdst : o.dst = some d) (hl : Nat.blt d n = true) (hfr : e.all (fun p => !Nat.beq p.1 d) = true) (H : St n w0 a w e h)
    (next : ∀ a w, St n w0 a w ((d, v) :: e) h' → wpList P ops Q rest a w) : wpList P ops Q (o :: rest) a w :=
  wpList_plain hg fun K hK => by
    have hrun : (execOp a.eval o).run P w = .ok (.enter f vs'.toArray) w := by
      unfold execOp
      simp only [ho, resolve, H.ev hx0, Deferred.ofValue, List.map_toArray, H.evs hx]
      simp [Sem.run_bind, Sem.run_pure, invoke, hv, run_callFunc hf]
    unfold Oper.wp
    rw [hrun, Oper.upon_enter]
    refine (hc H.kn).mono ?_
    rintro r W' ⟨rfl, hk⟩
    refine hK _ _ (next _ _ ?_)
    rw [hdst]
    exact (H.again hk).put v hl hfr
theorem does_makeFunc {x : Operand} {f : FuncId} {u : Value} (ho : o.op = .makeFunc (.func f) #[] #[x]) (hx : sev e x = some u) : Does P Q n w0 e h o (.func (.func f) #[] #[u]) := does_run fun a w H => by
  unfold execOp
  simp [ho, H.ev hx, Instr.makeFunc, Result.andThen]
/-- A cell that was there at the beginning. -/
theorem does_loadCell {t : TypeId} {x : Operand} {g f : Nat} {v : Value} (ho : o.op = .load t x) (hx : sev e x = some (.pointer (some ⟨g, f, none⟩))) (hw : w0.cell? ⟨g, f, none⟩ = some v) (hg : g < w0.heap.size)
    (hv : ∀ W, W.cell? ⟨g, f, none⟩ = some v → (Instr.loadAt t (.pointer (some ⟨g, f, none⟩))).run P W = .ok v W) : Does P Q n w0 e h o v := does_run fun a w H => by
  unfold execOp
  have hc : w.cell? ⟨g, f, none⟩ = some v := (H.below.cell (p := ⟨g, f, none⟩) hg).trans hw
  simp only [ho, H.ev hx, Sem.run_bind, hv w hc, Result.andThen_ok, Sem.run_pure]
end
end Go.Proofs.Ytiebelmglchbdaa
