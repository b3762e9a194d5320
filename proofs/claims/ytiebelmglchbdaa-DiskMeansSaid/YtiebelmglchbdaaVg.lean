/- A region that draws its order, stores and all: each operation is told once, whatever comes before it that need not (drawnS). No dump is imported. -/
import Derived.Test.YtiebelmglchbdaaVe
namespace Go.Proofs.Ytiebelmglchbdaa
set_option linter.unusedVariables false
set_option linter.unusedSimpArgs false
open Go Go.RowKit

inductive It where
  /-- It comes to v in slot d; it hangs on the values of the operations ps and on the rows hs, as they were. -/
  | val (d : Nat) (v : Value) (ps hs : List Nat)
  | off (d : Nat) (ps : List Nat)
  | new (d : Nat) (t : TypeId) (z : Array Value)
  /-- The row k, which held cs in block g, holds c. -/
  | sto (k g : Nat) (t : Tid) (cs c : Array Value) (ps : List Nat)
  /-- The row of the new variable j holds c. -/
  | ston (j d : Nat) (t : TypeId) (z c : Array Value) (ps : List Nat)
def It.dst : It → Option Nat
  | .val d _ _ _ => some d
  | .off d _ => some d
  | .new d _ _ => some d
  | _ => none
def It.out (g : Nat) : It → Value
  | .val _ v _ _ => v
  | .new _ _ _ => .pointer (some ⟨g, 0, none⟩)
  | _ => undef
def It.ps : It → List Nat
  | .val _ _ ps _ => ps
  | .off _ ps => ps
  | .new _ _ _ => []
  | .sto _ _ _ _ _ ps => ps
  | .ston _ _ _ _ _ ps => ps
def It.hs : It → List Nat
  | .val _ _ _ hs => hs
  | _ => []
def outS (G : Nat → Nat) : Nat → List It → Env
  | _, [] => []
  | k, it :: r => match it.dst with
    | some d => (d, it.out (G k)) :: outS G (k + 1) r
    | none => outS G (k + 1) r
/-- What a row, or a new variable's row, is at the end. -/
def endB : List It → Nat → Array Value → Array Value
  | [], _, cs => cs
  | .sto k _ _ _ c _ :: r, j, cs => bif Nat.beq k j then c else endB r j cs
  | _ :: r, j, cs => endB r j cs
def endN : List It → Nat → Array Value → Array Value
  | [], _, cs => cs
  | .ston k _ _ _ c _ :: r, j, cs => bif Nat.beq k j then c else endN r j cs
  | _ :: r, j, cs => endN r j cs
def heapS (plan : List It) : Nat → Hep → Hep
  | _, [] => []
  | k, p :: r => (p.1, p.2.1, endB plan k p.2.2) :: heapS plan (k + 1) r
def newS (plan : List It) (G : Nat → Nat) : Nat → List It → Hep
  | _, [] => []
  | k, .new _ t z :: r => (G k, t, endN plan k z) :: newS plan G (k + 1) r
  | k, _ :: r => newS plan G (k + 1) r
def depS (plan : List It) : List Nat → Env
  | [] => []
  | p :: r => match plan[p]? with
    | some (.val d v _ _) => (d, v) :: depS plan r
    | some (.off d _) => (d, undef) :: depS plan r
    | _ => depS plan r
/-- A store. -/
def Stores (w w' : World) (g : Nat) (t : Tid) (c : Array Value) : Prop :=
  Blk w' g t c ∧ (∀ (b : Nat) (t' : Tid) (d : Array Value), b ≠ g → Blk w b t' d → Blk w' b t' d) ∧ (∀ (B : Nat) (w0 : World), B ≤ g → Below B w0 w → Below B w0 w') ∧ w.heap.size ≤ w'.heap.size
section
variable {P : Program} {n : Nat} {w0 w w' : World} {a : Act} {e : Env} {h : Hep} {Q : Exit → Act → World → Prop} {ops : Array Oper} {o : Oper}
theorem stores_row {g : Nat} {t : TypeId} {cs : Array Value} (hb : Blk w g (.ty t) cs) (c : Array Value) : Stores w (w.setRow g c) g t c :=
  ⟨hb.setRow_same c, fun b t' d hne h => h.setRow_other hne c, fun B w0 hB h => below_setRow h hB c, by have := (below_setRow (Below.refl 0 w) (Nat.zero_le g) c).size; exact this⟩
theorem stores_cells {g : Nat} {t : Tid} {cs c : Array Value} (hb : Blk w g t cs) (o : Nat) (vs : List Value) (hc : setV cs o vs = c) : Stores w (w.setCells g o vs) g t c := by
  subst hc
  exact ⟨Blk.setV vs o cs w hb, fun b t' d hne h => Blk.setCells_other hne vs o w h, fun B w0 hB h => below_setCells hB vs o w h, (below_setCells (Nat.zero_le g) vs o w (Below.refl 0 w)).size⟩
/-- What a store does. -/
def Sto (P : Program) (Q : Exit → Act → World → Prop) (n : Nat) (w0 : World) (e : Env) (o : Oper) (g : Nat) (t : Tid) (cs c : Array Value) : Prop :=
  ∀ a w, St n w0 a w e [(g, t, cs)] → o.wp P a w (fun a' w' => a' = a.put o.dst undef ∧ Stores w w' g t c) Q
theorem sto_row {ty : TypeId} {x y : Operand} {g : Nat} {t : TypeId} {cs c : Array Value} (ho : o.op = .store ty x y) (hx : sev e x = some (.pointer (some ⟨g, 0, none⟩))) (hy : sev e y = some (.agg c))
    (hi : (P.info? ty).map (·.size) = some c.size) (hs : cs.size = c.size) (h1 : c.all (·.oneCell') = true) : Sto P Q n w0 e o g t cs c := fun a w H => by
  have hb : Blk w g (.ty t) cs := H.heap _ List.mem_cons_self
  exact wp_store_row ty x y ho g c (H.ev hx) (H.ev hy) t cs hb hi hs h1 ⟨rfl, stores_row hb c⟩
theorem sto_at {ty : TypeId} {x y : Operand} {g f : Nat} {t : Tid} {cs c : Array Value} {v : Value} {vs : List Value} (ho : o.op = .store ty x y) (hx : sev e x = some (.pointer (some ⟨g, f, none⟩))) (hy : sev e y = some v)
    (hr : ∀ W, Blk W g t cs → (Instr.storeAt ty (.pointer (some ⟨g, f, none⟩)) v).run P W = .ok () (W.setCells g f vs)) (hc : setV cs f vs = c) : Sto P Q n w0 e o g t cs c := fun a w H => by
  have hb : Blk w g t cs := H.heap _ List.mem_cons_self
  unfold Oper.wp execOp
  simp only [ho, H.ev hx, H.ev hy, Sem.run_bind, hr w hb, Result.andThen_ok, Sem.run_pure]
  exact ⟨rfl, stores_cells hb f vs hc⟩
def It.ob (P : Program) (ops : Array Oper) (Q : Exit → Act → World → Prop) (n : Nat) (w0 : World) (e : Env) (h : Hep) (plan : List It) (o : Oper) : It → Prop
  | .val d v ps hs => Does P Q n w0 (depS plan ps ++ e) (picks h hs) o v ∧ ∀ a w, St n w0 a w (depS plan ps ++ e) [] → Region.wanted o (yielded ops a.tmps) = true
  | .off d ps => ∀ a w, St n w0 a w (depS plan ps ++ e) [] → Region.wanted o (yielded ops a.tmps) = false
  | .new d t z => News P o t z ∧ o.guard = none
  | .sto k g t cs c ps => h[k]? = some (g, t, cs) ∧ o.guard = none ∧ Sto P Q n w0 (depS plan ps ++ e) o g t cs c
  | .ston j d t z c ps => plan[j]? = some (.new d t z) ∧ o.guard = none ∧ ∀ g, Sto P Q n w0 ((d, .pointer (some ⟨g, 0, none⟩)) :: (depS plan ps ++ e)) o g t z c
def ObsS (P : Program) (ops : Array Oper) (Q : Exit → Act → World → Prop) (n : Nat) (w0 : World) (e : Env) (h : Hep) (plan : List It) : List Oper → List It → Prop
  | o :: os, it :: r => it.ob P ops Q n w0 e h plan o ∧ ObsS P ops Q n w0 e h plan os r
  | _, _ => True
end
/-! What is checked. -/
def ends : List It → List Nat
  | [] => []
  | it :: r => match it.dst with
    | some d => d :: ends r
    | none => ends r
def tgtB : List It → List Nat
  | [] => []
  | .sto k _ _ _ _ _ :: r => k :: tgtB r
  | _ :: r => tgtB r
def tgtN : List It → List Nat
  | [] => []
  | .ston k _ _ _ _ _ :: r => k :: tgtN r
  | _ :: r => tgtN r
def psOkS : List Nat → List It → Bool
  | m :: ms, it :: r => it.ps.all (fun j => Nat.testBit m j) && (match it with | .ston j _ _ _ _ _ => Nat.testBit m j | _ => true) && rises it.hs && psOkS ms r
  | _, [] => true
  | [], _ :: _ => false
def dstOkS : List Oper → List It → Bool
  | o :: os, it :: r => (match o.dst, it.dst with | some d, some d' => Nat.beq d d' | none, none => true | _, _ => false) && dstOkS os r
  | _, [] => true
  | [], _ :: _ => false
/-- Who reads a row that is written comes before that. -/
def readOk (ms : List Nat) (plan : List It) : Bool :=
  (List.range plan.length).all fun j => match plan[j]? with
    | some (.sto k _ _ _ _ _) => (List.range plan.length).all fun i => match plan[i]? with
      | some (.val _ _ _ hs) => !hs.contains k || Nat.testBit (closeM ms j (ms.getD j 0)) i
      | _ => true
    | _ => true
def planOkS (ops : Array Oper) (n : Nat) (e : Env) (plan : List It) (ms : List Nat) : Bool :=
  Nat.beq plan.length ops.size && downs 0 ms && psOkS ms plan && dstOkS ops.toList plan && distinct (ends plan) && (ends plan).all (fun d => Nat.blt d n && e.all (fun p => !Nat.beq p.1 d)) && distinct (tgtB plan) && distinct (tgtN plan) && readOk ms plan
end Go.Proofs.Ytiebelmglchbdaa
