/- Walks that name no world: what slots, blocks and facts are known stands in the judgement (Rn: the operations of a region that keeps the text's order); what is plain is run by the kernel (rS). No dump is imported. -/
import Derived.Test.YtiebelmglchbdaaAj
import Derived.Test.YtiebelmglchbdaaVm
import Derived.Test.YtiebelmglchbdaaIb
namespace Go.Proofs.Ytiebelmglchbdaa
set_option linter.unusedVariables false
set_option linter.unusedSimpArgs false
open Go Go.RowKit

/-- Facts of a world, one behind the other. -/
def GS : List (World → Prop) → World → Prop
  | [], _ => True
  | F :: r, w => F w ∧ GS r w
/-- It lasts while nothing that was there is touched. -/
class Lasts (F : World → Prop) : Prop where
  lasts : ∀ w w', F w → Below w.heap.size w w' → F w'
class LastsL (G : List (World → Prop)) : Prop where
  all : ∀ w w', GS G w → Below w.heap.size w w' → GS G w'
instance : LastsL [] := ⟨fun _ _ _ _ => trivial⟩
instance {F : World → Prop} {G : List (World → Prop)} [h1 : Lasts F] [h2 : LastsL G] : LastsL (F :: G) := ⟨fun w w' h hb => ⟨h1.lasts w w' h.1 hb, h2.all w w' h.2 hb⟩⟩
instance {l : List UInt8} {v : Value} : Lasts (BF l v) := ⟨fun w w' h hb => BF.sb _ _ _ h hb⟩
instance {B : Nat} {h : Hep} {l : List UInt8} {v : Value} : Lasts (OF B h l v) := ⟨fun w w' h hb => OF.sb _ _ _ h hb⟩
/-- A list, picked: 1 stays, 0 goes; what is behind stays. -/
class KM {α : Type} (m : List Nat) (l : List α) (r : outParam (List α)) : Prop where
  sub : r.Sublist l
instance {α : Type} {l : List α} : KM [] l l := ⟨List.Sublist.refl _⟩
instance {α : Type} {m : List Nat} {x : α} {l r : List α} [h : KM m l r] : KM (1 :: m) (x :: l) (x :: r) := ⟨h.sub.cons_cons x⟩
instance {α : Type} {m : List Nat} {x : α} {l r : List α} [h : KM m l r] : KM (0 :: m) (x :: l) r := ⟨h.sub.cons x⟩
/-- One of a list told otherwise: its place is where the 1 is. -/
class SM {α : Type} (m : List Nat) (x : α) (y : outParam α) (l : List α) (r : outParam (List α)) : Prop where
  at_ : ∃ k, l[k]? = some y ∧ r = l.set k x
instance {α : Type} {x y : α} {l : List α} : SM [1] x y (y :: l) (x :: l) := ⟨0, rfl, rfl⟩
instance {α : Type} {m : List Nat} {x y z : α} {l r : List α} [h : SM m x y l r] : SM (0 :: m) x y (z :: l) (z :: r) := ⟨by
  obtain ⟨k, h1, h2⟩ := h.at_
  exact ⟨k + 1, h1, by rw [h2]; rfl⟩⟩
theorem GS.keep {l r : List (World → Prop)} (h : r.Sublist l) {w : World} (g : GS l w) : GS r w := by
  induction h with
  | slnil => exact g
  | cons x _ ih => exact ih g.2
  | cons_cons x _ ih => exact ⟨g.1, ih g.2⟩

theorem gs0 {w : World} : GS [] w := trivial
theorem gsC {F : World → Prop} {G : List (World → Prop)} {w : World} (h : F w) (g : GS G w) : GS (F :: G) w := ⟨h, g⟩

/-! What is plain. -/
def lk : Env → Nat → Option Value
  | [], _ => none
  | (k', v) :: r, k => bif Nat.beq k' k then some v else lk r k
theorem lk_mem {e : Env} {k : Nat} {v : Value} (h : lk e k = some v) : (k, v) ∈ e := by
  induction e with
  | nil => cases h
  | cons p r ih =>
    obtain ⟨k', v'⟩ := p
    unfold lk at h
    cases hb : Nat.beq k' k with
    | true =>
      rw [hb] at h
      have hk := Nat.eq_of_beq_eq_true hb
      injection h with h
      subst h
      subst hk
      exact List.mem_cons_self
    | false =>
      rw [hb] at h
      exact List.mem_cons_of_mem _ (ih h)
def ev1 (e : Env) : Operand → Option Value
  | .tmp k => lk e k
  | .const v => some v
  | .global g => some (.pointer (some ⟨g, 0, none⟩))
  | .func f => some (.func (.func f) #[] #[])
/-- What an operation comes to that but hands on what it is given. -/
def simV (e : Env) : Op → Option Value
  | .move x => ev1 e x
  | .assign x => ev1 e x
  | .pick c x y => match ev1 e c with
    | some (.bool true) => ev1 e x
    | some (.bool false) => ev1 e y
    | _ => none
  | .extract x k => match ev1 e x with
    | some (.tuple vs) => vs[k]?
    | _ => none
  | .unOp .not _ x => match ev1 e x with
    | some (.bool b) => some (.bool (!b))
    | _ => none
  | _ => none
/-- Is it wanted? -/
def wantS (ops : Array Oper) (e : Env) (o : Oper) : Option Bool := match o.guard with
  | none => some true
  | some (j, b) => match ops[j]? with
    | some oj => match oj.dst with
      | some d => match lk e d with
        | some (.bool c) => some (c == b)
        | some (.tuple _) => some false
        | _ => none
      | none => none
    | none => none
/-- The slot that it sets, if that is new. -/
def dstS (n : Nat) (e : Env) (o : Oper) : Option Nat := match o.dst with
  | some d => bif Nat.blt d n && e.all (fun p => !Nat.beq p.1 d) then some d else none
  | none => none
def sim1 (n : Nat) (ops : Array Oper) (e : Env) (o : Oper) : Option (Nat × Value) := match dstS n e o with
  | some d => match wantS ops e o with
    | some true => match simV e o.op with
      | some v => some (d, v)
      | none => none
    | some false => some (d, undef)
    | none => none
  | none => none
def simN (n : Nat) (ops : Array Oper) : Nat → Env → List Oper → Option (Env × List Oper)
  | 0, e, l => some (e, l)
  | k + 1, e, o :: l => match sim1 n ops e o with
    | some (d, v) => simN n ops k ((d, v) :: e) l
    | none => none
  | _ + 1, _, [] => none
/-- The slot of one that is wanted. -/
def chk (n : Nat) (ops : Array Oper) (e : Env) (o : Oper) : Option Nat := match wantS ops e o with
  | some true => dstS n e o
  | _ => none
section
variable {P : Program} {n : Nat} {w0 w w' : World} {a : Act} {e e' : Env} {h h' : Hep} {G G' : List (World → Prop)} {Q : Exit → Act → World → Prop} {ops : Array Oper} {rest l : List Oper} {o : Oper}
theorem ev1_of (H : St n w0 a w e h) {x : Operand} {v : Value} (hv : ev1 e x = some v) : a.eval x = v := by
  cases x with
  | tmp k =>
    have := H.env _ (lk_mem hv)
    simp [Act.eval, this]
  | const u => exact Option.some.inj hv
  | global g => exact Option.some.inj hv
  | func f => exact Option.some.inj hv
theorem wantS_of (H : St n w0 a w e h) {b : Bool} (hw : wantS ops e o = some b) : Region.wanted o (yielded ops a.tmps) = b := by
  unfold wantS at hw
  split at hw
  · rename_i hg
    simp only [Region.wanted, hg]
    exact Option.some.inj hw
  · rename_i j c hg
    split at hw
    · rename_i oj hj
      split at hw
      · rename_i d hd
        split at hw
        · rename_i c2 hl
          have := H.env _ (lk_mem hl)
          simp [Region.wanted, hg, yielded, hj, hd, this]
          exact Option.some.inj hw
        · rename_i t hl
          have := H.env _ (lk_mem hl)
          simp [Region.wanted, hg, yielded, hj, hd, this]
          exact (Option.some.inj hw).symm
        · cases hw
      · cases hw
    · cases hw
theorem dstS_of {d : Nat} (hd : dstS n e o = some d) : o.dst = some d ∧ Nat.blt d n = true ∧ e.all (fun p => !Nat.beq p.1 d) = true := by
  unfold dstS at hd
  split at hd
  · rename_i d' h1
    cases hb : Nat.blt d' n && e.all (fun p => !Nat.beq p.1 d') with
    | true =>
      rw [hb] at hd
      injection hd with hd
      subst hd
      rw [Bool.and_eq_true] at hb
      exact ⟨h1, hb.1, hb.2⟩
    | false => rw [hb] at hd; cases hd
  · cases hd
theorem simV_of (H : St n w0 a w e h) {v : Value} (hv : simV e o.op = some v) : (execOp a.eval o).run P w = .ok (.value v) w := by
  unfold execOp
  unfold simV at hv
  split at hv
  · rename_i x ho
    simp only [ho, ev1_of H hv, Sem.run_pure]
  · rename_i x ho
    simp only [ho, ev1_of H hv, Sem.run_pure]
  · rename_i c x y ho
    split at hv
    · rename_i hc
      simp [ho, ev1_of H hc, ev1_of H hv, asBool]
    · rename_i hc
      simp [ho, ev1_of H hc, ev1_of H hv, asBool]
    · cases hv
  · rename_i x k ho
    split at hv
    · rename_i vs hx
      simp [ho, ev1_of H hx, Instr.extract, hv, Result.andThen]
    · cases hv
  · rename_i t x ho
    split at hv
    · rename_i b hx
      injection hv with hv
      subst hv
      simp [ho, ev1_of H hx, Op.unary, Result.andThen]
    · cases hv
  · cases hv
/-! The judgement. -/
def Rn (P : Program) (n : Nat) (w0 : World) (Q : Exit → Act → World → Prop) (ops : Array Oper) (l : List Oper) (e : Env) (h : Hep) (G : List (World → Prop)) : Prop := ∀ a w, St n w0 a w e h → GS G w → wpList P ops Q l a w
theorem rgO (H : St n w0 a w e h) (g : GS G w) (r : Rn P n w0 Q ops l e h G) : wpList P ops Q l a w := r a w H g
theorem rgP {id : Nat} (H : St n w0 a w e h) (g : GS G w) (r : Rn P n w0 Q l.toArray l e h G) : (Code.region id l.toArray false).wp P Q a w := rg_plain (r a w H g)
theorem rZ (next : ∀ a w, St n w0 a w e h → GS G w → Q .normal a w) : Rn P n w0 Q ops [] e h G := fun a w H g => pl_end (next a w H g)
theorem rI (next : ∀ a w, St n w0 a w e h → GS G w → wpList P ops Q l a w) : Rn P n w0 Q ops l e h G := next
theorem rZ0 (next : ∀ a w, St n w0 a w e h → Q .normal a w) : Rn P n w0 Q ops [] e h G := fun a w H _ => pl_end (next a w H)
theorem rI0 (next : ∀ a w, St n w0 a w e h → wpList P ops Q l a w) : Rn P n w0 Q ops l e h G := fun a w H _ => next a w H
theorem rK (me mh mg : List Nat) [he : KM me e e'] [hh : KM mh h h'] [hg : KM mg G G'] (next : Rn P n w0 Q ops l e' h' G') : Rn P n w0 Q ops l e h G := fun a w H g =>
  next a w (H.sub (fun _ hp => he.sub.mem hp) (fun _ hp => hh.sub.mem hp) (H.apart.sublist hh.sub)) (GS.keep hg.sub g)
theorem St.km (H : St n w0 a w e h) (me mh : List Nat) [he : KM me e e'] [hh : KM mh h h'] : St n w0 a w e' h' := H.sub (fun _ hp => he.sub.mem hp) (fun _ hp => hh.sub.mem hp) (H.apart.sublist hh.sub)
theorem step_of {K : Act → World → Prop} {F : Value → World → Prop} {d : Nat} (hdst : dstS n e o = some d) (H : St n w0 a w e h) (g : GS G w) [hL : LastsL G] (hw : o.wp P a w (fun a' w' => ∃ v, a' = a.put o.dst v ∧ Below w.heap.size w w' ∧ F v w') Q) (hK : ∀ v a' w', F v w' → St n w0 a' w' ((d, v) :: e) h → GS G w' → K a' w') : o.wp P a w K Q :=
  Oper.wp_mono (fun a' w' hx => by
    obtain ⟨v, rfl, hb, hF⟩ := hx
    obtain ⟨h1, h2, h3⟩ := dstS_of hdst
    refine hK v _ _ hF ?_ (hL.all _ _ g hb)
    rw [h1]
    exact (H.call hb).put v h2 h3) hw
theorem chk_of {d : Nat} (hk : chk n ops e o = some d) : wantS ops e o = some true ∧ dstS n e o = some d := by
  unfold chk at hk
  split at hk
  · rename_i hw
    exact ⟨hw, hk⟩
  · cases hk
/-- One operation whose answer is told by what holds of it. -/
theorem rO {F : Value → World → Prop} {d : Nat} (hk : chk n ops e o = some d) (hob : ∀ a w, St n w0 a w e h → GS G w → ObS P ops Q o a w F) [hL : LastsL G] (next : ∀ v, Rn P n w0 Q ops rest ((d, v) :: e) h (F v :: G)) : Rn P n w0 Q ops (o :: rest) e h G := fun a w H g =>
  wpList_step fun K hK => by
    obtain ⟨h1, h2⟩ := chk_of hk
    rw [wantS_of H h1, if_pos rfl]
    exact step_of h2 H g (hob a w H g).2 fun v a' w' hF H2 g2 => hK _ _ (next v a' w' H2 ⟨hF, g2⟩)
/-- .. whose answer is known. -/
theorem rOV {V : Value} {d : Nat} (hk : chk n ops e o = some d) (hob : ∀ a w, St n w0 a w e h → GS G w → ObS P ops Q o a w (fun v _ => v = V)) [hL : LastsL G] (next : Rn P n w0 Q ops rest ((d, V) :: e) h G) : Rn P n w0 Q ops (o :: rest) e h G := fun a w H g =>
  wpList_step fun K hK => by
    obtain ⟨h1, h2⟩ := chk_of hk
    rw [wantS_of H h1, if_pos rfl]
    exact step_of h2 H g (hob a w H g).2 fun v a' w' hF H2 g2 => hK _ _ (next a' w' (hF ▸ H2) g2)
theorem rV {V : Value} {d : Nat} (hk : chk n ops e o = some d) (hd : Does P Q n w0 e h o V) [hL : LastsL G] (next : Rn P n w0 Q ops rest ((d, V) :: e) h G) : Rn P n w0 Q ops (o :: rest) e h G := fun a w H g =>
  wpList_step fun K hK => by
    obtain ⟨h1, h2⟩ := chk_of hk
    rw [wantS_of H h1, if_pos rfl]
    exact step_of (F := fun v _ => v = V) h2 H g (Oper.wp_mono (fun a' w' hx => ⟨V, hx.1, hx.2, rfl⟩) (hd a w H)) fun v a' w' hF H2 g2 => hK _ _ (next a' w' (hF ▸ H2) g2)
/-- A call whose answer is told by what holds of it; whose answer is known. -/
theorem rC {F : Value → World → Prop} {d : Nat} {f : FuncId} {args : List Operand} {tys : Array TypeId} {vs : List Value} (hk : chk n ops e o = some d) (ho : o.op = .call { callee := .value (.func f), args := args.toArray, argTypes := tys }) (hf : Ours P f) (hx : sevs e args = some vs)
    (hc : ∀ a w, St n w0 a w e h → GS G w → Calls P f vs.toArray w (fun r W' => ∃ v, r = .returned v ∧ Below w.heap.size w W' ∧ F v W')) [hL : LastsL G] (next : ∀ v, Rn P n w0 Q ops rest ((d, v) :: e) h (F v :: G)) : Rn P n w0 Q ops (o :: rest) e h G :=
  rO hk (fun a w H g => ob_callS H (fun a w H => wantS_of H (chk_of hk).1) ho hf hx (hc a w H g)) next
theorem rCV {V : Value} {d : Nat} {f : FuncId} {args : List Operand} {tys : Array TypeId} {vs : List Value} (hk : chk n ops e o = some d) (ho : o.op = .call { callee := .value (.func f), args := args.toArray, argTypes := tys }) (hf : Ours P f) (hx : sevs e args = some vs)
    (hc : ∀ a w, St n w0 a w e h → GS G w → Calls P f vs.toArray w (fun r W' => r = .returned V ∧ Below w.heap.size w W')) [hL : LastsL G] (next : Rn P n w0 Q ops rest ((d, V) :: e) h G) : Rn P n w0 Q ops (o :: rest) e h G :=
  rOV hk (fun a w H g => ob_calS H (fun a w H => wantS_of H (chk_of hk).1) ho hf hx (hc a w H g)) next
/-- Several that are plain. -/
theorem rS : ∀ (k : Nat) {e e' : Env} {l l' : List Oper}, simN n ops k e l = some (e', l') → Rn P n w0 Q ops l' e' h G → Rn P n w0 Q ops l e h G
  | 0, e, e', l, l', hs, next => by
    injection hs with hs
    injection hs with h1 h2
    subst h1 h2
    exact next
  | k + 1, e, e', [], l', hs, next => by cases hs
  | k + 1, e, e', o :: l, l', hs, next => fun a w H g => wpList_step fun K hK => by
    unfold simN at hs
    cases h1 : sim1 n ops e o with
    | none => rw [h1] at hs; cases hs
    | some p =>
      obtain ⟨d, v⟩ := p
      rw [h1] at hs
      unfold sim1 at h1
      cases h2 : dstS n e o with
      | none => rw [h2] at h1; cases h1
      | some d' =>
        rw [h2] at h1
        obtain ⟨q1, q2, q3⟩ := dstS_of h2
        cases h3 : wantS ops e o with
        | none => rw [h3] at h1; cases h1
        | some b =>
          rw [h3] at h1
          rw [wantS_of H h3]
          cases b with
          | false =>
            injection h1 with h1
            injection h1 with h4 h5
            subst h4 h5
            rw [if_neg (by simp)]
            refine hK _ _ (rS k hs next _ _ ?_ g)
            rw [q1]
            exact H.put _ q2 q3
          | true =>
            cases h6 : simV e o.op with
            | none => simp only [h6] at h1; cases h1
            | some v' =>
              simp only [h6] at h1
              injection h1 with h1
              injection h1 with h4 h5
              subst h4 h5
              rw [if_pos rfl]
              unfold Oper.wp
              rw [simV_of H h6]
              refine hK _ _ (rS k hs next _ _ ?_ g)
              rw [q1]
              exact H.put _ q2 q3
/-- New variables. -/
theorem rA {d : Nat} {t : TypeId} {z : Array Value} (hk : chk n ops e o = some d) (ho : o.op = .alloc t) (hz : ∀ W, (Instr.alloc t true (.tuple #[])).run P W = .ok (.pointer (some ⟨W.heap.size, 0, none⟩)) (W.alloc (.cells z t))) [hL : LastsL G]
    (next : ∀ g : Nat, Rn P n w0 Q ops rest ((d, .pointer (some ⟨g, 0, none⟩)) :: e) ((g, .ty t, z) :: h) G) : Rn P n w0 Q ops (o :: rest) e h G := fun a w H g =>
  wpList_step fun K hK => by
    obtain ⟨h1, h2⟩ := chk_of hk
    obtain ⟨q1, q2, q3⟩ := dstS_of h2
    rw [wantS_of H h1, if_pos rfl]
    unfold Oper.wp
    rw [news_of ho hz a w]
    refine hK _ _ (next w.heap.size _ _ ?_ (hL.all _ _ g ((Below.refl _ _).alloc (Nat.le_refl _) _)))
    rw [q1]
    exact (H.alloc z t).put _ q2 q3
theorem rB {d : Nat} {t : TypeId} {x : Operand} {v : Value} {z : Array Value} (hk : chk n ops e o = some d) (ho : o.op = .box t x) (hx : ev1 e x = some v) (hr : ∀ W, (Instr.box t v).run P W = .ok (.pointer (some ⟨W.heap.size, 0, none⟩)) (W.alloc (.cells z t))) [hL : LastsL G]
    (next : ∀ g : Nat, Rn P n w0 Q ops rest ((d, .pointer (some ⟨g, 0, none⟩)) :: e) ((g, .ty t, z) :: h) G) : Rn P n w0 Q ops (o :: rest) e h G := fun a w H g =>
  wpList_step fun K hK => by
    obtain ⟨h1, h2⟩ := chk_of hk
    obtain ⟨q1, q2, q3⟩ := dstS_of h2
    rw [wantS_of H h1, if_pos rfl]
    unfold Oper.wp execOp
    simp only [ho, ev1_of H hx, Sem.run_bind, hr, Result.andThen_ok, Sem.run_pure]
    refine hK _ _ (next w.heap.size _ _ ?_ (hL.all _ _ g ((Below.refl _ _).alloc (Nat.le_refl _) _)))
    rw [q1]
    exact (H.alloc z t).put _ q2 q3
/-- What makes one block. -/
theorem rM {d : Nat} {F : Nat → Value} {t : TypeId} {z : Array Value} (hk : chk n ops e o = some d) (hm : ∀ a w, St n w0 a w e h → (execOp a.eval o).run P w = .ok (.value (F w.heap.size)) (w.alloc (.cells z t))) [hL : LastsL G]
    (next : ∀ g : Nat, Rn P n w0 Q ops rest ((d, F g) :: e) ((g, .ty t, z) :: h) G) : Rn P n w0 Q ops (o :: rest) e h G := fun a w H g =>
  wpList_step fun K hK => by
    obtain ⟨h1, h2⟩ := chk_of hk
    obtain ⟨q1, q2, q3⟩ := dstS_of h2
    rw [wantS_of H h1, if_pos rfl]
    unfold Oper.wp
    rw [hm a w H]
    refine hK _ _ (next w.heap.size _ _ ?_ (hL.all _ _ g ((Below.refl _ _).alloc (Nat.le_refl _) _)))
    rw [q1]
    exact (H.alloc z t).put _ q2 q3
/-- A store of a whole block; of a part of one. What was a fact is none any more. -/
theorem rW (m : List Nat) {t : TypeId} {x y : Operand} {g : Nat} {t' : TypeId} {cs c : Array Value} (hn : o.guard = none ∧ o.dst = none) (ho : o.op = .store t x y) (hx : ev1 e x = some (.pointer (some ⟨g, 0, none⟩))) (hy : ev1 e y = some (.agg c)) [hm : SM m (g, .ty t', c) (g, .ty t', cs) h h']
    (hi : (P.info? t).map (·.size) = some c.size) (hs : cs.size = c.size) (h1 : c.all (·.oneCell') = true) (next : Rn P n w0 Q ops rest e h' []) : Rn P n w0 Q ops (o :: rest) e h G := fun a w H _ => by
  obtain ⟨k, hk, rfl⟩ := hm.at_
  exact wpList_plain hn.1 fun K hK => wp_store_row t x y ho g c (ev1_of H hx) (ev1_of H hy) t' cs (H.heap _ (List.mem_iff_getElem?.2 ⟨k, hk⟩)) hi hs h1 (hK _ _ (next _ _ (by
    rw [hn.2]
    exact H.setRow hk c) trivial))
theorem rX (m : List Nat) {t : TypeId} {x y : Operand} {g f : Nat} {t' : Tid} {cs c : Array Value} {v : Value} {vs : List Value} (hn : o.guard = none ∧ o.dst = none) (ho : o.op = .store t x y) (hx : ev1 e x = some (.pointer (some ⟨g, f, none⟩))) (hy : ev1 e y = some v)
    (hr : ∀ W, Blk W g t' cs → (Instr.storeAt t (.pointer (some ⟨g, f, none⟩)) v).run P W = .ok () (W.setCells g f vs)) (hc : setV cs f vs = c) [hm : SM m (g, t', c) (g, t', cs) h h'] (next : Rn P n w0 Q ops rest e h' []) : Rn P n w0 Q ops (o :: rest) e h G := fun a w H _ => by
  obtain ⟨k, hk, rfl⟩ := hm.at_
  refine wpList_plain hn.1 fun K hK => ?_
  unfold Oper.wp execOp
  simp only [ho, ev1_of H hx, ev1_of H hy, Sem.run_bind, hr w (H.heap _ (List.mem_iff_getElem?.2 ⟨k, hk⟩)), Result.andThen_ok, Sem.run_pure]
  refine hK _ _ (next _ _ ?_ trivial)
  rw [hn.2]
  exact H.setCells hk f vs hc
end
end Go.Proofs.Ytiebelmglchbdaa
