/- Rows of the call's own, told behind the known blocks (free of any layer). -/
import Derived.Test.YtiebelmglchbdaaIb
import Derived.Maps.AppendAt
import Derived.Laws.OwnMore
namespace Go.Proofs.Ytiebelmglchbdaa
set_option linter.unusedVariables false
set_option linter.unusedSimpArgs false
set_option maxRecDepth 100000
open Go Go.RowKit

/-! A row of the call's own that is told as the last of the known blocks: none yet, or one. -/
def OutD (E : TypeId) (sz : Nat) (t : Hep) (v : Value) (k : Nat) (xs : List Value) : Prop :=
  (t = [] ∧ v = .slice none 0 0 ∧ k = 0 ∧ xs = []) ∨ ∃ g cap cur, t = [(g, .ty E, cur)] ∧ v = .slice (some ⟨g, 0, none⟩) k cap ∧ k ≤ cap ∧ cap ≤ maxLen ∧ cur.size = cap * sz ∧ cur.toList.take (k * sz) = xs
theorem OutD.nil (E : TypeId) (sz : Nat) : OutD E sz [] (.slice none 0 0) 0 [] := .inl ⟨rfl, rfl, rfl, rfl⟩
theorem OutD.form {E : TypeId} {sz k : Nat} {t : Hep} {v : Value} {xs : List Value} (h : OutD E sz t v k xs) : ∃ A c, v = .slice A k c ∧ k ≤ c := by
  rcases h with ⟨_, rfl, rfl, _⟩ | ⟨g, cap, cur, _, rfl, h, _⟩
  · exact ⟨none, 0, rfl, Nat.le_refl _⟩
  · exact ⟨_, cap, rfl, h⟩
theorem OutD.told {E : TypeId} {sz k : Nat} {t : Hep} {v : Value} {xs : List Value} (h : OutD E sz t v k xs) : ∀ g, v.ownBlock = some g → ∃ p ∈ t, p.1 = g := by
  rcases h with ⟨_, rfl, _, _⟩ | ⟨g, cap, cur, rfl, rfl, _⟩
  · intro g hg; cases hg
  · intro g' hg
    injection hg with hg
    exact ⟨_, List.mem_singleton.2 rfl, hg⟩
/-- A slice of a block, of which one row is the list's. -/
theorem OutD.at_ {E : TypeId} {sz k : Nat} {t : Hep} {A : Option Addr} {c k' : Nat} {xs : List Value} (h : OutD E sz t (.slice A k' c) k xs) (h0 : 0 < k) : ∃ (g : Nat) (cur : Array Value), t = [(g, .ty E, cur)] ∧ A = some ⟨g, 0, none⟩ ∧ ∀ (j : Nat) (u : Value), xs[j]? = some u → cur[j]? = some u := by
  rcases h with ⟨_, _, rfl, _⟩ | ⟨g, cap, cur, rfl, e, _, _, _, h4⟩
  · omega
  · injection e with e1 _ _
    refine ⟨g, cur, rfl, e1, fun j u hu => ?_⟩
    rw [← h4, List.getElem?_take] at hu
    split at hu
    · rw [← Array.getElem?_toList]
      exact hu
    · cases hu
section
variable {P : Program} {n : Nat} {w0 w w' : World} {a : Act} {e : Env} {h t t2 : Hep} {Q : Exit → Act → World → Prop} {ops : Array Oper} {rest : List Oper} {o : Oper} {E : TypeId} {sz k : Nat} {v : Value} {xs : List Value}
theorem OutD.owns (hv : OutD E sz t v k xs) (H : St n w0 a w e (h ++ t)) : w.ownsRow w0.heap.size E sz v k xs := by
  rcases hv with ⟨rfl, rfl, rfl, rfl⟩ | ⟨g, cap, cur, rfl, rfl, h1, h2, h3, h4⟩
  · exact World.ownsRow_nil _ _ _ _
  · have hb : Blk w g E cur := H.heap (g, .ty E, cur) (by simp)
    have ho : w0.heap.size ≤ g := H.own (g, .ty E, cur) (by simp)
    refine ⟨?_, .inr ⟨g, cap, cur, rfl, ho, hb, h1, h2, h3, h4⟩⟩
    have hle : k * sz ≤ cap * sz := Nat.mul_le_mul_right _ h1
    rw [← h4, List.length_take, Array.length_toList, h3, Nat.min_eq_left hle]
theorem St.appD (H : St n w0 a w e (h ++ t)) (hv : OutD E sz t v k xs) {v' : Value} {k' : Nat} {xs' : List Value} (ho : w'.ownsRow w0.heap.size E sz v' k' xs') (hg : w.grownBy w' v.ownBlock) (hb : v'.ownBlock = v.ownBlock ∨ v'.ownBlock = some w.heap.size) (hk : 0 < k') :
    ∃ t', OutD E sz t' v' k' xs' ∧ St n w0 a w' e (h ++ t') ∧ ∀ p ∈ t', (∃ q ∈ t, q.1 = p.1) ∨ p.1 = w.heap.size := by
  have hap := List.pairwise_append.1 H.apart
  have hown : ∀ g, v.ownBlock = some g → w0.heap.size ≤ g ∧ ∀ p ∈ h, p.1 ≠ g := fun g hg' => by
    rcases hv with ⟨rfl, rfl, _, _⟩ | ⟨g2, cap, cur, rfl, rfl, _⟩
    · cases hg'
    · injection hg' with hg'
      subst hg'
      exact ⟨H.own (g2, E, cur) (by simp), fun p hp => hap.2.2 p hp (g2, E, cur) (by simp)⟩
  rcases ho.2 with ⟨_, h0⟩ | ⟨g, cap, cur, rfl, hB, hcur, h1, h2, h3, h4⟩
  · omega
  · refine ⟨[(g, .ty E, cur)], .inr ⟨g, cap, cur, rfl, rfl, h1, h2, h3, h4⟩, ?_, fun p hp => ?_⟩
    · have hfar : ∀ p ∈ h, p.1 ≠ g := fun p hp => by
        rcases hb with hb | hb
        · exact (hown g hb.symm).2 p hp
        · injection hb with hb
          have hb : g = w.heap.size := hb
          rw [hb]
          exact Nat.ne_of_lt (H.heap p (List.mem_append.2 (.inl hp))).lt
      have hold : ∀ p ∈ h, Blk w' p.1 p.2.1 p.2.2 := fun p hp => by
        have hbl := H.heap p (List.mem_append.2 (.inl hp))
        exact hbl.as (hg.block p.1 hbl.lt (fun e1 => (hown p.1 e1.symm).2 p hp rfl))
      refine ⟨H.size, H.defers, H.env, H.below.grown hg H.below.size (fun g' hg' => (hown g' hg').1), fun p hp => ?_, fun p hp => ?_, List.pairwise_append.2 ⟨hap.1, List.pairwise_singleton _ _, fun p hp q hq => ?_⟩⟩
      · rcases List.mem_append.1 hp with hp | hp
        · exact hold p hp
        · rw [List.mem_singleton.1 hp]
          exact hcur
      · rcases List.mem_append.1 hp with hp | hp
        · exact H.own p (List.mem_append.2 (.inl hp))
        · rw [List.mem_singleton.1 hp]
          exact hB
      · rw [List.mem_singleton.1 hq]
        exact hfar p hp
    · rw [List.mem_singleton.1 hp]
      rcases hb with hb | hb
      · exact .inl (hv.told g hb.symm)
      · injection hb with hb
        exact .inr hb
/-- What a call answers that is its own is told from now on. -/
theorem own_told {B : Nat} (H : St n w0 a w e h) (hb : Below w.heap.size w w') (hv : w'.ownsRow w.heap.size E sz v k xs) : ∃ t, OutD E sz t v k xs ∧ St n w0 a w' e (h ++ t) := by
  have H' := H.call hb
  rcases hv.2 with ⟨rfl, h0⟩ | ⟨g, cap, cur, rfl, hB, hcur, h1, h2, h3, h4⟩
  · have hx := hv.1
    subst h0
    rw [Nat.zero_mul] at hx
    exact ⟨[], .inl ⟨rfl, rfl, rfl, List.eq_nil_of_length_eq_zero hx⟩, by rw [List.append_nil]; exact H'⟩
  · refine ⟨[(g, .ty E, cur)], .inr ⟨g, cap, cur, rfl, rfl, h1, h2, h3, h4⟩, H'.size, H'.defers, H'.env, H'.below, fun p hp => ?_, fun p hp => ?_, List.pairwise_append.2 ⟨H.apart, List.pairwise_singleton _ _, fun p hp q hq => ?_⟩⟩
    · rcases List.mem_append.1 hp with hp | hp
      · exact H'.heap p hp
      · rw [List.mem_singleton.1 hp]
        exact hcur
    · rcases List.mem_append.1 hp with hp | hp
      · exact H'.own p hp
      · rw [List.mem_singleton.1 hp]
        exact Nat.le_trans H.below.size hB
    · rw [List.mem_singleton.1 hq]
      exact Nat.ne_of_lt (Nat.lt_of_lt_of_le (H.heap p hp).lt hB)
theorem pl_callOwn {d : Nat} {f : FuncId} {args : List Operand} {tys : Array TypeId} {vs : List Value} (ho : o.op = .call { callee := .value (.func f), args := args.toArray, argTypes := tys }) (hf : Ours P f) (hx : sevs e args = some vs)
    (hc : Calls P f vs.toArray w (fun rr w' => ∃ v, rr = .returned v ∧ Below w.heap.size w w' ∧ w'.ownsRow w.heap.size E sz v k xs)) (hg : o.guard = none) (hdst : o.dst = some d) (hl : Nat.blt d n = true) (hfr : e.all (fun p => !Nat.beq p.1 d) = true) (H : St n w0 a w e h)
    (next : ∀ v t a w, OutD E sz t v k xs → St n w0 a w ((d, v) :: e) (h ++ t) → wpList P ops Q rest a w) : wpList P ops Q (o :: rest) a w :=
  wpList_plain hg fun K hK => by
    unfold Oper.wp
    rw [run_call ho hf rfl, H.evs hx, Oper.upon_enter]
    refine hc.mono ?_
    rintro r W' ⟨v, rfl, hb, hown⟩
    obtain ⟨t, ht, H'⟩ := own_told (B := 0) H hb hown
    refine hK _ _ (next v t _ _ ht ?_)
    rw [hdst]
    exact H'.put v hl hfr
end
/-- New rows of a call. -/
structure NR (B : Nat) (t : Hep) (w : World) : Prop where
  heap : ∀ p ∈ t, Blk w p.1 p.2.1 p.2.2
  own : ∀ p ∈ t, B ≤ p.1
  apart : t.Pairwise (fun p q => p.1 ≠ q.1)
theorem NR.nil (B : Nat) (w : World) : NR B [] w := ⟨fun p hp => (by cases hp), fun p hp => (by cases hp), List.Pairwise.nil⟩
theorem St.perm' {n : Nat} {w0 w : World} {a : Act} {e : Env} {h h' : Hep} (H : St n w0 a w e h) (hp : h.Perm h') : St n w0 a w e h' := H.sub (fun _ h => h) (fun p hx => hp.mem_iff.2 hx) (hp.pairwise H.apart (fun h1 h2 => h1 h2.symm))
theorem St.nr {n : Nat} {w0 w : World} {a : Act} {e : Env} {h t : Hep} (H : St n w0 a w e (h ++ t)) : NR w0.heap.size t w := ⟨fun p hp => H.heap p (List.mem_append.2 (.inr hp)), fun p hp => H.own p (List.mem_append.2 (.inr hp)), (List.pairwise_append.1 H.apart).2.1⟩
/-- .. are told from now on. -/
theorem St.news {n : Nat} {w0 w w' : World} {a : Act} {e : Env} {h t : Hep} (H : St n w0 a w e h) (hb : Below w.heap.size w w') (hn : NR w.heap.size t w') : St n w0 a w' e (h ++ t) := by
  have H' := H.call hb
  refine ⟨H'.size, H'.defers, H'.env, H'.below, fun p hp => ?_, fun p hp => ?_, List.pairwise_append.2 ⟨H.apart, hn.apart, fun p hp q hq => Nat.ne_of_lt (Nat.lt_of_lt_of_le (H.heap p hp).lt (hn.own q hq))⟩⟩
  · rcases List.mem_append.1 hp with hp | hp
    · exact H'.heap p hp
    · exact hn.heap p hp
  · rcases List.mem_append.1 hp with hp | hp
    · exact H'.own p hp
    · exact Nat.le_trans H.below.size (hn.own p hp)
theorem OutD.put {E : TypeId} {k g j : Nat} {cur : Array Value} {v u : Value} {xs : List Value} (hv : OutD E 1 [(g, .ty E, cur)] v k xs) : OutD E 1 [(g, .ty E, setV cur j [u])] v k (xs.set j u) := by
  rcases hv with ⟨h, _⟩ | ⟨g', cap, cur', h, rfl, h1, h2, h3, h4⟩
  · cases h
  · injection h with h _
    injection h with e1 h
    injection h with _ e2
    subst e1 e2
    refine .inr ⟨g, cap, _, rfl, rfl, h1, h2, ?_, ?_⟩
    · show (cur.setIfInBounds j u).size = _
      rw [Array.size_setIfInBounds]
      exact h3
    · show ((cur.setIfInBounds j u).toList).take (k * 1) = _
      rw [Array.toList_setIfInBounds, List.take_set, h4]
theorem OutD.len {E : TypeId} {k : Nat} {t : Hep} {v : Value} {xs : List Value} (hv : OutD E 1 t v k xs) : xs.length = k := by
  rcases hv with ⟨_, _, rfl, rfl⟩ | ⟨g', cap, cur', h, rfl, h1, h2, h3, h4⟩
  · rfl
  · rw [← h4, List.length_take, Array.length_toList]
    omega
theorem st_u8c {g j : Nat} {cur : Array Value} {x y : UInt8} (hj : cur[j]? = some (bv x)) (W : World) (h : Blk W g 5 cur) : (Instr.storeAt 5 (.pointer (some ⟨g, j, none⟩)) (bv y)).run Try.prog W = .ok () (W.setCells g j [bv y]) := by
  have hc : W.cell? ⟨g, j, none⟩ = some (bv x) := (h.cell j).trans hj
  have hf := h.frozen j
  have hs : (W.cell? ⟨g, j, none⟩).isSome = true := by rw [hc]; rfl
  show _ = Result.ok () (W.setCell ⟨g, j, none⟩ (bv y))
  unfold bv
  go_simp
theorem ld_u8c {g j : Nat} {cur : Array Value} {x : UInt8} (hj : cur[j]? = some (bv x)) (W : World) (h : Blk W g 5 cur) : (Instr.loadAt 5 (.pointer (some ⟨g, j, none⟩))).run Try.prog W = .ok (bv x) W := by
  have hc : W.cell? ⟨g, j, none⟩ = some (.int .u8 (x.toNat : Int)) := (h.cell j).trans hj
  unfold bv
  go_simp
theorem inc_u8 (x : UInt8) (p q : Operand) (W : World) : (do eqGuard .add 5 p q (bv x) (.int .u8 1); binOp .add 5 (bv x) (.int .u8 1) : Sem Value).run Try.prog W = .ok (bv (x + 1)) W := by
  have e : IntKind.u8.wrap ((x.toNat : Int) + 1) = ((x + 1).toNat : Int) := by
    rw [IntKind.wrap_u8', UInt8.toNat_add]
    show _ = (((x.toNat + 1) % 256 : Nat) : Int)
    omega
  unfold bv
  go_simp
section
variable {n : Nat} {w0 w w' : World} {a : Act} {e : Env} {h t t2 : Hep} {Q : Exit → Act → World → Prop} {ops : Array Oper} {rest : List Oper} {o : Oper}
theorem OutD.bf {v : Value} {l : List UInt8} (hv : OutD 5 1 t v l.length (l.map bv)) (H : St n w0 a w e h) (ht : ∀ p ∈ t, p ∈ h) : BF l v w := by
  rcases hv with ⟨rfl, rfl, h0, _⟩ | ⟨g, cap, cur, rfl, rfl, h1, h2, h3, h4⟩
  · obtain rfl : l = [] := List.eq_nil_of_length_eq_zero h0
    exact BF.nil _
  · have hb : Blk w g 5 cur := H.heap _ (ht _ (List.mem_singleton.2 rfl))
    exact ⟨_, _, _, rfl, rfl, h1, (by intro e; cases e), fun _ => ⟨g, 0, rfl, hb.lt, fun j x hx => by
      rw [Nat.zero_add, hb.cell, ← Array.getElem?_toList]
      have hj : (cur.toList.take (l.length * 1))[j]? = some (bv x) := by rw [h4, List.getElem?_map, hx]; rfl
      rw [List.getElem?_take] at hj
      split at hj
      · exact hj
      · cases hj⟩⟩
theorem pl_app0B {d : Nat} {x : Operand} {u : Value} {l : List UInt8} (ho : o.op = .call { callee := .builtin .append, args := #[.const (.slice none 0 0), x], argTypes := #[39, 39] }) (hx : sev e x = some u) (hu : BF l u w) (hs : l.length ≤ 100000) (hg : o.guard = none) (hdst : o.dst = some d) (hl : Nat.blt d n = true) (hf : e.all (fun p => !Nat.beq p.1 d) = true) (H : St n w0 a w e h)
    (next : ∀ A c t a w', OutD 5 1 t (.slice A l.length c) l.length (l.map bv) → St n w0 a w' ((d, .slice A l.length c) :: e) (h ++ t) → wpList Try.prog ops Q rest a w') : wpList Try.prog ops Q (o :: rest) a w :=
  wpList_plain hg fun K hK => by
    obtain ⟨A, k, c, rfl, hr⟩ := hu
    have hk := hr.len
    obtain ⟨v', w', h1, h2, h3, h4⟩ := run_app_own (P := Try.prog) (w := w) 39 o.type 5 Try.underlying39 u8_info w.heap.size (.slice none 0 0) [] (OwnB.nil _ _ _) _ k c A l hr (by simp only [List.length_nil]; omega) (Nat.le_refl _)
    have hown : w'.ownsRow w.heap.size 5 1 v' l.length (l.map bv) := by simpa [OwnB] using h2
    obtain ⟨t, ht, H'⟩ := own_told (B := 0) H (grown_none h3) hown
    obtain ⟨A', c', rfl, _⟩ := ht.form
    have hc : a.eval (.const (.slice none 0 0)) = .slice none 0 0 := rfl
    unfold Oper.wp
    simp [execOp, ho, resolve, invoke, builtin, hc, H.ev hx, h1, Result.andThen]
    refine hK _ _ (next A' c' t _ _ ht ?_)
    rw [hdst]
    exact H'.put _ hl hf
end
/-! Slices of bytes, each with a row of its own. -/
/-- Values that are slices of these bytes, whose rows are told one behind the other. -/
inductive RowsB : List Value → Hep → List (List UInt8) → Prop
  | nil : RowsB [] [] []
  | cons {u : Value} {us : List Value} {t1 t : Hep} {b : List UInt8} {bs : List (List UInt8)} : OutD 5 1 t1 u b.length (b.map bv) → RowsB us t bs → RowsB (u :: us) (t1 ++ t) (b :: bs)
theorem RowsB.len {us : List Value} {t : Hep} {bs : List (List UInt8)} (h : RowsB us t bs) : us.length = bs.length := by
  induction h with
  | nil => rfl
  | cons _ _ ih => simp [ih]
theorem RowsB.snoc {us : List Value} {t t1 : Hep} {bs : List (List UInt8)} {u : Value} {b : List UInt8} (h : RowsB us t bs) (hu : OutD 5 1 t1 u b.length (b.map bv)) : RowsB (us ++ [u]) (t ++ t1) (bs ++ [b]) := by
  induction h with
  | nil =>
    have := RowsB.cons hu .nil
    rwa [List.append_nil] at this
  | cons h1 _ ih =>
    rw [List.append_assoc]
    exact .cons h1 ih
/-- One of them: its row, the others'. -/
theorem RowsB.at_ {us : List Value} {t : Hep} {bs : List (List UInt8)} (h : RowsB us t bs) : ∀ {i : Nat} {b : List UInt8}, bs[i]? = some b → ∃ u t1 t2, us[i]? = some u ∧ OutD 5 1 t1 u b.length (b.map bv) ∧ t.Perm (t1 ++ t2) ∧
    ∀ (u' : Value) (t' : Hep) (b' : List UInt8), OutD 5 1 t' u' b'.length (b'.map bv) → ∃ t3, RowsB (us.set i u') t3 (bs.set i b') ∧ t3.Perm (t' ++ t2) := by
  induction h with
  | nil => intro i b hb; simp at hb
  | @cons u us t1 t b0 bs h1 h2 ih =>
    intro i b hb
    cases i with
    | zero =>
      injection hb with hb
      subst hb
      exact ⟨u, t1, t, rfl, h1, .refl _, fun u' t' b' hu => ⟨_, .cons hu h2, .refl _⟩⟩
    | succ i =>
      obtain ⟨u2, s1, s2, hu, ho, hp, hset⟩ := ih hb
      refine ⟨u2, s1, t1 ++ s2, hu, ho, (List.Perm.append_left t1 hp).trans (List.perm_append_comm_assoc _ _ _), fun u' t' b' hu' => ?_⟩
      obtain ⟨t3, hr, hp3⟩ := hset u' t' b' hu'
      exact ⟨_, .cons h1 hr, (List.Perm.append_left t1 hp3).trans (List.perm_append_comm_assoc _ _ _)⟩
/-- .. in a world: what one of them reads as. -/
theorem RowsB.bf {n : Nat} {w0 w : World} {a : Act} {e : Env} {h t : Hep} {us : List Value} {bs : List (List UInt8)} (hr : RowsB us t bs) (H : St n w0 a w e h) (ht : ∀ p ∈ t, p ∈ h) {i : Nat} {b : List UInt8} (hb : bs[i]? = some b) : ∃ u, us[i]? = some u ∧ BF b u w := by
  obtain ⟨u, t1, t2, hu, ho, hp, _⟩ := hr.at_ hb
  exact ⟨u, hu, ho.bf H fun p hp1 => ht p (hp.mem_iff.2 (List.mem_append_left _ hp1))⟩
end Go.Proofs.Ytiebelmglchbdaa
