/- Words, contracts and walks (Nm, Td, Xa, Xb, Xc, Xd, Np, Nx, Xe, Xf, Ny), laid together. No condition. -/
import Derived.Test.YtonhkclkddobhaaDoorYa
import Derived.Maps.AppendAt
import Derived.Laws.OwnMore
import Derived.ScopeJumps
import Derived.LaidEqlPtr
namespace Go.Proofs.YtonhkclkddobhaaDoor
set_option linter.unusedVariables false
set_option linter.unusedSimpArgs false
set_option maxRecDepth 100000
open Go Go.RowKit
/-- One block alone of the call's own is written on. -/
def WRr (B : Nat) (h : Hep) : Rel := fun w w' => ∃ row, w.grownBy w' row ∧ ∀ g, row = some g → B ≤ g ∧ (∀ p ∈ h, p.1 ≠ g)
/-- A row of the call's own, apart from what is told. -/
def RwF (E : TypeId) (sz B : Nat) (h : Hep) (k : Nat) (xs : List Value) (v : Value) (w : World) : Prop := w.ownsRow B E sz v k xs ∧ ∀ g, v.ownBlock = some g → ∀ p ∈ h, p.1 ≠ g
instance {E : TypeId} {sz B : Nat} {h : Hep} {k : Nat} {xs : List Value} {v : Value} : Lasts (RwF E sz B h k xs v) := ⟨fun w w' ⟨ho, ha⟩ hb => by
  refine ⟨⟨ho.1, ho.2.imp id ?_⟩, ha⟩
  rintro ⟨g, cap, cur, rfl, h1, hh, r⟩
  exact ⟨g, cap, cur, rfl, h1, (hb.block g (Array.getElem?_eq_some_iff.1 hh).1).trans hh, r⟩⟩
def nvD (x : Nat) : Value := .int .u64 (x : Int)
abbrev NF (B : Nat) (h : Hep) (l : List Nat) : Value → World → Prop := RwF 36 1 B h l.length (l.map nvD)
/-- A slice of whole numbers. -/
def NSF (l : List Nat) (v : Value) (w : World) : Prop := ∃ A n c, v = .slice A n c ∧ NS w w.heap.size A n c l
instance {l : List Nat} {v : Value} : Lasts (NSF l v) := ⟨fun w w' ⟨A, n, c, e, h⟩ hb => ⟨A, n, c, e, (h.keep fun _ hp => hb.cell hp).more hb.size⟩⟩
theorem u64_infoD : (Tryd.prog.info? 36).map (fun i => (i.zero, i.size, i.bytes)) = some (some (.int .u64 0), 1, 8) := by kernel_rfl
theorem run_newN1 (w : World) (x : Nat) : (Instr.buildSlice 24 1 #[(0, .int .u64 (x : Int))]).run Tryd.prog w = .ok (.slice (some ⟨w.heap.size, 0, none⟩) 1 1) (w.alloc (.cells #[nvD x] 36)) := by kernel_rfl
theorem run_newN2 (w : World) (x y : Nat) : (Instr.buildSlice 24 2 #[(0, .int .u64 (x : Int)), (1, .int .u64 (y : Int))]).run Tryd.prog w = .ok (.slice (some ⟨w.heap.size, 0, none⟩) 2 2) (w.alloc (.cells #[nvD x, nvD y] 36)) := by kernel_rfl
theorem nsf_new (w : World) (l : List Nat) (hl : ∀ x ∈ l, x < 18446744073709551616) : SB w (w.alloc (.cells (l.map nvD).toArray 36)) ∧ NSF l (.slice (some ⟨w.heap.size, 0, none⟩) l.length l.length) (w.alloc (.cells (l.map nvD).toArray 36)) := by
  have hb : Blk (w.alloc (.cells (l.map nvD).toArray 36)) w.heap.size 36 (l.map nvD).toArray := Blk.new _ _ _
  refine ⟨(Below.refl _ _).alloc (Nat.le_refl _) _, _, _, _, rfl, rfl, Nat.le_refl _, (by intro e; cases e), hl, fun _ => ⟨_, 0, rfl, hb.lt, fun j x hx => ?_⟩⟩
  rw [Nat.zero_add, hb.cell, List.getElem?_toArray, List.getElem?_map, hx]
  rfl
section
variable {n : Nat} {w0 w w' : World} {a : Act} {e : Env} {h : Hep} {Q : Exit → Act → World → Prop} {ops : Array Oper} {o : Oper}
theorem wrr_st : ∀ (a : Act) (w w' : World), St n w0 a w e h → WRr w0.heap.size h w w' → St n w0 a w' e h := fun a w w' H ⟨row, hg, hr⟩ =>
  ⟨H.size, H.defers, H.env, H.below.grown hg H.below.size (fun g hg' => (hr g hg').1), fun p hp => (H.heap p hp).as (hg.block p.1 (H.heap p hp).lt (fun e => (hr p.1 e.symm).2 p hp rfl)), H.own, H.apart⟩
theorem ob_newN1 {y0 : Operand} {x : Nat} (hx : x < 18446744073709551616) (H : St n w0 a w e h) (hw : ∀ a w, St n w0 a w e h → Region.wanted o (yielded ops a.tmps) = true) (ho : o.op = .buildSlice 24 1 #[(0, y0)]) (h0 : sev e y0 = some (.int .u64 (x : Int))) : ObS Tryd.prog ops Q o a w (NSF [x]) := by
  obtain ⟨h1, h2⟩ := nsf_new w [x] (by simpa using hx)
  refine ob_runR H hw ⟨_, _, ?_, h1, h2⟩
  simp [execOp, ho, H.ev h0, run_newN1, Result.andThen]
theorem ob_newN2 {y0 y1 : Operand} {x y : Nat} (hx : x < 18446744073709551616) (hy : y < 18446744073709551616) (H : St n w0 a w e h) (hw : ∀ a w, St n w0 a w e h → Region.wanted o (yielded ops a.tmps) = true) (ho : o.op = .buildSlice 24 2 #[(0, y0), (1, y1)]) (h0 : sev e y0 = some (.int .u64 (x : Int))) (h1 : sev e y1 = some (.int .u64 (y : Int))) : ObS Tryd.prog ops Q o a w (NSF [x, y]) := by
  obtain ⟨h2, h3⟩ := nsf_new w [x, y] (by simp; omega)
  refine ob_runR H hw ⟨_, _, ?_, h2, h3⟩
  simp [execOp, ho, H.ev h0, H.ev h1, run_newN2, Result.andThen]
/-- An append onto a row of the call's own, of any type. -/
theorem row_app {t ty E : TypeId} {sz by_ : Nat} {z : Value} (ht : Tryd.prog.underlying t = some (.slice E)) (hi : (Tryd.prog.info? E).map (fun i => (i.zero, i.size, i.bytes)) = some (some z, sz, by_)) (hzs : z.cells.size = sz) (hsz : 0 < sz) {v : Value} {k : Nat} {xs : List Value} (H : St n w0 a w e h) (hv : RwF E sz w0.heap.size h k xs v w) {A : Addr} {m c : Nat} {news : List Value} (hl : news.length = m * sz) (hn : ∀ (j : Nat) (u : Value), news[j]? = some u → w.cell? (A.add j) = some u) (h1 : ∀ u ∈ news, u.oneCell' = true) (hk : (k + m) * by_ ≤ 140737488355328) (hk2 : k + m ≤ maxLen) :
    ∃ v' w', (Builtin.append_ #[t, t] ty #[v, .slice (some A) m c]).run Tryd.prog w = .ok v' w' ∧ RwF E sz w0.heap.size h (k + m) (xs ++ news) v' w' ∧ WRr w0.heap.size h w w' := by
  cases hq : Tryd.prog.info? E with
  | none => rw [hq] at hi; cases hi
  | some i =>
    rw [hq] at hi
    injection hi with hi
    injection hi with hi1 hi2
    injection hi2 with hi2 hi3
    obtain ⟨v', w', h2, h3, h4, _, h6⟩ := run_append_own_at (P := Tryd.prog) w w0.heap.size t ty E i z sz by_ ht hq hi1 hi2 hi3 hzs hsz v k xs hv.1 A m c news hl hn h1 hk2 hk H.below.size
    have hown : ∀ g, v.ownBlock = some g → w0.heap.size ≤ g := fun g hg => (World.ownsRow.lt hv.1 g hg).1
    refine ⟨v', w', h2, ⟨h3, fun g hg p hp => ?_⟩, _, h4, fun g hg => ⟨hown g hg, fun p hp => hv.2 g hg p hp⟩⟩
    rcases h6 with h6 | h6
    · exact hv.2 g (h6 ▸ hg) p hp
    · rw [h6] at hg
      injection hg with hg
      subst hg
      exact Nat.ne_of_lt (H.heap p hp).lt
theorem ob_appN {x y : Operand} {v u : Value} {l m : List Nat} (H : St n w0 a w e h) (hw : ∀ a w, St n w0 a w e h → Region.wanted o (yielded ops a.tmps) = true) (ho : o.op = .call { callee := .builtin .append, args := #[x, y], argTypes := #[24, 24] })
    (hx : sev e x = some v) (hy : sev e y = some u) (hv : NF w0.heap.size h l v w) (hu : NSF m u w) (hm : 0 < m.length) (hs : l.length + m.length ≤ 1000000) :
    Region.wanted o (yielded ops a.tmps) = true ∧ o.wp Tryd.prog a w (fun a' w' => ∃ v, a' = a.put o.dst v ∧ WRr w0.heap.size h w w' ∧ NF w0.heap.size h (l ++ m) v w') Q := by
  refine ob_runR H hw ?_
  obtain ⟨A, k, c, rfl, hr⟩ := hu
  have hk := hr.len
  obtain ⟨g, of, rfl, hg, hc⟩ := hr.at_ (by omega)
  subst hk
  obtain ⟨v', w', h1, h2, h3⟩ := row_app (t := 24) (ty := o.type) (E := 36) (c := c) Tryd.underlying24 u64_infoD rfl (by decide) H hv (A := ⟨g, of, none⟩) (m := m.length) (news := m.map nvD) (by simp) (fun j u hj => by
    rw [List.getElem?_map] at hj
    obtain ⟨y, hy, rfl⟩ := Option.map_eq_some_iff.1 hj
    rw [Addr.add_lit]
    exact hc j y hy) (fun u hu => by
    obtain ⟨y, _, rfl⟩ := List.mem_map.1 hu
    rfl) (by omega) (by simp only [maxLen]; omega)
  refine ⟨v', w', ?_, h3, ?_⟩
  · simp [execOp, ho, resolve, invoke, builtin, H.ev hx, H.ev hy, h1, Result.andThen]
  · show RwF _ _ _ _ _ _ _ _
    rw [List.length_append, List.map_append]
    exact h2
theorem ob_lenN {x : Operand} {v : Value} {l : List Nat} (H : St n w0 a w e h) (hw : ∀ a w, St n w0 a w e h → Region.wanted o (yielded ops a.tmps) = true) (ho : o.op = .call { callee := .builtin .len, args := #[x], argTypes := #[24] })
    (hx : sev e x = some v) {B : Nat} {h2 : Hep} (hv : NF B h2 l v w) : ObS Tryd.prog ops Q o a w (fun u _ => u = .int .i64 ((l.length : Nat) : Int)) := by
  have hA : ∃ A c, v = .slice A l.length c := by
    rcases hv.1.2 with ⟨rfl, h0⟩ | ⟨g, cap, cur, rfl, _⟩
    · exact ⟨none, 0, by rw [h0]⟩
    · exact ⟨_, cap, rfl⟩
  obtain ⟨A, c, rfl⟩ := hA
  refine ob_runR H hw ⟨_, w, ?_, Below.refl _ _, rfl⟩
  simp [execOp, ho, resolve, invoke, builtin, H.ev hx, Builtin.len_, Builtin.lenOf, goInt, run_underlying Tryd.underlying24, Result.andThen]
end
theorem nf_nil (B : Nat) (h : Hep) (W : World) : NF B h [] (.slice none 0 0) W := ⟨⟨rfl, .inl ⟨rfl, rfl⟩⟩, fun g hg => by cases hg⟩
theorem ud_sub {k m : Nat} (h : m ≤ k) (hk : k < 18446744073709551616) (p q : Operand) (W : World) : (do eqGuard .sub 36 p q (.int .u64 (k : Int)) (.int .u64 (m : Int)); binOp .sub 36 (.int .u64 (k : Int)) (.int .u64 (m : Int)) : Sem Value).run Tryd.prog W = .ok (.int .u64 ((k - m : Nat) : Int)) W := by
  have e : IntKind.u64.wrap ((k : Int) - (m : Int)) = ((k - m : Nat) : Int) := by rw [IntWalk.u64_in _ (by omega)]; omega
  go_simp
end Go.Proofs.YtonhkclkddobhaaDoor
namespace Go.Proofs.YtonhkclkddobhaaDoor
set_option linter.unusedVariables false
set_option linter.unusedSimpArgs false
set_option maxRecDepth 100000
open Go Go.RowKit
def OutD (E : TypeId) (sz : Nat) (t : Hep) (v : Value) (k : Nat) (xs : List Value) : Prop :=
  (t = [] ∧ v = .slice none 0 0 ∧ k = 0 ∧ xs = []) ∨ ∃ g cap cur, t = [(g, .ty E, cur)] ∧ v = .slice (some ⟨g, 0, none⟩) k cap ∧ k ≤ cap ∧ cap ≤ maxLen ∧ cur.size = cap * sz ∧ cur.toList.take (k * sz) = xs
theorem OutD.nil (E : TypeId) (sz : Nat) : OutD E sz [] (.slice none 0 0) 0 [] := .inl ⟨rfl, rfl, rfl, rfl⟩
theorem OutD.form {E : TypeId} {sz k : Nat} {t : Hep} {v : Value} {xs : List Value} (h : OutD E sz t v k xs) : ∃ A c, v = .slice A k c ∧ k ≤ c := by
  rcases h with ⟨_, rfl, rfl, _⟩ | ⟨g, cap, cur, _, rfl, h, _⟩
  · exact ⟨none, 0, rfl, Nat.le_refl _⟩
  · exact ⟨_, cap, rfl, h⟩
theorem OutD.told {E : TypeId} {sz k : Nat} {t : Hep} {v : Value} {xs : List Value} (h : OutD E sz t v k xs) : ∀ g, v.ownBlock = some g → ∃ p ∈ t, p.1 = g := by
  rcases h with ⟨_, rfl, _, _⟩ | ⟨g, cap, cur, rfl, rfl, _⟩
  · intro g hg; cases hg
  · intro g' hg
    injection hg with hg
    exact ⟨_, List.mem_singleton.2 rfl, hg⟩
/-- A slice of a block, of which one row is the list's. -/
theorem OutD.at_ {E : TypeId} {sz k : Nat} {t : Hep} {A : Option Addr} {c k' : Nat} {xs : List Value} (h : OutD E sz t (.slice A k' c) k xs) (h0 : 0 < k) : ∃ (g : Nat) (cur : Array Value), t = [(g, .ty E, cur)] ∧ A = some ⟨g, 0, none⟩ ∧ ∀ (j : Nat) (u : Value), xs[j]? = some u → cur[j]? = some u := by
  rcases h with ⟨_, _, rfl, _⟩ | ⟨g, cap, cur, rfl, e, _, _, _, h4⟩
  · omega
  · injection e with e1 _ _
    refine ⟨g, cur, rfl, e1, fun j u hu => ?_⟩
    rw [← h4, List.getElem?_take] at hu
    split at hu
    · rw [← Array.getElem?_toList]
      exact hu
    · cases hu
section
variable {P : Program} {n : Nat} {w0 w w' : World} {a : Act} {e : Env} {h t t2 : Hep} {Q : Exit → Act → World → Prop} {ops : Array Oper} {rest : List Oper} {o : Oper} {E : TypeId} {sz k : Nat} {v : Value} {xs : List Value}
theorem OutD.owns (hv : OutD E sz t v k xs) (H : St n w0 a w e (h ++ t)) : w.ownsRow w0.heap.size E sz v k xs := by
  rcases hv with ⟨rfl, rfl, rfl, rfl⟩ | ⟨g, cap, cur, rfl, rfl, h1, h2, h3, h4⟩
  · exact World.ownsRow_nil _ _ _ _
  · have hb : Blk w g E cur := H.heap (g, .ty E, cur) (by simp)
    have ho : w0.heap.size ≤ g := H.own (g, .ty E, cur) (by simp)
    refine ⟨?_, .inr ⟨g, cap, cur, rfl, ho, hb, h1, h2, h3, h4⟩⟩
    have hle : k * sz ≤ cap * sz := Nat.mul_le_mul_right _ h1
    rw [← h4, List.length_take, Array.length_toList, h3, Nat.min_eq_left hle]
theorem St.appD (H : St n w0 a w e (h ++ t)) (hv : OutD E sz t v k xs) {v' : Value} {k' : Nat} {xs' : List Value} (ho : w'.ownsRow w0.heap.size E sz v' k' xs') (hg : w.grownBy w' v.ownBlock) (hb : v'.ownBlock = v.ownBlock ∨ v'.ownBlock = some w.heap.size) (hk : 0 < k') :
    ∃ t', OutD E sz t' v' k' xs' ∧ St n w0 a w' e (h ++ t') ∧ ∀ p ∈ t', (∃ q ∈ t, q.1 = p.1) ∨ p.1 = w.heap.size := by
  have hap := List.pairwise_append.1 H.apart
  have hown : ∀ g, v.ownBlock = some g → w0.heap.size ≤ g ∧ ∀ p ∈ h, p.1 ≠ g := fun g hg' => by
    rcases hv with ⟨rfl, rfl, _, _⟩ | ⟨g2, cap, cur, rfl, rfl, _⟩
    · cases hg'
    · injection hg' with hg'
      subst hg'
      exact ⟨H.own (g2, E, cur) (by simp), fun p hp => hap.2.2 p hp (g2, E, cur) (by simp)⟩
  rcases ho.2 with ⟨_, h0⟩ | ⟨g, cap, cur, rfl, hB, hcur, h1, h2, h3, h4⟩
  · omega
  · refine ⟨[(g, .ty E, cur)], .inr ⟨g, cap, cur, rfl, rfl, h1, h2, h3, h4⟩, ?_, fun p hp => ?_⟩
    · have hfar : ∀ p ∈ h, p.1 ≠ g := fun p hp => by
        rcases hb with hb | hb
        · exact (hown g hb.symm).2 p hp
        · injection hb with hb
          have hb : g = w.heap.size := hb
          rw [hb]
          exact Nat.ne_of_lt (H.heap p (List.mem_append.2 (.inl hp))).lt
      have hold : ∀ p ∈ h, Blk w' p.1 p.2.1 p.2.2 := fun p hp => by
        have hbl := H.heap p (List.mem_append.2 (.inl hp))
        exact hbl.as (hg.block p.1 hbl.lt (fun e1 => (hown p.1 e1.symm).2 p hp rfl))
      refine ⟨H.size, H.defers, H.env, H.below.grown hg H.below.size (fun g' hg' => (hown g' hg').1), fun p hp => ?_, fun p hp => ?_, List.pairwise_append.2 ⟨hap.1, List.pairwise_singleton _ _, fun p hp q hq => ?_⟩⟩
      · rcases List.mem_append.1 hp with hp | hp
        · exact hold p hp
        · rw [List.mem_singleton.1 hp]
          exact hcur
      · rcases List.mem_append.1 hp with hp | hp
        · exact H.own p (List.mem_append.2 (.inl hp))
        · rw [List.mem_singleton.1 hp]
          exact hB
      · rw [List.mem_singleton.1 hq]
        exact hfar p hp
    · rw [List.mem_singleton.1 hp]
      rcases hb with hb | hb
      · exact .inl (hv.told g hb.symm)
      · injection hb with hb
        exact .inr hb
/-- What a call answers that is its own is told from now on. -/
theorem own_told {B : Nat} (H : St n w0 a w e h) (hb : Below w.heap.size w w') (hv : w'.ownsRow w.heap.size E sz v k xs) : ∃ t, OutD E sz t v k xs ∧ St n w0 a w' e (h ++ t) := by
  have H' := H.call hb
  rcases hv.2 with ⟨rfl, h0⟩ | ⟨g, cap, cur, rfl, hB, hcur, h1, h2, h3, h4⟩
  · have hx := hv.1
    subst h0
    rw [Nat.zero_mul] at hx
    exact ⟨[], .inl ⟨rfl, rfl, rfl, List.eq_nil_of_length_eq_zero hx⟩, by rw [List.append_nil]; exact H'⟩
  · refine ⟨[(g, .ty E, cur)], .inr ⟨g, cap, cur, rfl, rfl, h1, h2, h3, h4⟩, H'.size, H'.defers, H'.env, H'.below, fun p hp => ?_, fun p hp => ?_, List.pairwise_append.2 ⟨H.apart, List.pairwise_singleton _ _, fun p hp q hq => ?_⟩⟩
    · rcases List.mem_append.1 hp with hp | hp
      · exact H'.heap p hp
      · rw [List.mem_singleton.1 hp]
        exact hcur
    · rcases List.mem_append.1 hp with hp | hp
      · exact H'.own p hp
      · rw [List.mem_singleton.1 hp]
        exact Nat.le_trans H.below.size hB
    · rw [List.mem_singleton.1 hq]
      exact Nat.ne_of_lt (Nat.lt_of_lt_of_le (H.heap p hp).lt hB)
theorem pl_callOwn {d : Nat} {f : FuncId} {args : List Operand} {tys : Array TypeId} {vs : List Value} (ho : o.op = .call { callee := .value (.func f), args := args.toArray, argTypes := tys }) (hf : Ours P f) (hx : sevs e args = some vs)
    (hc : Calls P f vs.toArray w (fun rr w' => ∃ v, rr = .returned v ∧ Below w.heap.size w w' ∧ w'.ownsRow w.heap.size E sz v k xs)) (hg : o.guard = none) (hdst : o.dst = some d) (hl : Nat.blt d n = true) (hfr : e.all (fun p => !Nat.beq p.1 d) = true) (H : St n w0 a w e h)
    (next : ∀ v t a w, OutD E sz t v k xs → St n w0 a w ((d, v) :: e) (h ++ t) → wpList P ops Q rest a w) : wpList P ops Q (o :: rest) a w :=
  wpList_plain hg fun K hK => by
    unfold Oper.wp
    rw [run_call ho hf rfl, H.evs hx, Oper.upon_enter]
    refine hc.mono ?_
    rintro r W' ⟨v, rfl, hb, hown⟩
    obtain ⟨t, ht, H'⟩ := own_told (B := 0) H hb hown
    refine hK _ _ (next v t _ _ ht ?_)
    rw [hdst]
    exact H'.put v hl hfr
end
/-- New rows of a call. -/
structure NR (B : Nat) (t : Hep) (w : World) : Prop where
  heap : ∀ p ∈ t, Blk w p.1 p.2.1 p.2.2
  own : ∀ p ∈ t, B ≤ p.1
  apart : t.Pairwise (fun p q => p.1 ≠ q.1)
theorem NR.nil (B : Nat) (w : World) : NR B [] w := ⟨fun p hp => (by cases hp), fun p hp => (by cases hp), List.Pairwise.nil⟩
theorem St.perm' {n : Nat} {w0 w : World} {a : Act} {e : Env} {h h' : Hep} (H : St n w0 a w e h) (hp : h.Perm h') : St n w0 a w e h' := H.sub (fun _ h => h) (fun p hx => hp.mem_iff.2 hx) (hp.pairwise H.apart (fun h1 h2 => h1 h2.symm))
theorem St.nr {n : Nat} {w0 w : World} {a : Act} {e : Env} {h t : Hep} (H : St n w0 a w e (h ++ t)) : NR w0.heap.size t w := ⟨fun p hp => H.heap p (List.mem_append.2 (.inr hp)), fun p hp => H.own p (List.mem_append.2 (.inr hp)), (List.pairwise_append.1 H.apart).2.1⟩
/-- .. are told from now on. -/
theorem St.news {n : Nat} {w0 w w' : World} {a : Act} {e : Env} {h t : Hep} (H : St n w0 a w e h) (hb : Below w.heap.size w w') (hn : NR w.heap.size t w') : St n w0 a w' e (h ++ t) := by
  have H' := H.call hb
  refine ⟨H'.size, H'.defers, H'.env, H'.below, fun p hp => ?_, fun p hp => ?_, List.pairwise_append.2 ⟨H.apart, hn.apart, fun p hp q hq => Nat.ne_of_lt (Nat.lt_of_lt_of_le (H.heap p hp).lt (hn.own q hq))⟩⟩
  · rcases List.mem_append.1 hp with hp | hp
    · exact H'.heap p hp
    · exact hn.heap p hp
  · rcases List.mem_append.1 hp with hp | hp
    · exact H'.own p hp
    · exact Nat.le_trans H.below.size (hn.own p hp)
theorem OutD.put {E : TypeId} {k g j : Nat} {cur : Array Value} {v u : Value} {xs : List Value} (hv : OutD E 1 [(g, .ty E, cur)] v k xs) : OutD E 1 [(g, .ty E, setV cur j [u])] v k (xs.set j u) := by
  rcases hv with ⟨h, _⟩ | ⟨g', cap, cur', h, rfl, h1, h2, h3, h4⟩
  · cases h
  · injection h with h _
    injection h with e1 h
    injection h with _ e2
    subst e1 e2
    refine .inr ⟨g, cap, _, rfl, rfl, h1, h2, ?_, ?_⟩
    · show (cur.setIfInBounds j u).size = _
      rw [Array.size_setIfInBounds]
      exact h3
    · show ((cur.setIfInBounds j u).toList).take (k * 1) = _
      rw [Array.toList_setIfInBounds, List.take_set, h4]
theorem OutD.len {E : TypeId} {k : Nat} {t : Hep} {v : Value} {xs : List Value} (hv : OutD E 1 t v k xs) : xs.length = k := by
  rcases hv with ⟨_, _, rfl, rfl⟩ | ⟨g', cap, cur', h, rfl, h1, h2, h3, h4⟩
  · rfl
  · rw [← h4, List.length_take, Array.length_toList]
    omega
theorem st_u8c {g j : Nat} {cur : Array Value} {x y : UInt8} (hj : cur[j]? = some (bv x)) (W : World) (h : Blk W g 5 cur) : (Instr.storeAt 5 (.pointer (some ⟨g, j, none⟩)) (bv y)).run Tryd.prog W = .ok () (W.setCells g j [bv y]) := by
  have hc : W.cell? ⟨g, j, none⟩ = some (bv x) := (h.cell j).trans hj
  have hf := h.frozen j
  have hs : (W.cell? ⟨g, j, none⟩).isSome = true := by rw [hc]; rfl
  show _ = Result.ok () (W.setCell ⟨g, j, none⟩ (bv y))
  unfold bv
  go_simp
section
variable {n : Nat} {w0 w w' : World} {a : Act} {e : Env} {h t t2 : Hep} {Q : Exit → Act → World → Prop} {ops : Array Oper} {rest : List Oper} {o : Oper}
theorem OutD.bf {v : Value} {l : List UInt8} (hv : OutD 5 1 t v l.length (l.map bv)) (H : St n w0 a w e h) (ht : ∀ p ∈ t, p ∈ h) : BF l v w := by
  rcases hv with ⟨rfl, rfl, h0, _⟩ | ⟨g, cap, cur, rfl, rfl, h1, h2, h3, h4⟩
  · obtain rfl : l = [] := List.eq_nil_of_length_eq_zero h0
    exact BF.nil _
  · have hb : Blk w g 5 cur := H.heap _ (ht _ (List.mem_singleton.2 rfl))
    exact ⟨_, _, _, rfl, rfl, h1, (by intro e; cases e), fun _ => ⟨g, 0, rfl, hb.lt, fun j x hx => by
      rw [Nat.zero_add, hb.cell, ← Array.getElem?_toList]
      have hj : (cur.toList.take (l.length * 1))[j]? = some (bv x) := by rw [h4, List.getElem?_map, hx]; rfl
      rw [List.getElem?_take] at hj
      split at hj
      · exact hj
      · cases hj⟩⟩
end
/-- Values that are slices of these bytes, whose rows are told one behind the other. -/
inductive RowsB : List Value → Hep → List (List UInt8) → Prop
  | nil : RowsB [] [] []
  | cons {u : Value} {us : List Value} {t1 t : Hep} {b : List UInt8} {bs : List (List UInt8)} : OutD 5 1 t1 u b.length (b.map bv) → RowsB us t bs → RowsB (u :: us) (t1 ++ t) (b :: bs)
theorem RowsB.len {us : List Value} {t : Hep} {bs : List (List UInt8)} (h : RowsB us t bs) : us.length = bs.length := by
  induction h with
  | nil => rfl
  | cons _ _ ih => simp [ih]
theorem RowsB.snoc {us : List Value} {t t1 : Hep} {bs : List (List UInt8)} {u : Value} {b : List UInt8} (h : RowsB us t bs) (hu : OutD 5 1 t1 u b.length (b.map bv)) : RowsB (us ++ [u]) (t ++ t1) (bs ++ [b]) := by
  induction h with
  | nil =>
    have := RowsB.cons hu .nil
    rwa [List.append_nil] at this
  | cons h1 _ ih =>
    rw [List.append_assoc]
    exact .cons h1 ih
/-- One of them: its row, the others'. -/
theorem RowsB.at_ {us : List Value} {t : Hep} {bs : List (List UInt8)} (h : RowsB us t bs) : ∀ {i : Nat} {b : List UInt8}, bs[i]? = some b → ∃ u t1 t2, us[i]? = some u ∧ OutD 5 1 t1 u b.length (b.map bv) ∧ t.Perm (t1 ++ t2) ∧
    ∀ (u' : Value) (t' : Hep) (b' : List UInt8), OutD 5 1 t' u' b'.length (b'.map bv) → ∃ t3, RowsB (us.set i u') t3 (bs.set i b') ∧ t3.Perm (t' ++ t2) := by
  induction h with
  | nil => intro i b hb; simp at hb
  | @cons u us t1 t b0 bs h1 h2 ih =>
    intro i b hb
    cases i with
    | zero =>
      injection hb with hb
      subst hb
      exact ⟨u, t1, t, rfl, h1, .refl _, fun u' t' b' hu => ⟨_, .cons hu h2, .refl _⟩⟩
    | succ i =>
      obtain ⟨u2, s1, s2, hu, ho, hp, hset⟩ := ih hb
      refine ⟨u2, s1, t1 ++ s2, hu, ho, (List.Perm.append_left t1 hp).trans (List.perm_append_comm_assoc _ _ _), fun u' t' b' hu' => ?_⟩
      obtain ⟨t3, hr, hp3⟩ := hset u' t' b' hu'
      exact ⟨_, .cons h1 hr, (List.Perm.append_left t1 hp3).trans (List.perm_append_comm_assoc _ _ _)⟩
/-- .. in a world: what one of them reads as. -/
theorem RowsB.bf {n : Nat} {w0 w : World} {a : Act} {e : Env} {h t : Hep} {us : List Value} {bs : List (List UInt8)} (hr : RowsB us t bs) (H : St n w0 a w e h) (ht : ∀ p ∈ t, p ∈ h) {i : Nat} {b : List UInt8} (hb : bs[i]? = some b) : ∃ u, us[i]? = some u ∧ BF b u w := by
  obtain ⟨u, t1, t2, hu, ho, hp, _⟩ := hr.at_ hb
  exact ⟨u, hu, ho.bf H fun p hp1 => ht p (hp.mem_iff.2 (List.mem_append_left _ hp1))⟩
end Go.Proofs.YtonhkclkddobhaaDoor
namespace Go.Proofs.YtonhkclkddobhaaDoor
set_option linter.unusedVariables false
set_option linter.unusedSimpArgs false
/-- Kids' bytes, no further than where they are too many. -/
def kidsQ (f : DT → List UInt8) : List DT → List UInt8 → List UInt8
  | [], l => l
  | k :: r, l => if 65000 < l.length then l else kidsQ f r (l ++ f k)
/-- A value's bytes; of one that has too many, any that are too many. -/
def formQ : Nat → DT → List UInt8
  | 0, _ => []
  | d + 1, .mk k f n b t a ks => if 65000 < (contD k f n b t a (kidsQ (formQ d) ks [])).length then contD k f n b t a (kidsQ (formQ d) ks []) else headD (tagD k n) (contD k f n b t a (kidsQ (formQ d) ks []))
theorem kidsQ_mono (f : DT → List UInt8) : ∀ (ks : List DT) (l : List UInt8), l.length ≤ (kidsQ f ks l).length
  | [], l => Nat.le_refl _
  | k :: r, l => by
    unfold kidsQ
    split
    · exact Nat.le_refl _
    · exact Nat.le_trans (by rw [List.length_append]; omega) (kidsQ_mono f r (l ++ f k))
/-- Two ways of bytes that are the same as long as they are few. -/
def Alike (x y : List UInt8) : Prop := (x.length ≤ 65000 → x = y) ∧ (y.length ≤ 65000 → x = y)
theorem kidsQ_like {f g : DT → List UInt8} : ∀ (ks : List DT) (l : List UInt8), (∀ k ∈ ks, Alike (f k) (g k)) → Alike (kidsQ f ks l) (l ++ ks.flatMap g)
  | [], l, _ => by
    unfold kidsQ
    rw [List.flatMap_nil, List.append_nil]
    exact ⟨fun _ => rfl, fun _ => rfl⟩
  | k :: r, l, h => by
    unfold kidsQ
    rw [List.flatMap_cons]
    split
    · rename_i h0
      exact ⟨fun h1 => by omega, fun h1 => by simp only [List.length_append] at h1; omega⟩
    · have ih := kidsQ_like r (l ++ f k) fun k hk => h k (List.mem_cons_of_mem _ hk)
      obtain ⟨h1, h2⟩ := h k List.mem_cons_self
      constructor
      · intro hl
        have hm := kidsQ_mono f r (l ++ f k)
        have e := ih.1 hl
        rw [e, h1 (by rw [List.length_append] at hm; omega), List.append_assoc]
      · intro hl
        have e : f k = g k := h2 (by simp only [List.length_append] at hl; omega)
        rw [← List.append_assoc, ← e] at hl ⊢
        exact ih.2 hl
theorem cont_app (k : Int) (f : Bool) (n : Int) (b t : List UInt8) (a : List Nat) (kk : List UInt8) : contD k f n b t a kk = contD k f n b t a [] ++ kk := by
  unfold contD
  rw [List.append_nil]
theorem formQ_like : ∀ (d : Nat) (T : DT), Alike (formQ d T) (packD d T)
  | 0, _ => ⟨fun _ => rfl, fun _ => rfl⟩
  | d + 1, .mk k f n b t a ks => by
    have hk := kidsQ_like (f := formQ d) (g := packD d) ks [] fun k _ => formQ_like d k
    rw [List.nil_append] at hk
    unfold formQ packD
    have hc : Alike (contD k f n b t a (kidsQ (formQ d) ks [])) (contD k f n b t a (ks.flatMap (packD d))) := by
      rw [cont_app k f n b t a (kidsQ (formQ d) ks []), cont_app k f n b t a (ks.flatMap (packD d))]
      exact ⟨fun h => by rw [hk.1 (by rw [List.length_append] at h; omega)], fun h => by rw [hk.2 (by rw [List.length_append] at h; omega)]⟩
    split
    · rename_i h0
      refine ⟨fun h => by omega, fun h => ?_⟩
      rw [head_len] at h
      have := hc.2 (by omega)
      rw [this] at h0
      omega
    · rename_i h0
      rw [hc.1 (by omega)]
      exact ⟨fun _ => rfl, fun _ => rfl⟩
/-- So many bytes, and what is left. -/
def takeQ (l : List UInt8) (n : Int) : List UInt8 × List UInt8 := if 0 ≤ n ∧ n ≤ (l.length : Int) then (l.take n.toNat, l.drop n.toNat) else ([], [])
def numQ (l : List UInt8) (n : Int) : Nat × List UInt8 := if 1 ≤ (takeQ l n).1.length ∧ (takeQ l n).1.length ≤ 8 then (accD (takeQ l n).1 0, (takeQ l n).2) else (0, [])
def lenQ (l : List UInt8) : Int × List UInt8 := if 128 ≤ (numQ l 1).1 then (s64 (numQ (numQ l 1).2 (((numQ l 1).1 : Int) - 128)).1, (numQ (numQ l 1).2 (((numQ l 1).1 : Int) - 128)).2) else (((numQ l 1).1 : Int), (numQ l 1).2)
/-- The kind that a tag is of; DerTag's number. -/
def kindQ (x : Nat) : Int := if x / 32 = 5 then 8 else if x = 0 then 0 else if x = 1 then 1 else if x = 2 then 2 else if x = 3 then 3 else if x = 4 then 4 else if x = 6 then 5 else if x = 12 then 6 else if x = 48 then 7 else if x = 49 then 9 else if x = 24 then 10 else 0
def tnQ (x : Nat) : Int := if x / 32 = 5 then ((x % 32 : Nat) : Int) else 0
def intQ (b : List UInt8) : Int := if 1 ≤ b.length ∧ b.length ≤ 8 then (s64 (accD b 0 * 2 ^ (64 - 8 * b.length) % 18446744073709551616)).fdiv (2 ^ (64 - 8 * b.length)) else 0
def arcsQ : List UInt8 → Nat → List Nat → List Nat
  | [], _, l => l
  | x :: r, n, l => if 128 ≤ x.toNat then arcsQ r ((n * 128 + x.toNat % 128) % 18446744073709551616) l
    else arcsQ r 0 (if l.isEmpty then [min ((n * 128 + x.toNat % 128) % 18446744073709551616 / 40) 2, (n * 128 + x.toNat % 128) % 18446744073709551616 - 40 * min ((n * 128 + x.toNat % 128) % 18446744073709551616 / 40) 2] else l ++ [(n * 128 + x.toNat % 128) % 18446744073709551616])
def fillQ (k n : Int) (c : List UInt8) : DT :=
  if k = 1 then .mk 1 (decide (c = [255])) n [] [] [] [] else if k = 2 then .mk 2 false (intQ c) [] [] [] [] else if k = 5 then .mk 5 false n [] [] (arcsQ c 0 []) []
  else if k = 6 ∨ k = 10 then .mk k false n [] c [] [] else if k = 3 then .mk 3 false n (c.drop (min 1 c.length)) [] [] [] else if k = 4 then .mk 4 false n c [] [] [] else .mk k false n [] [] [] []
/-- Kids, as long as more is left than e. -/
def kidsRQ (rd : List UInt8 → DT × List UInt8) : Nat → Nat → List UInt8 → List DT × List UInt8
  | 0, _, l => ([], l)
  | f + 1, e, l => if e < l.length then ((rd l).1 :: (kidsRQ rd f e (rd l).2).1, (kidsRQ rd f e (rd l).2).2) else ([], l)
def isKids (k : Int) : Prop := k = 7 ∨ k = 8 ∨ k = 9
instance (k : Int) : Decidable (isKids k) := inferInstanceAs (Decidable (_ ∨ _ ∨ _))
/-- Kids of so many bytes. -/
def kidsOfQ (rd : List UInt8 → DT × List UInt8) (l : List UInt8) (n : Int) (stop : Bool) : List DT × List UInt8 := if (l.length : Int) - n < -9223372036854775808 ∨ (l.length : Int) - n < 0 ∨ 9223372036854775807 < (l.length : Int) - n ∨ stop = true then ([], l) else kidsRQ rd l.length ((l.length : Int) - n).toNat l
def readQ : Nat → List UInt8 → DT × List UInt8
  | 0, l => (.mk 0 false 0 [] [] [] [], l)
  | d + 1, l =>
    if isKids (kindQ (numQ l 1).1) then (.mk (kindQ (numQ l 1).1) false (tnQ (numQ l 1).1) [] [] [] (kidsOfQ (readQ d) (lenQ (numQ l 1).2).2 (lenQ (numQ l 1).2).1 (decide (d = 0))).1, (kidsOfQ (readQ d) (lenQ (numQ l 1).2).2 (lenQ (numQ l 1).2).1 (decide (d = 0))).2)
    else (fillQ (kindQ (numQ l 1).1) (tnQ (numQ l 1).1) (takeQ (lenQ (numQ l 1).2).2 (lenQ (numQ l 1).2).1).1, (takeQ (lenQ (numQ l 1).2).2 (lenQ (numQ l 1).2).1).2)
theorem takeQ_app (c rest : List UInt8) : takeQ (c ++ rest) (c.length : Int) = (c, rest) := by
  unfold takeQ
  rw [if_pos ⟨by omega, by rw [List.length_append]; omega⟩, Int.toNat_natCast, List.take_left' rfl, List.drop_left' rfl]
theorem numQ_one (x : UInt8) (rest : List UInt8) : numQ (x :: rest) 1 = (x.toNat, rest) := by
  have e : takeQ (x :: rest) 1 = ([x], rest) := takeQ_app [x] rest
  unfold numQ
  rw [e, if_pos ⟨Nat.le_refl _, show 1 ≤ 8 by decide⟩]
  have hx := x.toNat_lt
  show ((0 * 256 + x.toNat) % 18446744073709551616, rest) = _
  rw [Nat.zero_mul, Nat.zero_add, Nat.mod_eq_of_lt (by omega)]
theorem numQ_two (x y : UInt8) (rest : List UInt8) : numQ (x :: y :: rest) 2 = (256 * x.toNat + y.toNat, rest) := by
  have e : takeQ (x :: y :: rest) 2 = ([x, y], rest) := takeQ_app [x, y] rest
  unfold numQ
  rw [e, if_pos ⟨show 1 ≤ 2 by decide, show 2 ≤ 8 by decide⟩]
  have hx := x.toNat_lt
  have hy := y.toNat_lt
  show (((0 * 256 + x.toNat) % 18446744073709551616 * 256 + y.toNat) % 18446744073709551616, rest) = _
  congr 1
  omega
theorem lenQ_len {n : Nat} (hn : n < 65536) (rest : List UInt8) : lenQ (lenD n ++ rest) = ((n : Int), rest) := by
  unfold lenQ lenD
  split
  · rename_i h
    have e := byteD_nat (n := n) (by omega)
    rw [List.singleton_append, numQ_one, e, if_neg (by show ¬ 128 ≤ n; omega)]
  · split
    · rename_i h
      have e := byteD_nat (n := n) (by omega)
      rw [show [129, byteD n] ++ rest = 129 :: (byteD n :: rest) from rfl, numQ_one, if_pos (show 128 ≤ (UInt8.toNat 129, byteD n :: rest).fst from (by decide : 128 ≤ UInt8.toNat 129))]
      show (s64 (numQ (byteD n :: rest) (((129 : Nat) : Int) - 128)).1, (numQ (byteD n :: rest) (((129 : Nat) : Int) - 128)).2) = _
      rw [show (((129 : Nat) : Int) - 128) = 1 from rfl]
      rw [numQ_one, e]
      unfold s64
      rw [if_pos (by show n < _; omega)]
    · have e1 := byteD_nat (n := n / 256 % 256) (by omega)
      have e2 := byteD_nat (n := n % 256) (by omega)
      rw [show [130, byteD (n / 256 % 256), byteD (n % 256)] ++ rest = 130 :: (byteD (n / 256 % 256) :: byteD (n % 256) :: rest) from rfl, numQ_one, if_pos (show 128 ≤ (UInt8.toNat 130, byteD (n / 256 % 256) :: byteD (n % 256) :: rest).fst from (by decide : 128 ≤ UInt8.toNat 130))]
      show (s64 (numQ (byteD (n / 256 % 256) :: byteD (n % 256) :: rest) (((130 : Nat) : Int) - 128)).1, (numQ (byteD (n / 256 % 256) :: byteD (n % 256) :: rest) (((130 : Nat) : Int) - 128)).2) = _
      rw [show (((130 : Nat) : Int) - 128) = 2 from rfl]
      rw [numQ_two, e1, e2]
      unfold s64
      have e3 : 256 * (n / 256 % 256) + n % 256 = n := by omega
      dsimp only
      rw [e3, if_pos (by omega)]
theorem kindQ_tag {k n : Int} (h1 : 1 ≤ k) (h2 : k ≤ 10) (h3 : k = 8 → 0 ≤ n ∧ n ≤ 30) : kindQ (tagD k n).toNat = k ∧ (k ≠ 8 → tnQ (tagD k n).toNat = 0) ∧ (k = 8 → tnQ (tagD k n).toNat = n) := by
  have hk : k = 1 ∨ k = 2 ∨ k = 3 ∨ k = 4 ∨ k = 5 ∨ k = 6 ∨ k = 7 ∨ k = 8 ∨ k = 9 ∨ k = 10 := by omega
  rcases hk with rfl | rfl | rfl | rfl | rfl | rfl | rfl | rfl | rfl | rfl
  · have e : (tagD 1 n).toNat = 1 := rfl
    rw [e]
    exact ⟨by decide, fun _ => by decide, fun h => absurd h (by decide)⟩
  · have e : (tagD 2 n).toNat = 2 := rfl
    rw [e]
    exact ⟨by decide, fun _ => by decide, fun h => absurd h (by decide)⟩
  · have e : (tagD 3 n).toNat = 3 := rfl
    rw [e]
    exact ⟨by decide, fun _ => by decide, fun h => absurd h (by decide)⟩
  · have e : (tagD 4 n).toNat = 4 := rfl
    rw [e]
    exact ⟨by decide, fun _ => by decide, fun h => absurd h (by decide)⟩
  · have e : (tagD 5 n).toNat = 6 := rfl
    rw [e]
    exact ⟨by decide, fun _ => by decide, fun h => absurd h (by decide)⟩
  · have e : (tagD 6 n).toNat = 12 := rfl
    rw [e]
    exact ⟨by decide, fun _ => by decide, fun h => absurd h (by decide)⟩
  · have e : (tagD 7 n).toNat = 48 := rfl
    rw [e]
    exact ⟨by decide, fun _ => by decide, fun h => absurd h (by decide)⟩
  · obtain ⟨h4, h5⟩ := h3 rfl
    have e : tagD 8 n = 160 + n := by
      unfold tagD
      rw [if_pos rfl, Int.tmod_eq_emod_of_nonneg h4]
      omega
    rw [e]
    refine ⟨?_, fun h => absurd rfl h, fun _ => ?_⟩
    · unfold kindQ
      rw [if_pos (by omega)]
    · unfold tnQ
      rw [if_pos (by omega)]
      omega
  · have e : (tagD 9 n).toNat = 49 := rfl
    rw [e]
    exact ⟨by decide, fun _ => by decide, fun h => absurd h (by decide)⟩
  · have e : (tagD 10 n).toNat = 24 := rfl
    rw [e]
    exact ⟨by decide, fun _ => by decide, fun h => absurd h (by decide)⟩
def valQ : List UInt8 → Nat
  | [] => 0
  | x :: r => x.toNat * 256 ^ r.length + valQ r
theorem valQ_lt : ∀ b : List UInt8, valQ b < 256 ^ b.length
  | [] => by decide
  | x :: r => by
    have hx := x.toNat_lt
    have ih := valQ_lt r
    have e : (x :: r).length = r.length + 1 := rfl
    rw [e, Nat.pow_succ]
    unfold valQ
    have := Nat.mul_le_mul_right (256 ^ r.length) (show x.toNat + 1 ≤ 256 by omega)
    rw [Nat.add_mul] at this
    omega
theorem pows {L : Nat} (h : L ≤ 7) : L = 0 ∧ 256 ^ L = 1 ∨ L = 1 ∧ 256 ^ L = 256 ∨ L = 2 ∧ 256 ^ L = 65536 ∨ L = 3 ∧ 256 ^ L = 16777216 ∨ L = 4 ∧ 256 ^ L = 4294967296 ∨ L = 5 ∧ 256 ^ L = 1099511627776 ∨ L = 6 ∧ 256 ^ L = 281474976710656 ∨ L = 7 ∧ 256 ^ L = 72057594037927936 := by
  obtain rfl | rfl | rfl | rfl | rfl | rfl | rfl | rfl : L = 0 ∨ L = 1 ∨ L = 2 ∨ L = 3 ∨ L = 4 ∨ L = 5 ∨ L = 6 ∨ L = 7 := by omega
  all_goals simp
theorem accD_val : ∀ (b : List UInt8) (c : Nat), b.length ≤ 8 → c < 18446744073709551616 → accD b c = (c * 256 ^ b.length + valQ b) % 18446744073709551616
  | [], c, _, hc => by
    show c = (c * 1 + 0) % _
    rw [Nat.mul_one, Nat.add_zero, Nat.mod_eq_of_lt hc]
  | x :: r, c, hl, hc => by
    have e : (x :: r).length = r.length + 1 := rfl
    rw [e] at hl ⊢
    show accD r ((c * 256 + x.toNat) % 18446744073709551616) = _
    rw [accD_val r _ (by omega) (Nat.mod_lt _ (by decide)), Nat.pow_succ]
    show _ = (c * (256 ^ r.length * 256) + (x.toNat * 256 ^ r.length + valQ r)) % _
    have hx := x.toNat_lt
    generalize valQ r = v
    generalize x.toNat = y at *
    rcases pows (L := r.length) (by omega) with ⟨_, h⟩ | ⟨_, h⟩ | ⟨_, h⟩ | ⟨_, h⟩ | ⟨_, h⟩ | ⟨_, h⟩ | ⟨_, h⟩ | ⟨_, h⟩ <;> rw [h] <;> omega
theorem intQ_num {b : List UInt8} (h : 1 ≤ b.length ∧ b.length ≤ 8) : intQ b = numD b := by
  have fd : ∀ (x : Int) (k : Nat), x.fdiv (2 ^ k) = x / 2 ^ k := fun x k => Int.fdiv_eq_ediv_of_nonneg x (Int.le_of_lt (Int.pow_pos (by decide)))
  unfold intQ numD
  rw [if_pos h, fd, List.take_of_length_le h.2, accD_val b 0 h.2 (by decide), accD_val b _ h.2 (by split <;> decide)]
  cases b with
  | nil => exact absurd h.1 (by decide)
  | cons x r =>
    have hx := x.toNat_lt
    have hv := valQ_lt r
    have e : (x :: r).length = r.length + 1 := rfl
    rw [e] at h ⊢
    show s64 ((0 * 256 ^ (r.length + 1) + (x.toNat * 256 ^ r.length + valQ r)) % 18446744073709551616 * 2 ^ (64 - 8 * (r.length + 1)) % 18446744073709551616) / 2 ^ (64 - 8 * (r.length + 1)) = s64 (((if 128 ≤ x.toNat then 72057594037927935 else 0) * 256 ^ (r.length + 1) + (x.toNat * 256 ^ r.length + valQ r)) % 18446744073709551616)
    rw [Nat.pow_succ]
    generalize valQ r = v at *
    generalize x.toNat = y at *
    rcases pows (L := r.length) (by omega) with ⟨hl, h⟩ | ⟨hl, h⟩ | ⟨hl, h⟩ | ⟨hl, h⟩ | ⟨hl, h⟩ | ⟨hl, h⟩ | ⟨hl, h⟩ | ⟨hl, h⟩
    all_goals
      rw [h] at hv ⊢
      rw [hl]
      simp only [Nat.reduceAdd, Nat.reduceMul, Nat.reduceSub, Int.reducePow, Nat.reducePow]
      unfold s64
      split <;> split <;> split <;> omega
theorem arcsQ_hi : ∀ (m : Nat) (rest : List UInt8) (l : List Nat), m < 144115188075855872 → arcsQ (hiD m ++ rest) 0 l = arcsQ rest m l := by
  intro m
  induction m using Nat.strongRecOn with
  | _ m ih =>
    intro rest l hm
    by_cases h : m = 0
    · subst h
      rw [hiD, dif_pos rfl]
      rfl
    · rw [hiD, dif_neg h, List.append_assoc, ih (m / 128) (by omega) _ _ (by omega)]
      have hb : (byteD (m % 128 + 128)).toNat = m % 128 + 128 := byteD_nat (by omega)
      show arcsQ (byteD (m % 128 + 128) :: rest) (m / 128) l = _
      rw [arcsQ, hb, if_pos (by omega)]
      congr 1
      omega
theorem arcsQ_group (n : Nat) (rest : List UInt8) (l : List Nat) (hn : n < 144115188075855872) : arcsQ (groupsD n ++ rest) 0 l = arcsQ rest 0 (if l.isEmpty then [min (n / 40) 2, n - 40 * min (n / 40) 2] else l ++ [n]) := by
  unfold groupsD
  rw [List.append_assoc, arcsQ_hi _ _ _ (by omega)]
  have hb : (byteD (n % 128)).toNat = n % 128 := byteD_nat (by omega)
  show arcsQ (byteD (n % 128) :: rest) (n / 128) l = _
  rw [arcsQ, hb, if_neg (by omega), show (n / 128 * 128 + n % 128 % 128) % 18446744073709551616 = n by omega]
theorem arcsQ_rest : ∀ (r : List Nat) (l : List Nat), l ≠ [] → (∀ x ∈ r, x < 2147483648) → arcsQ (r.flatMap groupsD) 0 l = l ++ r
  | [], l, _, _ => by
    show arcsQ [] 0 l = l ++ []
    rw [List.append_nil]
    rfl
  | x :: r, l, hl, hr => by
    rw [List.flatMap_cons, arcsQ_group x _ _ (by have := hr x List.mem_cons_self; omega)]
    have he : l.isEmpty = false := by cases l with | nil => exact absurd rfl hl | cons a b => rfl
    rw [he]
    show arcsQ _ 0 (l ++ [x]) = _
    rw [arcsQ_rest r _ (by simp) (fun y hy => hr y (List.mem_cons_of_mem _ hy)), List.append_assoc]
    rfl
theorem arcsQ_oid {a : List Nat} (h : arcsOk a = true) : arcsQ (oidD a) 0 [] = a := by
  unfold arcsOk at h
  simp only [Bool.and_eq_true, Bool.or_eq_true, decide_eq_true_eq] at h
  obtain ⟨⟨⟨⟨h1, h2⟩, h3⟩, h4⟩, h5⟩ := h
  have hall : ∀ x ∈ a, x < 2147483648 := fun x hx => by simpa using List.all_eq_true.1 h5 x hx
  rcases a with _ | ⟨x, _ | ⟨y, r⟩⟩
  · simp at h1
  · simp at h1
  · simp only [List.getD_cons_zero, List.getD_cons_succ] at h3 h4
    have hy := hall y (by simp)
    unfold oidD
    rw [arcsQ_group _ _ _ (by omega)]
    show arcsQ _ 0 [min ((40 * x + y) / 40) 2, 40 * x + y - 40 * min ((40 * x + y) / 40) 2] = _
    have e : min ((40 * x + y) / 40) 2 = x := by omega
    rw [e, show 40 * x + y - 40 * x = y by omega, arcsQ_rest r _ (by simp) (fun z hz => hall z (by simp [hz]))]
    rfl
/-- THE ROUND TRIP of the loose reader. -/
theorem readQ_pack (u8 : List UInt8 → Bool) : ∀ (d : Nat) (v : DT) (rest : List UInt8), mayD u8 d v = true → (packD d v).length ≤ 65000 → (packD d v).length + rest.length ≤ 1000000000 → readQ d (packD d v ++ rest) = (v, rest)
  | 0, v, rest, h, _, _ => by cases h
  | d + 1, .mk k f n b t a ks, rest, h, hl, hrest => by
    unfold mayD at h
    rw [Bool.and_eq_true] at h
    obtain ⟨ho, hk⟩ := h
    unfold ownD at ho
    simp only [Bool.and_eq_true, decide_eq_true_eq] at ho
    obtain ⟨⟨⟨⟨⟨⟨⟨⟨⟨k1, k10⟩, n1⟩, n2⟩, ha⟩, ht⟩, hn⟩, hks⟩, hf⟩, hb⟩ := ho
    have hn8 : k = 8 → 0 ≤ n ∧ n ≤ 30 := fun e => by
      subst e
      simp at hn
      omega
    have hbt := (tag_of k1 k10 hn8).1
    obtain ⟨hkd, ht0, ht8⟩ := kindQ_tag k1 k10 hn8
    unfold packD at hl hrest ⊢
    generalize hC : contD k f n b t a (ks.flatMap (packD d)) = c at hl hrest ⊢
    have hcl : c.length ≤ 65000 := by rw [head_len] at hl; omega
    rw [head_len] at hrest
    have hkids : ∀ kk ∈ ks, ∀ rest, (packD d kk).length + rest.length ≤ 1000000000 → readQ d (packD d kk ++ rest) = (kk, rest) := fun kk hkk rest hr => by
      refine readQ_pack u8 d kk rest (List.all_eq_true.1 hk kk hkk) ?_ hr
      have h1 := flat_leD (pk := packD d) hkk
      have h2 : (ks.flatMap (packD d)).length ≤ c.length := by
        rw [← hC]
        unfold contD
        rw [List.length_append]
        omega
      omega
    have hne : ∀ kk ∈ ks, 1 ≤ (packD d kk).length := fun kk hkk => by
      rcases pack_len d kk with h0 | h0
      · subst h0
        have := List.all_eq_true.1 hk kk hkk
        cases this
      · omega
    have e1 : numQ (headD (tagD k n) c ++ rest) 1 = ((tagD k n).toNat, lenD c.length ++ (c ++ rest)) := by
      unfold headD
      rw [List.cons_append, numQ_one, hbt, List.append_assoc]
    have e2 := lenQ_len (n := c.length) (by omega) (c ++ rest)
    unfold readQ
    rw [e1]
    dsimp only
    rw [e2]
    dsimp only
    rw [hkd, takeQ_app]
    dsimp only
    have hcases : k = 1 ∨ k = 2 ∨ k = 3 ∨ k = 4 ∨ k = 5 ∨ k = 6 ∨ k = 7 ∨ k = 8 ∨ k = 9 ∨ k = 10 := by omega
    have kids_ : c = ks.flatMap (packD d) → kidsOfQ (readQ d) (c ++ rest) (c.length : Int) (decide (d = 0)) = (ks, rest) := fun e => by
      unfold kidsOfQ
      have hlen : (((c ++ rest).length : Nat) : Int) - (c.length : Int) = (rest.length : Int) := by rw [List.length_append]; omega
      rw [hlen]
      by_cases h0 : d = 0
      · subst h0
        have hz : ks = [] := by
          cases ks with
          | nil => rfl
          | cons kk r =>
            have := List.all_eq_true.1 hk kk List.mem_cons_self
            cases this
        subst hz
        subst e
        rw [if_pos (.inr (.inr (.inr rfl)))]
        rfl
      · rw [decide_eq_false h0, if_neg (by rintro (h | h | h | h) <;> first | omega | cases h), Int.toNat_natCast, e]
        -- as much as there is
        have gen : ∀ (ks2 : List DT) (f : Nat), (∀ kk ∈ ks2, kk ∈ ks) → (ks2.flatMap (packD d)).length ≤ f → (ks2.flatMap (packD d)).length + rest.length ≤ 1000000000 → kidsRQ (readQ d) f rest.length (ks2.flatMap (packD d) ++ rest) = (ks2, rest) := by
          intro ks2
          induction ks2 with
          | nil =>
            intro f _ _ _
            cases f with
            | zero => rfl
            | succ f =>
              show (if rest.length < rest.length then _ else _) = _
              rw [if_neg (by omega)]
              rfl
          | cons kk r ih =>
            intro f hin hf hm
            rw [List.flatMap_cons] at hf hm ⊢
            rw [List.length_append] at hf hm
            have h1 := hne kk (hin kk List.mem_cons_self)
            obtain ⟨f, rfl⟩ : ∃ g, f = g + 1 := ⟨f - 1, by omega⟩
            have hr := hkids kk (hin kk List.mem_cons_self) (r.flatMap (packD d) ++ rest) (by rw [List.length_append]; omega)
            unfold kidsRQ
            rw [List.append_assoc, hr, if_pos (by simp only [List.length_append]; omega)]
            dsimp only
            rw [ih f (fun x hx => hin x (List.mem_cons_of_mem _ hx)) (by omega) (by omega)]
        exact gen ks _ (fun _ h => h) (by rw [List.length_append]; omega) (by rw [← e]; omega)
    rcases hcases with rfl | rfl | rfl | rfl | rfl | rfl | rfl | rfl | rfl | rfl
    · rw [if_neg (by decide), ht0 (by decide)]
      simp at ha ht hn hks hb
      obtain rfl := ha; obtain rfl := ht; obtain rfl := hn; obtain rfl := hks; obtain rfl := hb
      subst hC
      cases f <;> rfl
    · rw [if_neg (by decide)]
      simp at ha ht hks hb hf
      obtain rfl := ha; obtain rfl := ht; obtain rfl := hks; obtain rfl := hb; obtain rfl := hf
      have e : c = wholeD n := by rw [← hC]; simp [contD]
      have hs := size_pos n
      show (DT.mk 2 false (intQ c) [] [] [] [], rest) = _
      rw [e, intQ_num (by unfold wholeD; rw [be_len]; exact hs), num_whole n1 n2]
    · rw [if_neg (by decide), ht0 (by decide)]
      simp at ha ht hn hks hf
      obtain rfl := ha; obtain rfl := ht; obtain rfl := hn; obtain rfl := hks; obtain rfl := hf
      have e : c = 0 :: b := by rw [← hC]; simp [contD]
      rw [e]
      show (DT.mk 3 false 0 ((0 :: b).drop (min 1 (b.length + 1))) [] [] [], rest) = _
      rw [Nat.min_eq_left (by omega)]
      rfl
    · rw [if_neg (by decide), ht0 (by decide)]
      simp at ha ht hn hks hf
      obtain rfl := ha; obtain rfl := ht; obtain rfl := hn; obtain rfl := hks; obtain rfl := hf
      have e : c = b := by rw [← hC]; simp [contD]
      rw [e]
      rfl
    · rw [if_neg (by decide), ht0 (by decide)]
      simp at ha ht hn hks hb hf
      obtain rfl := ht; obtain rfl := hn; obtain rfl := hks; obtain rfl := hb; obtain rfl := hf
      have e : c = oidD a := by rw [← hC]; simp [contD]
      show (DT.mk 5 false 0 [] [] (arcsQ c 0 []) [], rest) = _
      rw [e, arcsQ_oid ha]
    · rw [if_neg (by decide), ht0 (by decide)]
      simp at ha ht hn hks hb hf
      obtain rfl := ha; obtain rfl := hn; obtain rfl := hks; obtain rfl := hb; obtain rfl := hf
      have e : c = t := by rw [← hC]; simp [contD]
      rw [e]
      rfl
    · rw [if_pos (by decide), ht0 (by decide)]
      simp at ha ht hn hks hb hf
      obtain rfl := ha; obtain rfl := ht; obtain rfl := hn; obtain rfl := hb; obtain rfl := hf
      rw [kids_ (by rw [← hC]; simp [contD])]
    · rw [if_pos (by decide), ht8 rfl]
      simp at ha ht hks hb hf
      obtain rfl := ha; obtain rfl := ht; obtain rfl := hb; obtain rfl := hf
      rw [kids_ (by rw [← hC]; simp [contD])]
    · rw [if_pos (by decide), ht0 (by decide)]
      simp at ha ht hn hks hb hf
      obtain rfl := ha; obtain rfl := ht; obtain rfl := hn; obtain rfl := hb; obtain rfl := hf
      rw [kids_ (by rw [← hC]; simp [contD])]
    · rw [if_neg (by decide), ht0 (by decide)]
      simp at ha ht hn hks hb hf
      obtain rfl := ha; obtain rfl := hn; obtain rfl := hks; obtain rfl := hb; obtain rfl := hf
      have e : c = t := by rw [← hC]; simp [contD]
      rw [e]
      rfl
/-- What is left is less. -/
theorem takeQ_le (l : List UInt8) (n : Int) : (takeQ l n).2.length ≤ l.length ∧ (takeQ l n).1.length + (takeQ l n).2.length ≤ l.length := by
  unfold takeQ
  split
  · rw [List.length_drop, List.length_take]
    omega
  · simp
theorem numQ_le (l : List UInt8) (n : Int) : (numQ l n).2.length ≤ l.length := by
  unfold numQ
  split
  · exact (takeQ_le l n).1
  · exact Nat.zero_le _
theorem numQ_lt {l : List UInt8} (h : 0 < l.length) : (numQ l 1).2.length < l.length := by
  cases l with
  | nil => exact absurd h (by decide)
  | cons x r =>
    rw [numQ_one]
    exact Nat.lt_succ_self _
theorem lenQ_le (l : List UInt8) : (lenQ l).2.length ≤ l.length := by
  unfold lenQ
  split
  · exact Nat.le_trans (numQ_le _ _) (numQ_le _ _)
  · exact numQ_le _ _
theorem kidsRQ_le (rd : List UInt8 → DT × List UInt8) (h : ∀ l, (rd l).2.length ≤ l.length) : ∀ (f e : Nat) (l : List UInt8), (kidsRQ rd f e l).2.length ≤ l.length
  | 0, _, _ => Nat.le_refl _
  | f + 1, e, l => by
    unfold kidsRQ
    split
    · exact Nat.le_trans (kidsRQ_le rd h f e _) (h l)
    · exact Nat.le_refl _
theorem kidsOfQ_le (rd : List UInt8 → DT × List UInt8) (h : ∀ l, (rd l).2.length ≤ l.length) (l : List UInt8) (n : Int) (s : Bool) : (kidsOfQ rd l n s).2.length ≤ l.length := by
  unfold kidsOfQ
  split
  · exact Nat.le_refl _
  · exact kidsRQ_le rd h _ _ _
theorem readQ_le : ∀ (d : Nat) (l : List UInt8), (readQ d l).2.length ≤ l.length
  | 0, _ => Nat.le_refl _
  | d + 1, l => by
    unfold readQ
    split
    · exact Nat.le_trans (kidsOfQ_le _ (readQ_le d) _ _ _) (Nat.le_trans (lenQ_le _) (numQ_le _ _))
    · exact Nat.le_trans (takeQ_le _ _).1 (Nat.le_trans (lenQ_le _) (numQ_le _ _))
theorem readQ_lt (d : Nat) {l : List UInt8} (h : 0 < l.length) : (readQ (d + 1) l).2.length < l.length := by
  unfold readQ
  have h1 := numQ_lt h
  split
  · exact Nat.lt_of_le_of_lt (Nat.le_trans (kidsOfQ_le _ (readQ_le d) _ _ _) (lenQ_le _)) h1
  · exact Nat.lt_of_le_of_lt (Nat.le_trans (takeQ_le _ _).1 (lenQ_le _)) h1
end Go.Proofs.YtonhkclkddobhaaDoor
namespace Go.Proofs.YtonhkclkddobhaaDoor
set_option linter.unusedVariables false
set_option linter.unusedSimpArgs false
set_option maxRecDepth 100000
open Go Go.RowKit
theorem zeros_rb (n : Nat) : zeros n = rb n (fun _ => 0) := by
  show List.replicate n 0 = (List.range n).map (fun _ => 0)
  rw [List.map_const', List.length_range]
section
variable {P : Program} {n : Nat} {w0 w w' : World} {a : Act} {e : Env} {h h' : Hep} {Q : Exit → Act → World → Prop} {ops : Array Oper} {rest : List Oper} {o : Oper}
theorem made_bytes {x y : Operand} {n' : Nat} {m : Nat} (ho : o.op = .makeSlice 23 x y) (hx : sev e x = some (.int .i64 (m : Int))) (hy : sev e y = some (.int .i64 (m : Int))) (hm : m ≤ 281474976710656) : ∀ a w, St n' w0 a w e h → (execOp a.eval o).run Tryd.prog w = .ok (.value ((fun g => .slice (some ⟨g, 0, none⟩) m m) w.heap.size)) (w.alloc (.cells (bvs (rb m (fun _ => 0))) 5)) := fun a w H => by
  unfold execOp
  simp only [ho, H.ev hx, H.ev hy, Sem.run_bind, run_mkb (P := Tryd.prog) 23 5 Tryd.underlying23 u8_info m hm w, Result.andThen_ok, Sem.run_pure, zeros_rb]
theorem ob_make0 {x y : Operand} {m : Nat} (H : St n w0 a w e h) (hw : ∀ a w, St n w0 a w e h → Region.wanted o (yielded ops a.tmps) = true) (ho : o.op = .makeSlice 23 x y) (hx : sev e x = some (.int .i64 0)) (hy : sev e y = some (.int .i64 (m : Int))) (hm : m ≤ 100000000) : ObS Tryd.prog ops Q o a w (OF w0.heap.size h []) := by
  have hb : Blk (w.alloc (.cells (bvs (zeros m)) 5)) w.heap.size 5 (bvs (zeros m)) := Blk.new _ _ _
  refine ob_runR H hw ⟨.slice (some ⟨w.heap.size, 0, none⟩) 0 m, w.alloc (.cells (bvs (zeros m)) 5), ?_, (Below.refl _ _).alloc (Nat.le_refl _) _, ?_, ?_⟩
  · simp [execOp, ho, H.ev hx, H.ev hy, run_mkb0 (P := Tryd.prog) 23 5 Tryd.underlying23 u8_info m (by omega) w, Result.andThen]
  · exact ⟨rfl, .inr ⟨w.heap.size, m, bvs (zeros m), rfl, H.below.size, hb, Nat.zero_le _, by simp only [maxLen]; omega, by simp [bvs, zeros], rfl⟩⟩
  · intro g hg p hp
    injection hg with hg
    have : g = w.heap.size := hg.symm
    rw [this]
    exact Nat.ne_of_lt (H.heap p hp).lt
end
theorem dvD_pow (n : Nat) : ∀ k, dvD n k = n / 256 ^ k
  | 0 => by rw [Nat.pow_zero, Nat.div_one]; rfl
  | k + 1 => by
    show dvD n k / 256 = _
    rw [dvD_pow n k, Nat.div_div_eq_div_mul, Nat.pow_succ]
theorem ud_shrD {n k : Nat} (hk : k ≤ 8) (p q : Operand) (W : World) : (do eqGuard .shr 36 p q (.int .u64 (n : Int)) (.int .i64 ((8 * k : Nat) : Int)); binOp .shr 36 (.int .u64 (n : Int)) (.int .i64 ((8 * k : Nat) : Int)) : Sem Value).run Tryd.prog W = .ok (.int .u64 ((dvD n k : Nat) : Int)) W := by
  have e1 : ((n : Int)) / (2 ^ (8 * k)) = ((dvD n k : Nat) : Int) := by
    rw [dvD_pow, show (256 : Nat) = 2 ^ 8 from rfl, ← Nat.pow_mul]
    push_cast
    rfl
  obtain ⟨s, hs⟩ : ∃ s, 8 * k = s := ⟨_, rfl⟩
  rw [hs] at e1 ⊢
  have h1 : (0 : Int) ≤ (s : Int) := by omega
  have h2 : (s : Int) ≤ 64 := by omega
  go_simp
  all_goals exact e1
theorem cv_u8m (x : Nat) (W : World) : (convert 36 5 (.int .u64 (x : Int))).run Tryd.prog W = .ok (bv (byteD (x % 256))) W := by
  have e : IntKind.u8.wrap (x : Int) = (((byteD (x % 256)).toNat : Nat) : Int) := by
    rw [byteD_nat (Nat.mod_lt _ (by decide)), IntKind.wrap_u8']
    omega
  unfold bv
  go_simp
/-- What a number's bytes are, put from behind, behind k rounds. -/
def putF (n s k : Nat) : Nat → UInt8 := fun j => if s ≤ j + k then byteD (dvD n (s - 1 - j) % 256) else 0
def updF (f : Nat → UInt8) (i : Nat) (x : UInt8) : Nat → UInt8 := fun j => if j = i then x else f j
theorem putF_succ {n s k : Nat} (h : k < s) : updF (putF n s k) (s - 1 - k) (byteD (dvD n k % 256)) = putF n s (k + 1) := by
  funext j
  unfold updF putF
  by_cases h1 : s ≤ j + k
  · rw [if_neg (by omega), if_pos h1, if_pos (by omega)]
  · by_cases h2 : j = s - 1 - k
    · rw [if_pos h2, if_pos (by omega), show s - 1 - j = k by omega]
    · rw [if_neg h2, if_neg h1, if_neg (by omega)]
theorem putF_0 {n s : Nat} : rb s (putF n s 0) = rb s (fun _ => 0) := rb_ext fun i hi => by
  unfold putF
  rw [if_neg (by omega)]
theorem beD_get : ∀ (s n j : Nat), j < s → (beD s n)[j]? = some (byteD (dvD n (s - 1 - j) % 256))
  | s + 1, n, j, h => by
    rw [be_cons]
    cases j with
    | zero => rfl
    | succ j =>
      rw [List.singleton_append, List.getElem?_cons_succ, beD_get s n j (by omega)]
      congr 4
      omega
theorem putF_end (n s : Nat) : rb s (putF n s s) = beD s n := by
  refine List.ext_getElem? fun j => ?_
  by_cases h : j < s
  · rw [rb_get h, beD_get s n j h]
    unfold putF
    rw [if_pos (by omega)]
  · rw [List.getElem?_eq_none (by rw [rb_len]; omega), List.getElem?_eq_none (by rw [be_len]; omega)]
theorem ia_ownB {j n c g : Nat} (hj : j < n) (W : World) : (Instr.indexAt 23 (.slice (some ⟨g, 0, none⟩) n c) (.int .i64 (j : Int))).run Tryd.prog W = .ok (.pointer (some ⟨g, j, none⟩)) W := by
  have h1 : (0 : Int) ≤ (j : Int) := by omega
  have h2 : (j : Int) < (n : Int) := by omega
  go_simp
theorem st_ownB {g j n : Nat} {f : Nat → UInt8} {x : UInt8} (hj : j < n) (W : World) (h : Blk W g 5 (bvs (rb n f))) : (Instr.storeAt 5 (.pointer (some ⟨g, j, none⟩)) (bv x)).run Tryd.prog W = .ok () (W.setCells g j [bv x]) :=
  st_u8c (x := f j) (by rw [bvs_get, rb_get hj]; rfl) W h
theorem sv_ownB {n j : Nat} {f : Nat → UInt8} {x : UInt8} (hj : j < n) : setV (bvs (rb n f)) j [bv x] = bvs (rb n (updF f j x)) := by
  show (bvs (rb n f)).setIfInBounds j (bv x) = _
  unfold bv
  rw [bvs_set]
  congr 1
  refine List.ext_getElem? fun i => ?_
  rw [List.getElem?_set]
  by_cases h : i < n
  · rw [rb_get h, rb_get h]
    unfold updF
    by_cases e : i = j
    · subst e
      rw [if_pos rfl, if_pos (by rw [rb_len]; exact h), if_pos rfl]
    · rw [if_neg (fun h => e h.symm), if_neg e]
  · rw [List.getElem?_eq_none (l := rb n (updF f j x)) (by rw [rb_len]; omega), List.getElem?_eq_none (l := rb n f) (by rw [rb_len]; omega)]
    split
    · rw [if_neg (by rw [rb_len]; omega)]
    · rfl
/-- A word with bits of a byte at its lowest place. -/
theorem ud_shl8 (n : Nat) (p q : Operand) (W : World) : (do eqGuard .shl 36 p q (.int .u64 (n : Int)) (.int .u64 8); binOp .shl 36 (.int .u64 (n : Int)) (.int .u64 8) : Sem Value).run Tryd.prog W = .ok (.int .u64 ((n * 256 % 18446744073709551616 : Nat) : Int)) W := by
  have e : IntKind.u64.wrap ((n : Int) * 256) = (n : Int) * 256 % 18446744073709551616 := by
    have e1 : ∀ x : Int, IntKind.u64.wrap x = x % 18446744073709551616 := fun x => by simp [IntKind.wrap, IntKind.bits, IntKind.signed]
    rw [e1]
  go_simp
theorem nat_or {k x c : Nat} (hx : x < c) (h2 : ∃ s, c = 2 ^ s) : (k * c) ||| x = k * c + x := by
  obtain ⟨s, rfl⟩ := h2
  rw [Nat.mul_comm, Nat.two_pow_add_eq_or_of_lt hx]
theorem ud_or {k x c m : Nat} (h2 : ∃ s, c = 2 ^ s) (hx : x < c) (hm : m = k * c) (hr : m + x < 18446744073709551616) (p q : Operand) (W : World) : (do eqGuard .or 36 p q (.int .u64 (m : Int)) (.int .u64 (x : Int)); binOp .or 36 (.int .u64 (m : Int)) (.int .u64 (x : Int)) : Sem Value).run Tryd.prog W = .ok (.int .u64 ((m + x : Nat) : Int)) W := by
  have e0 : m ||| x = m + x := by rw [hm]; exact nat_or hx h2
  have e : bits .or .u64 (m : Int) (x : Int) = (m : Int) + (x : Int) := by
    rw [u64_or_nat _ _ (by omega) (by omega), e0]
    omega
  clear hm
  go_simp
theorem cv_bU {x : Nat} (hx : x < 18446744073709551616) (W : World) : (convert 5 36 (.int .u8 (x : Int))).run Tryd.prog W = .ok (.int .u64 (x : Int)) W := by
  have e : IntKind.u64.wrap (x : Int) = (x : Int) := IntWalk.u64_in _ (by omega)
  go_simp
def posQ (L : List (List UInt8)) (k : Nat) : Nat := ((L.take k).flatten).length
theorem posQ_succ {L : List (List UInt8)} {k : Nat} {l : List UInt8} (h : L[k]? = some l) : posQ L (k + 1) = posQ L k + l.length := by
  unfold posQ
  rw [List.take_add_one, h]
  simp
theorem posQ_le (L : List (List UInt8)) (k : Nat) : posQ L k ≤ L.flatten.length := by
  unfold posQ
  conv => rhs; rw [← List.take_append_drop k L, List.flatten_append, List.length_append]
  omega
theorem flat_succ {L : List (List UInt8)} {k : Nat} {l : List UInt8} (h : L[k]? = some l) : (L.take (k + 1)).flatten = (L.take k).flatten ++ l := by
  rw [List.take_add_one, h]
  simp
theorem ia_rowsQ {A : Option Addr} {j n c o g : Nat} (hA : A = some ⟨g, o, none⟩) (hj : j < n) (W : World) : (Instr.indexAt 77 (.slice A n c) (.int .i64 (j : Int))).run Tryd.prog W = .ok (.pointer (some ⟨g, o + j, none⟩)) W := by
  subst hA
  have h1 : (0 : Int) ≤ (j : Int) := by omega
  have h2 : (j : Int) < (n : Int) := by omega
  go_simp
theorem ld_slQ {g f : Nat} {A : Option Addr} {n c : Nat} (W : World) (hc : W.cell? ⟨g, f, none⟩ = some (.slice A n c)) : (Instr.loadAt 23 (.pointer (some ⟨g, f, none⟩))).run Tryd.prog W = .ok (.slice A n c) W := by go_simp
theorem ov_new {w : World} {g k B : Nat} {l : List UInt8} (hb : Blk w g 5 (bvs l)) (hl : l.length = k) (hk : k ≤ maxLen) (hB : B ≤ g) : OwnB w B 5 (.slice (some ⟨g, 0, none⟩) k k) l := by
  subst hl
  exact ⟨by simp, .inr ⟨g, l.length, bvs l, rfl, hB, hb, Nat.le_refl _, hk, by rw [bvs_size, Nat.mul_one], by unfold bvs; rw [List.take_of_length_le (by simp)]⟩⟩
theorem acc_take {l : List UInt8} {k : Nat} (h : k < l.length) : accD (l.take (k + 1)) 0 = accD (l.take k) 0 * 256 % 18446744073709551616 + (l.getD k 0).toNat := by
  have e : l[k]? = some (l.getD k 0) := by rw [List.getD_eq_getElem?_getD, List.getElem?_eq_getElem h]; rfl
  rw [List.take_add_one, e, Option.toList_some]
  unfold accD
  rw [List.foldl_append]
  show (_ * 256 + (l.getD k 0).toNat) % 18446744073709551616 = _
  have hx := (l.getD k 0).toNat_lt
  omega
attribute [local irreducible] bvs bv byteD dvD beD putF updF rb
theorem does_nilCheckQ {P : Program} {n : Nat} {w0 : World} {e : Env} {h : Hep} {Q : Exit → Act → World → Prop} {o : Oper} {x : Operand} {g f : Nat} (ho : o.op = .nilCheck x) (hx : sev e x = some (.pointer (some ⟨g, f, none⟩))) : Does P Q n w0 e h o (.pointer (some ⟨g, f, none⟩)) := does_run fun a w H => by
  simp [execOp, ho, H.ev hx, Result.andThen]
set_option maxHeartbeats 4000000 in
theorem equal_walk {Aa Ab : Option Addr} {na ca nb cb : Nat} {la lb : List UInt8} (w : World) (hva : BF la (.slice Aa na ca) w) (hvb : BF lb (.slice Ab nb cb) w) : Calls Tryd.prog 17 #[.slice Aa na ca, .slice Ab nb cb] w (fun rr w' => rr = .returned (.bool (decide (la = lb))) ∧ Below w.heap.size w w') := by
  refine calls_st (vs := [.slice Aa na ca, .slice Ab nb cb]) 10 Tryd.func17 rfl Tryd.ntmps17 rfl (fun a W H => ?_)
  replace H : St 10 w a W [(0, .slice Aa na ca), (1, .slice Ab nb cb)] [] := H
  refine sqR H gs0 fun Z_ z_ => rS 1 rfl <| rN0 z_ ?_
  try clear H a W
  intro a W H
  refine sqR H gs0 fun Z_ z_ => rS 1 rfl <| rOV rfl (fun a W H _ => ob_strD H (wanted_none rfl) rfl rfl (bf_old hva H)) <| rS 1 rfl <| rOV rfl (fun a W H _ => ob_strD H (wanted_none rfl) rfl rfl (bf_old hvb H)) <| rV rfl (does_binOp rfl rfl rfl (sd_eql (l := la) (m := lb) rfl _ _)) <| rK [1, 1, 1, 1, 1, 0] [] [] <| rS 1 rfl <| rK [1, 0, 0, 0, 0, 0, 0, 0] [] [] <| rN0 z_ ?_
  try clear H a W
  intro a W H
  refine wp_ret ?_
  repeat (first | (with_reducible refine then_ret ?_) | (with_reducible refine blk_ret ?_))
  refine end_tmp (p := 4) rfl rfl H (fun hb => ?_)
  exact ⟨rfl, hb⟩
theorem equalB_any {w : World} {la lb : List UInt8} {u v : Value} (hu : BF la u w) (hv : BF lb v w) : Calls Tryd.prog 17 #[u, v] w (fun r W' => r = .returned (.bool (decide (la = lb))) ∧ Below w.heap.size w W') := by
  obtain ⟨A, n, c, rfl, h⟩ := hu
  obtain ⟨A2, n2, c2, rfl, h2⟩ := hv
  exact equal_walk w ⟨_, _, _, rfl, h⟩ ⟨_, _, _, rfl, h2⟩
set_option maxHeartbeats 4000000 in
theorem room_any (n s : Nat) (w : World) (hs : 1 ≤ s ∧ s ≤ 8) (hn : dvD n s = 0) : Calls Tryd.prog 49 #[.int .u64 ((n : Nat) : Int), .int .i64 ((s : Nat) : Int)] w (fun rr w' => rr = .returned (.bool true) ∧ Below w.heap.size w w') := by
  refine calls_st (vs := [.int .u64 ((n : Nat) : Int), .int .i64 ((s : Nat) : Int)]) 18 Tryd.func49 rfl Tryd.ntmps49 rfl (fun a W H => ?_)
  replace H : St 18 w a W [(0, .int .u64 ((n : Nat) : Int)), (1, .int .i64 ((s : Nat) : Int))] [] := H
  refine sqR H gs0 fun Z_ z_ => rS 1 rfl <| rN0 z_ ?_
  try clear H a W
  intro a W H
  refine sqR H gs0 fun Z_ z_ => rS 1 rfl <| rV rfl (does_binOp rfl rfl rfl (zd_geq_int (k := ((s : Nat) : Int)) (m := 1) (decide_eq_true (by omega)) _ _)) <| rS 2 rfl <| rV rfl (does_binOp rfl rfl rfl (zd_leq_int (k := ((s : Nat) : Int)) (m := 8) (decide_eq_true (by omega)) _ _)) <| rS 4 rfl <| rV rfl (does_binOp rfl rfl rfl (zd_mul8 (k := s) (by omega) _ _)) <| rV rfl (does_binOp rfl rfl rfl (ud_shrD (n := n) (k := s) (by omega) _ _)) <| rV rfl (does_binOp rfl rfl rfl (zd_eql_u64 (k := ((dvD n s : Nat) : Int)) (m := 0) (decide_eq_true (by omega)) _ _)) <| rS 1 rfl <| rK [1, 1, 1, 1, 1, 1, 1, 1, 1, 1, 1, 1, 1, 0] [] [] <| rS 1 rfl <| rK [1, 0, 0, 0, 0, 0, 0, 0, 0, 0, 0, 0, 0, 0, 0, 0] [] [] <| rN0 z_ ?_
  try clear H a W
  intro a W H
  refine wp_ret ?_
  repeat (first | (with_reducible refine then_ret ?_) | (with_reducible refine blk_ret ?_))
  refine end_tmp (p := 4) rfl rfl H (fun hb => ?_)
  exact ⟨rfl, hb⟩
set_option maxHeartbeats 4000000 in
theorem put_walk (n s : Nat) (w : World) (hs : 1 ≤ s ∧ s ≤ 8) (hn : dvD n s = 0) : Calls Tryd.prog 37 #[.int .u64 ((n : Nat) : Int), .int .i64 ((s : Nat) : Int)] w (fun rr w' => ∃ g, rr = .returned (.tuple #[.slice (some ⟨g, 0, none⟩) s s, .int .i64 0]) ∧ Below w.heap.size w w' ∧ Blk w' g 5 (bvs (beD s n)) ∧ w.heap.size ≤ g) := by
  refine calls_st (vs := [.int .u64 ((n : Nat) : Int), .int .i64 ((s : Nat) : Int)]) 31 Tryd.func37 rfl Tryd.ntmps37 rfl (fun a W H => ?_)
  replace H : St 31 w a W [(0, .int .u64 ((n : Nat) : Int)), (1, .int .i64 ((s : Nat) : Int))] [] := H
  refine sqR H gs0 fun Z_ z_ => rS 2 rfl <| rN0 z_ ?_
  try clear H a W
  intro a W H
  refine wp_seq_k (fun K2 hK2 => ?_)
  refine sqR H gs0 fun Z_ z_ => rS 2 rfl <| rV rfl (does_call rfl ⟨_, Tryd.func49, by kernel_rfl⟩ rfl (fun W hb => room_any n s W hs hn)) <| rS 1 rfl <| rK [1, 0, 0, 0] [] [] <| rN0 z_ ?_
  try clear H a W
  intro a W H
  refine wp_cond_false (H.ev rfl) ?_
  refine wp_skip ?_
  refine hK2 _ _ ?_
  clear hK2
  refine sqR H gs0 fun Z_ z_ => rS 1 rfl <| rM (F := fun g => .slice (some ⟨g, 0, none⟩) s s) rfl (made_bytes (m := s) rfl rfl rfl (by omega)) fun g1 => rS 1 rfl <| rK [1, 0, 0, 0] [] [] <| rN0 z_ ?_
  try clear H a W
  intro a W H
  refine wp_seq_k (fun K5 hK5 => ?_)
  refine sqR H gs0 fun Z_ z_ => rS 2 rfl <| rN0 z_ ?_
  try clear H a W
  intro a W H
  replace H : St 31 w a W [(15, .int .i64 0), (14, .int .i64 ((s : Nat) : Int)), (6, .slice (some ⟨g1, 0, none⟩) s s), (5, .int .i64 0), (4, .slice none 0 0), (0, .int .u64 ((n : Nat) : Int)), (1, .int .i64 ((s : Nat) : Int))] [(g1, 5, bvs (rb s (putF n s 0)))] := by rw [putF_0]; exact H
  refine wp_block ?_
  replace H : St 31 w a W [(15, .int .i64 ((0 : Nat) : Int)), (14, .int .i64 ((s : Nat) : Int)), (6, .slice (some ⟨g1, 0, none⟩) s s), (5, .int .i64 0), (4, .slice none 0 0), (0, .int .u64 ((n : Nat) : Int)), (1, .int .i64 ((s : Nat) : Int))] [(g1, 5, bvs (rb s (putF n s 0)))] := H.pick [0, 1, 2, 3, 4, 5, 6] [0] rfl
  refine wp_rounds s (fun k a W => St 31 w a W [(15, .int .i64 ((k : Nat) : Int)), (14, .int .i64 ((s : Nat) : Int)), (6, .slice (some ⟨g1, 0, none⟩) s s), (5, .int .i64 0), (4, .slice none 0 0), (0, .int .u64 ((n : Nat) : Int)), (1, .int .i64 ((s : Nat) : Int))] [(g1, 5, bvs (rb s (putF n s k)))]) (k0 := 0) H (by omega) ?_
  try clear H a W
  intro k a W hk H
  by_cases hk2 : k < s
  · refine sqR H gs0 fun Z_ z_ => rV rfl (does_binOp rfl rfl rfl (zd_lss_int (k := ((k : Nat) : Int)) (m := ((s : Nat) : Int)) (decide_eq_true (by omega)) _ _)) <| rN0 z_ ?_
    try clear H a W
    intro a W H
    refine cdT H rfl ?_
    refine wp_seq_k (fun K8 hK8 => ?_)
    refine wp_block ?_
    refine sqR H gs0 fun Z_ z_ => rS 2 rfl <| rN0 z_ ?_
    try clear H a W
    intro a W H
    refine rgP H gs0 (rS 2 rfl <| rV rfl (does_binOp rfl rfl rfl (zd_sub_int (k := ((s : Nat) : Int)) (m := 1) (c := ((s - 1 : Nat) : Int)) (by omega) (by omega) _ _)) <| rS 1 rfl <| rV rfl (does_binOp rfl rfl rfl (zd_sub_int (k := ((s - 1 : Nat) : Int)) (m := ((k : Nat) : Int)) (c := ((s - 1 - k : Nat) : Int)) (by omega) (by omega) _ _)) <| rS 2 rfl <| rV rfl (does_binOp rfl rfl rfl (zd_mul8 (k := k) (by omega) _ _)) <| rV rfl (does_binOp rfl rfl rfl (ud_shrD (n := n) (k := k) (by omega) _ _)) <| rV rfl (does_convert rfl rfl (cv_u8m _)) <| rV rfl (does_indexAddr rfl rfl rfl (ia_ownB (j := s - 1 - k) (by omega))) <| rX [1] (c := bvs (rb s (updF (putF n s k) (s - 1 - k) (byteD (dvD n k % 256))))) ⟨rfl, rfl⟩ rfl rfl rfl (st_ownB (by omega)) (sv_ownB (by omega)) <| rZ0 ?_)
    try clear H a W
    intro a W H
    refine blk_normal ?_
    refine hK8 _ _ ?_
    clear hK8
    refine rgP H gs0 (rV rfl (does_binOp rfl rfl rfl (zd_add_int (k := ((k : Nat) : Int)) (m := 1) (c := ((k + 1 : Nat) : Int)) (by omega) (by omega) _ _)) <| rK [1, 1, 1, 1, 1, 1, 1, 1, 1, 1, 1, 1, 1, 1, 1, 0] [] [] <| rS 1 rfl <| rZ0 ?_)
    try clear H a W
    intro a W H
    refine ⟨k + 1, by omega, by omega, ?_⟩
    show St 31 w a W [(15, .int .i64 ((k + 1 : Nat) : Int)), (14, .int .i64 ((s : Nat) : Int)), (6, .slice (some ⟨g1, 0, none⟩) s s), (5, .int .i64 0), (4, .slice none 0 0), (0, .int .u64 ((n : Nat) : Int)), (1, .int .i64 ((s : Nat) : Int))] [(g1, 5, bvs (rb s (putF n s (k + 1))))]
    rw [← putF_succ (show k < s by omega)]
    exact H.pick [0, 16, 17, 18, 19, 20, 21] [0] rfl
  · obtain rfl : s = k := by omega
    refine sqR H gs0 fun Z_ z_ => rV rfl (does_binOp rfl rfl rfl (zd_lss_int (k := ((s : Nat) : Int)) (m := ((s : Nat) : Int)) (decide_eq_false (by omega)) _ _)) <| rK [1, 1, 0] [] [] <| rN0 z_ ?_
    try clear H a W
    intro a W H
    refine wp_seq_k (fun K11 hK11 => ?_)
    refine wp_cond_false (H.ev rfl) ?_
    refine wp_exit ?_
    repeat (with_reducible refine then_exit ?_)
    refine blk_exit ?_
    refine hK5 _ _ ?_
    clear hK5
    refine sqR H gs0 fun Z_ z_ => rS 1 rfl <| rK [1, 1, 1, 1, 1, 0] [] [] <| rS 1 rfl <| rK [1, 1, 1, 1, 1, 0] [] [] <| rS 1 rfl <| rK [1, 1, 0, 0, 0, 0, 0, 0] [] [] <| rN0 z_ ?_
    try clear H a W
    intro a W H
    refine wp_ret ?_
    repeat (first | (with_reducible refine then_ret ?_) | (with_reducible refine blk_ret ?_))
    refine end_tmps2 (p := 4) (q := 5) rfl rfl rfl H (fun hb => ?_)
    exact ⟨_, rfl, hb, by rw [← putF_end]; exact H.blk (k := 0) rfl, H.own _ (List.mem_iff_getElem?.2 ⟨0, rfl⟩)⟩
def getE (l : List UInt8) : Value := if 1 ≤ l.length ∧ l.length ≤ 8 then .tuple #[.int .u64 ((accD l 0 : Nat) : Int), .int .i64 0] else .tuple #[.int .u64 0, .int .i64 2]
theorem getE_yes {l : List UInt8} (h : 1 ≤ l.length ∧ l.length ≤ 8) : getE l = .tuple #[.int .u64 ((accD l 0 : Nat) : Int), .int .i64 0] := if_pos h
theorem getE_no {l : List UInt8} (h : ¬ (1 ≤ l.length ∧ l.length ≤ 8)) : getE l = .tuple #[.int .u64 0, .int .i64 2] := if_neg h
set_option maxHeartbeats 4000000 in
theorem get_walk {Ab : Option Addr} {nb cb gb ob : Nat} {lb : List UInt8} (w : World) (hFb : BF lb (.slice Ab nb cb) w) (hlb : lb.length = nb) (hnb : nb < 9223372036854775808) (hbb : 0 < nb → Ab = some ⟨gb, ob, none⟩ ∧ gb < w.heap.size ∧ ∀ i, i < nb → w.cell? ⟨gb, ob + i, none⟩ = some (.int .u8 (((lb.getD i 0).toNat : Nat) : Int))) : Calls Tryd.prog 38 #[.slice Ab nb cb] w (fun rr w' => rr = .returned (getE lb) ∧ Below w.heap.size w w') := by
  refine calls_st (vs := [.slice Ab nb cb]) 28 Tryd.func38 rfl Tryd.ntmps38 rfl (fun a W H => ?_)
  replace H : St 28 w a W [(0, .slice Ab nb cb)] [] := H
  refine sqR H gs0 fun Z_ z_ => rS 2 rfl <| rN0 z_ ?_
  try clear H a W
  intro a W H
  refine wp_seq_k (fun K2 hK2 => ?_)
  refine wp_seq_k (fun K3 hK3 => ?_)
  cases hq1 : decide (((nb : Nat) : Int) < 1) with
  | true =>
    have hq1p := of_decide_eq_true hq1
    refine rgP H gs0 (rS 1 rfl <| rV rfl (does_len Tryd.underlying23 rfl rfl) <| rV rfl (does_binOp rfl rfl rfl (zd_lss_int (k := ((nb : Nat) : Int)) (m := 1) hq1 _ _)) <| rS 5 rfl <| rK [1, 0, 0, 0, 0, 0, 0, 0] [] [] <| rZ0 ?_)
    try clear H a W
    intro a W H
    refine hK3 _ _ ?_
    clear hK3
    refine wp_cond_true (H.ev rfl) ?_
    refine sqR H gs0 fun Z_ z_ => rK [1, 1, 0] [] [] <| rS 1 rfl <| rK [1, 1, 0] [] [] <| rS 1 rfl <| rK [1, 1, 0] [] [] <| rN0 z_ ?_
    try clear H a W
    intro a W H
    refine wp_ret ?_
    repeat (first | (with_reducible refine then_ret ?_) | (with_reducible refine blk_ret ?_))
    refine end_tmps2 (p := 2) (q := 3) rfl rfl rfl H (fun hb => ?_)
    exact ⟨by rw [getE_no (by omega)], hb⟩
  | false =>
    have hq1p := of_decide_eq_false hq1
    refine rgP H gs0 (rS 1 rfl <| rV rfl (does_len Tryd.underlying23 rfl rfl) <| rV rfl (does_binOp rfl rfl rfl (zd_lss_int (k := ((nb : Nat) : Int)) (m := 1) hq1 _ _)) <| rS 2 rfl <| rV rfl (does_len Tryd.underlying23 rfl rfl) <| rV rfl (does_binOp rfl rfl rfl (zd_gtr_int (k := ((nb : Nat) : Int)) (m := 8) rfl _ _)) <| rS 1 rfl <| rK [1, 0, 0, 0, 0, 0, 0, 0] [] [] <| rZ0 ?_)
    try clear H a W
    intro a W H
    refine hK3 _ _ ?_
    clear hK3
    cases hq2 : decide (8 < ((nb : Nat) : Int)) with
    | true =>
      rw [hq2] at H
      have hq2p := of_decide_eq_true hq2
      refine wp_cond_true (H.ev rfl) ?_
      refine sqR H gs0 fun Z_ z_ => rK [1, 1, 0] [] [] <| rS 1 rfl <| rK [1, 1, 0] [] [] <| rS 1 rfl <| rK [1, 1, 0] [] [] <| rN0 z_ ?_
      try clear H a W
      intro a W H
      refine wp_ret ?_
      repeat (first | (with_reducible refine then_ret ?_) | (with_reducible refine blk_ret ?_))
      refine end_tmps2 (p := 2) (q := 3) rfl rfl rfl H (fun hb => ?_)
      exact ⟨by rw [getE_no (by omega)], hb⟩
    | false =>
      rw [hq2] at H
      have hq2p := of_decide_eq_false hq2
      refine wp_cond_false (H.ev rfl) ?_
      refine wp_skip ?_
      refine hK2 _ _ ?_
      clear hK2
      refine sqR H gs0 fun Z_ z_ => rS 1 rfl <| rK [1, 0] [] [] <| rN0 z_ ?_
      try clear H a W
      intro a W H
      refine wp_seq_k (fun K7 hK7 => ?_)
      refine sqR H gs0 fun Z_ z_ => rS 1 rfl <| rV rfl (does_len Tryd.underlying23 rfl rfl) <| rS 1 rfl <| rK [1, 1, 1, 1, 1, 1, 0] [] [] <| rN0 z_ ?_
      try clear H a W
      intro a W H
      refine wp_block ?_
      have hnb1 : 1 ≤ nb := by omega
      have hnb8 : nb ≤ 8 := by omega
      replace H : St 28 w a W [(17, .int .i64 ((0 : Nat) : Int)), (4, .int .u64 ((accD (lb.take 0) 0 : Nat) : Int)), (16, .int .i64 ((nb : Nat) : Int)), (15, .slice Ab nb cb), (3, .int .i64 0), (2, .int .u64 0)] [] := H.pick [0, 3, 1, 2, 4, 5] [] rfl
      refine wp_rounds nb (fun k a W => St 28 w a W [(17, .int .i64 ((k : Nat) : Int)), (4, .int .u64 ((accD (lb.take k) 0 : Nat) : Int)), (16, .int .i64 ((nb : Nat) : Int)), (15, .slice Ab nb cb), (3, .int .i64 0), (2, .int .u64 0)] []) (k0 := 0) H (by omega) ?_
      try clear H a W
      intro k a W hk H
      by_cases hk2 : k < nb
      · have hx0 := byt_lt lb k
        have hac : accD (lb.take k) 0 < 18446744073709551616 := accD_lt _ _ (by decide)
        refine sqR H gs0 fun Z_ z_ => rV rfl (does_binOp rfl rfl rfl (zd_lss_int (k := ((k : Nat) : Int)) (m := ((nb : Nat) : Int)) (decide_eq_true (by omega)) _ _)) <| rN0 z_ ?_
        try clear H a W
        intro a W H
        refine cdT H rfl ?_
        refine wp_seq_k (fun K10 hK10 => ?_)
        refine wp_block ?_
        refine sqR H gs0 fun Z_ z_ => rV rfl (does_indexAddr rfl rfl rfl (ia_bytD (j := k) (hbb (by omega)).1 (by omega))) <| rV rfl (does_loadCell (v := .int .u8 (((lb.getD k 0).toNat : Nat) : Int)) rfl rfl ((hbb (by omega)).2.2 k (by omega)) (hbb (by omega)).2.1 ld_bytD) <| rS 1 rfl <| rN0 z_ ?_
        try clear H a W
        intro a W H
        refine rgP H gs0 (rS 1 rfl <| rV rfl (does_binOp rfl rfl rfl (ud_shl8 _ _ _)) <| rS 1 rfl <| rV rfl (does_convert rfl rfl (cv_bU (by omega))) <| rV rfl (does_binOp rfl rfl rfl (ud_or (k := ((accD (lb.take k) 0) * 256 % 18446744073709551616) / 256) (c := 256) (x := (lb.getD k 0).toNat) (m := (accD (lb.take k) 0) * 256 % 18446744073709551616) ⟨8, rfl⟩ (by omega) (by omega) (by omega) _ _)) <| rK [1, 1, 1, 1, 1, 1, 1, 1, 1, 1, 0] [] [] <| rS 1 rfl <| rZ0 ?_)
        try clear H a W
        intro a W H
        refine blk_normal ?_
        refine hK10 _ _ ?_
        clear hK10
        refine rgP H gs0 (rV rfl (does_binOp rfl rfl rfl (zd_add_int (k := ((k : Nat) : Int)) (m := 1) (c := ((k + 1 : Nat) : Int)) (by omega) (by omega) _ _)) <| rK [1, 1, 1, 1, 1, 1, 1, 1, 1, 1, 1, 0] [] [] <| rS 1 rfl <| rZ0 ?_)
        try clear H a W
        intro a W H
        refine ⟨k + 1, by omega, by omega, ?_⟩
        show St 28 w a W [(17, .int .i64 ((k + 1 : Nat) : Int)), (4, .int .u64 ((accD (lb.take (k + 1)) 0 : Nat) : Int)), (16, .int .i64 ((nb : Nat) : Int)), (15, .slice Ab nb cb), (3, .int .i64 0), (2, .int .u64 0)] []
        rw [acc_take (show k < lb.length by omega)]
        exact H.pick [0, 2, 12, 13, 14, 15] [] rfl
      · obtain rfl : nb = k := by omega
        refine sqR H gs0 fun Z_ z_ => rV rfl (does_binOp rfl rfl rfl (zd_lss_int (k := ((nb : Nat) : Int)) (m := ((nb : Nat) : Int)) (decide_eq_false (by omega)) _ _)) <| rK [1, 1, 1, 0] [] [] <| rN0 z_ ?_
        try clear H a W
        intro a W H
        refine wp_seq_k (fun K13 hK13 => ?_)
        refine wp_cond_false (H.ev rfl) ?_
        refine wp_exit ?_
        repeat (with_reducible refine then_exit ?_)
        refine blk_exit ?_
        refine hK7 _ _ ?_
        clear hK7
        refine sqR H gs0 fun Z_ z_ => rS 1 rfl <| rK [1, 1, 1, 1, 1, 1, 0] [] [] <| rS 1 rfl <| rK [1, 1, 1, 1, 1, 1, 0] [] [] <| rS 1 rfl <| rK [1, 1, 0, 0, 0, 0, 0] [] [] <| rN0 z_ ?_
        try clear H a W
        intro a W H
        refine wp_ret ?_
        repeat (first | (with_reducible refine then_ret ?_) | (with_reducible refine blk_ret ?_))
        refine end_tmps2 (p := 2) (q := 3) rfl rfl rfl H (fun hb => ?_)
        exact ⟨by rw [getE_yes (by omega), List.take_of_length_le (by omega)], hb⟩
set_option maxHeartbeats 4000000 in
theorem join_walk {A : Option Addr} {nn cap gp op : Nat} {L : List (List UInt8)} (w : World) (hA : 0 < nn → A = some ⟨gp, op, none⟩ ∧ gp < w.heap.size) (hLn : L.length = nn) (hnn : nn ≤ 1000) (hLl : L.flatten.length ≤ 1000000) (hrs : ∀ (j : Nat) (l : List UInt8), L[j]? = some l → ∃ Aj nj cj, w.cell? ⟨gp, op + j, none⟩ = some (.slice Aj nj cj) ∧ BS w w.heap.size Aj nj cj l) : Calls Tryd.prog 24 #[.slice A nn cap] w (fun rr w' => ∃ v, rr = .returned v ∧ Below w.heap.size w w' ∧ OwnB w' w.heap.size 5 v (L.flatten)) := by
  have hpn := posQ_le L nn
  refine calls_st (vs := [.slice A nn cap]) 33 Tryd.func24 rfl Tryd.ntmps24 rfl (fun a W H => ?_)
  replace H : St 33 w a W [(0, .slice A nn cap)] [] := H
  refine sqR H gs0 fun Z_ z_ => rS 1 rfl <| rN0 z_ ?_
  try clear H a W
  intro a W H
  refine sqR H gs0 fun Z_ z_ => rS 1 rfl <| rN0 z_ ?_
  try clear H a W
  intro a W H
  refine wp_seq_k (fun K3 hK3 => ?_)
  refine sqR H gs0 fun Z_ z_ => rS 1 rfl <| rV rfl (does_len Tryd.underlying77 rfl rfl) <| rS 1 rfl <| rN0 z_ ?_
  try clear H a W
  intro a W H
  refine wp_block ?_
  replace H : St 33 w a W [(11, .int .i64 ((0 : Nat) : Int)), (3, .int .i64 ((posQ L 0 : Nat) : Int)), (10, .int .i64 ((nn : Nat) : Int)), (9, .slice A nn cap), (2, .slice none 0 0), (0, .slice A nn cap)] [] := H.pick [0, 3, 1, 2, 4, 5] [] rfl
  refine wp_rounds nn (fun k a W => St 33 w a W [(11, .int .i64 ((k : Nat) : Int)), (3, .int .i64 ((posQ L k : Nat) : Int)), (10, .int .i64 ((nn : Nat) : Int)), (9, .slice A nn cap), (2, .slice none 0 0), (0, .slice A nn cap)] []) (k0 := 0) H (by omega) ?_
  try clear H a W
  intro k a W hk H
  by_cases hk2 : k < nn
  · obtain ⟨lb, hlk⟩ : ∃ l, L[k]? = some l := ⟨_, List.getElem?_eq_getElem (by omega)⟩
    obtain ⟨Ab, nb, cb, hpart, hbsb⟩ := hrs k lb hlk
    have hFb : BF lb (.slice Ab nb cb) w := ⟨_, _, _, rfl, hbsb⟩
    have hlb := hbsb.len
    have hps := posQ_succ hlk
    have hpl := posQ_le L (k + 1)
    refine sqR H gs0 fun Z_ z_ => rV rfl (does_binOp rfl rfl rfl (zd_lss_int (k := ((k : Nat) : Int)) (m := ((nn : Nat) : Int)) (decide_eq_true (by omega)) _ _)) <| rN0 z_ ?_
    try clear H a W
    intro a W H
    refine cdT H rfl ?_
    refine wp_seq_k (fun K6 hK6 => ?_)
    refine wp_block ?_
    refine sqR H gs0 fun Z_ z_ => rV rfl (does_indexAddr rfl rfl rfl (ia_rowsQ (j := k) (hA (by omega)).1 (by omega))) <| rV rfl (does_loadCell (v := .slice Ab nb cb) rfl rfl hpart (hA (by omega)).2 ld_slQ) <| rS 1 rfl <| rN0 z_ ?_
    try clear H a W
    intro a W H
    refine rgP H gs0 (rS 2 rfl <| rV rfl (does_len Tryd.underlying23 rfl rfl) <| rV rfl (does_binOp rfl rfl rfl (zd_add_int (k := ((posQ L k : Nat) : Int)) (m := ((nb : Nat) : Int)) (c := ((posQ L k + nb : Nat) : Int)) (by omega) (by omega) _ _)) <| rK [1, 1, 1, 1, 1, 1, 1, 1, 1, 0] [] [] <| rS 1 rfl <| rZ0 ?_)
    try clear H a W
    intro a W H
    refine blk_normal ?_
    refine hK6 _ _ ?_
    clear hK6
    refine rgP H gs0 (rV rfl (does_binOp rfl rfl rfl (zd_add_int (k := ((k : Nat) : Int)) (m := 1) (c := ((k + 1 : Nat) : Int)) (by omega) (by omega) _ _)) <| rK [1, 1, 1, 1, 1, 1, 1, 1, 1, 1, 0] [] [] <| rS 1 rfl <| rZ0 ?_)
    try clear H a W
    intro a W H
    refine ⟨k + 1, by omega, by omega, ?_⟩
    show St 33 w a W [(11, .int .i64 ((k + 1 : Nat) : Int)), (3, .int .i64 ((posQ L (k + 1) : Nat) : Int)), (10, .int .i64 ((nn : Nat) : Int)), (9, .slice A nn cap), (2, .slice none 0 0), (0, .slice A nn cap)] []
    rw [hps, hlb]
    exact H.pick [0, 2, 11, 12, 13, 14] [] rfl
  · obtain rfl : nn = k := by omega
    refine sqR H gs0 fun Z_ z_ => rV rfl (does_binOp rfl rfl rfl (zd_lss_int (k := ((nn : Nat) : Int)) (m := ((nn : Nat) : Int)) (decide_eq_false (by omega)) _ _)) <| rK [1, 1, 1, 0] [] [] <| rN0 z_ ?_
    try clear H a W
    intro a W H
    refine wp_seq_k (fun K9 hK9 => ?_)
    refine wp_cond_false (H.ev rfl) ?_
    refine wp_exit ?_
    repeat (with_reducible refine then_exit ?_)
    refine blk_exit ?_
    refine hK3 _ _ ?_
    clear hK3
    refine wp_seq_k (fun K10 hK10 => ?_)
    refine rgP H gs0 (rS 1 rfl <| rI0 ?_)
    try clear H a W
    intro a W H
    refine pl_R (R := SB) (F := OF w.heap.size [] []) sb_st (ob_make0 (m := posQ L nn) H (wanted_none rfl) rfl rfl rfl (by omega)) rfl rfl rfl H ?_
    try clear H a W
    intro v21 a W hv21 hR_ H
    clear hR_
    refine rgO H (gsC hv21 gs0) (rS 1 rfl <| rK [1, 0, 0, 0, 0, 0, 0] [] [] <| rZ ?_)
    try clear hv21 H a W
    rintro a W H ⟨hv21, -⟩
    refine hK10 _ _ ?_
    clear hK10
    refine wp_seq_k (fun K11 hK11 => ?_)
    refine sqR H (gsC hv21 gs0) fun Z_ z_ => rS 1 rfl <| rV rfl (does_len Tryd.underlying77 rfl rfl) <| rS 1 rfl <| rK [1, 1, 1, 1, 1, 0] [] [] <| rN z_ ?_
    try clear hv21 H a W
    rintro a W H ⟨hv21, -⟩
    refine wp_block ?_
    replace H : St 33 w a W [(24, .int .i64 ((0 : Nat) : Int)), (6, v21), (23, .int .i64 ((nn : Nat) : Int)), (22, .slice A nn cap), (2, .slice none 0 0)] [] := H.pick [0, 3, 1, 2, 4] [] rfl
    refine wp_rounds nn (fun k a W => ∃ vo, OF w.heap.size [] (L.take k).flatten vo W ∧ St 33 w a W [(24, .int .i64 ((k : Nat) : Int)), (6, vo), (23, .int .i64 ((nn : Nat) : Int)), (22, .slice A nn cap), (2, .slice none 0 0)] []) (k0 := 0) (show ∃ vo, OF w.heap.size [] (L.take 0).flatten vo W ∧ St 33 w a W [(24, .int .i64 ((0 : Nat) : Int)), (6, vo), (23, .int .i64 ((nn : Nat) : Int)), (22, .slice A nn cap), (2, .slice none 0 0)] [] from ⟨_, hv21, H⟩) (by omega) ?_
    try clear H a W
    intro k a W hk H_
    obtain ⟨vo, hout, H⟩ := H_
    by_cases hk2 : k < nn
    · obtain ⟨lb, hlk⟩ : ∃ l, L[k]? = some l := ⟨_, List.getElem?_eq_getElem (by omega)⟩
      obtain ⟨Ab, nb, cb, hpart, hbsb⟩ := hrs k lb hlk
      have hFb : BF lb (.slice Ab nb cb) w := ⟨_, _, _, rfl, hbsb⟩
      have hlb := hbsb.len
      have hps := posQ_succ hlk
      have hpl := posQ_le L (k + 1)
      refine sqR H (gsC hout gs0) fun Z_ z_ => rV rfl (does_binOp rfl rfl rfl (zd_lss_int (k := ((k : Nat) : Int)) (m := ((nn : Nat) : Int)) (decide_eq_true (by omega)) _ _)) <| rN z_ ?_
      try clear hout H a W
      rintro a W H ⟨hout, -⟩
      refine cdT H rfl ?_
      refine wp_seq_k (fun K14 hK14 => ?_)
      refine wp_block ?_
      refine sqR H (gsC hout gs0) fun Z_ z_ => rV rfl (does_indexAddr rfl rfl rfl (ia_rowsQ (j := k) (hA (by omega)).1 (by omega))) <| rV rfl (does_loadCell (v := .slice Ab nb cb) rfl rfl hpart (hA (by omega)).2 ld_slQ) <| rS 1 rfl <| rN z_ ?_
      try clear hout H a W
      rintro a W H ⟨hout, -⟩
      refine rgP H (gsC hout gs0) (rS 2 rfl <| rI ?_)
      try clear hout H a W
      rintro a W H ⟨hout, -⟩
      refine pl_R (R := (WR w.heap.size [])) (F := OF w.heap.size [] ((L.take k).flatten ++ lb)) wr_st (ob_appW H (wanted_none rfl) rfl rfl rfl hout (bf_old hFb H) (by have hlen_ : ((L.take k).flatten).length = posQ L k := rfl; omega)) rfl rfl rfl H ?_
      try clear H a
      intro v30 a W hv30 hR_ H
      clear hR_
      replace H : St 33 w a W [(30, v30), (29, .slice Ab nb cb), (28, vo), (8, .slice Ab nb cb), (27, .slice Ab nb cb), (26, .pointer (some ⟨gp, op + k, none⟩)), (25, .bool true), (24, .int .i64 ((k : Nat) : Int)), (6, vo), (23, .int .i64 ((nn : Nat) : Int)), (22, .slice A nn cap), (2, .slice none 0 0)] [] := H
      refine rgO H (gsC hv30 gs0) (rK [1, 1, 1, 1, 1, 1, 1, 1, 0] [] [] <| rS 1 rfl <| rZ ?_)
      try clear hv30 H a W
      rintro a W H ⟨hv30, -⟩
      refine blk_normal ?_
      refine hK14 _ _ ?_
      clear hK14
      refine rgP H (gsC hv30 gs0) (rV rfl (does_binOp rfl rfl rfl (zd_add_int (k := ((k : Nat) : Int)) (m := 1) (c := ((k + 1 : Nat) : Int)) (by omega) (by omega) _ _)) <| rK [1, 1, 1, 1, 1, 1, 1, 1, 1, 0] [] [] <| rS 1 rfl <| rZ ?_)
      try clear hv30 H a W
      rintro a W H ⟨hv30, -⟩
      refine ⟨k + 1, by omega, by omega, ?_⟩
      show ∃ vo, OF w.heap.size [] (L.take (k + 1)).flatten vo W ∧ St 33 w a W [(24, .int .i64 ((k + 1 : Nat) : Int)), (6, vo), (23, .int .i64 ((nn : Nat) : Int)), (22, .slice A nn cap), (2, .slice none 0 0)] []
      refine ⟨_, (by rw [flat_succ hlk]; exact hv30), ?_⟩
      exact H.pick [0, 2, 10, 11, 12] [] rfl
    · obtain rfl : nn = k := by omega
      refine sqR H (gsC hout gs0) fun Z_ z_ => rV rfl (does_binOp rfl rfl rfl (zd_lss_int (k := ((nn : Nat) : Int)) (m := ((nn : Nat) : Int)) (decide_eq_false (by omega)) _ _)) <| rK [1, 1, 1, 0] [] [] <| rN z_ ?_
      try clear hout H a W
      rintro a W H ⟨hout, -⟩
      refine wp_seq_k (fun K17 hK17 => ?_)
      refine wp_cond_false (H.ev rfl) ?_
      refine wp_exit ?_
      repeat (with_reducible refine then_exit ?_)
      refine blk_exit ?_
      refine hK11 _ _ ?_
      clear hK11
      refine sqR H (gsC hout gs0) fun Z_ z_ => rS 1 rfl <| rK [1, 1, 1, 1, 1, 0] [] [] <| rS 1 rfl <| rK [1, 0, 0, 0, 0, 0] [] [] <| rN z_ ?_
      try clear hout H a W
      rintro a W H ⟨hout, -⟩
      refine wp_ret ?_
      repeat (first | (with_reducible refine then_ret ?_) | (with_reducible refine blk_ret ?_))
      refine end_tmp (p := 2) rfl rfl H (fun hb => ?_)
      exact ⟨_, rfl, hb, by rw [show L.flatten = (L.take nn).flatten by rw [List.take_of_length_le (by omega)]]; exact hout.1⟩
theorem join_any {w : World} {L : List (List UInt8)} {v : Value} (hv : RF L v w) (h1 : L.length ≤ 1000) (h2 : L.flatten.length ≤ 1000000) : Calls Tryd.prog 24 #[v] w (fun r W' => ∃ v, r = .returned v ∧ Below w.heap.size w W' ∧ OwnB W' w.heap.size 5 v L.flatten) := by
  obtain ⟨A, n, c, rfl, hr⟩ := hv
  have hn := hr.len
  by_cases h0 : 0 < n
  · obtain ⟨b, o, e, hb, hc⟩ := hr.at_ h0
    exact join_walk (gp := b) (op := o) w (fun _ => ⟨e, hb⟩) hn (by omega) h2 hc
  · have hL : L = [] := List.eq_nil_of_length_eq_zero (by omega)
    subst hL
    exact join_walk (gp := 0) (op := 0) w (fun h => absurd h h0) hn (by omega) h2 (fun j l h => by simp at h)
theorem get_any {w : World} {l : List UInt8} {v : Value} (hv : BF l v w) : l.length < 9223372036854775808 → Calls Tryd.prog 38 #[v] w (fun r W' => r = .returned (getE l) ∧ Below w.heap.size w W') := fun hlen => by
  obtain ⟨A, n, c, rfl, hb⟩ := hv
  have hl := hb.len
  obtain ⟨g, o, hbb⟩ := hb.nat (Nat.le_refl _)
  exact get_walk w ⟨_, _, _, rfl, hb⟩ hl (by omega) hbb
theorem put_any (n s : Nat) (w : World) (hs : 1 ≤ s ∧ s ≤ 8) (hn : dvD n s = 0) : Calls Tryd.prog 37 #[.int .u64 (n : Int), .int .i64 (s : Int)] w (fun rr w' => ∃ v, rr = .returned (.tuple #[v, .int .i64 0]) ∧ Below w.heap.size w w' ∧ OwnB w' w.heap.size 5 v (beD s n)) := by
  refine (put_walk n s w hs hn).mono ?_
  rintro rr w' ⟨g, rfl, hb, hB, hg⟩
  exact ⟨_, rfl, hb, ov_new hB (be_len _ _) (by simp only [maxLen]; omega) hg⟩
end Go.Proofs.YtonhkclkddobhaaDoor
namespace Go.Proofs.YtonhkclkddobhaaDoor
set_option linter.unusedVariables false
set_option linter.unusedSimpArgs false
set_option maxRecDepth 100000
open Go Go.RowKit
theorem wp_scope_rounds {P : Program} {a : Act} {w : World} {Q : Exit → Act → World → Prop} {c rest : Code} (l N : Nat) (I : Nat → Act → World → Prop) (hf : findLabel c l = some rest)
    (first : c.wp P (Exit.jump l (fun a w => ∃ k, k ≤ N ∧ I k a w) Q) a w)
    (pass : ∀ k a w, k ≤ N → I k a w → rest.wp P (Exit.jump l (fun a' w' => ∃ k', k < k' ∧ k' ≤ N ∧ I k' a' w') Q) a w) : (Code.scope c).wp P Q a w := by
  have hex : ∀ (q : Act × World), ∃ m : Nat, (∃ k, k ≤ N ∧ I k q.1 q.2) → (∃ k, k ≤ N ∧ I k q.1 q.2 ∧ N - k = m) ∧ ∀ k, k ≤ N → I k q.1 q.2 → m ≤ N - k := by
    intro q
    by_cases hq : ∃ k, k ≤ N ∧ I k q.1 q.2
    · obtain ⟨k, h1, h2⟩ := hq
      obtain ⟨m, ⟨j, hj1, hj2, hj3⟩, hmin⟩ := least (p := fun m => ∃ k, k ≤ N ∧ I k q.1 q.2 ∧ N - k = m) (N - k) ⟨k, h1, h2, rfl⟩
      exact ⟨m, fun _ => ⟨⟨j, hj1, hj2, hj3⟩, fun i hi1 hi2 => hmin _ ⟨i, hi1, hi2, rfl⟩⟩⟩
    · exact ⟨0, fun h => absurd h hq⟩
  obtain ⟨μ, hμ⟩ := Classical.axiomOfChoice hex
  refine wp_scope_jumps l (fun a w => ∃ k, k ≤ N ∧ I k a w) (fun a w => μ (a, w)) hf first (fun a w hI => ?_)
  obtain ⟨⟨k, hk1, hk2, hk3⟩, _⟩ := hμ (a, w) hI
  refine Go.wp_mono (pass k a w hk1 hk2) fun e a' w' h => ?_
  cases e with
  | goto l' =>
    obtain ⟨h1, k', h2, h3, h4⟩ := h
    refine ⟨h1, ⟨k', h3, h4⟩, ?_⟩
    have := (hμ (a', w') ⟨k', h3, h4⟩).2 k' h3 h4
    show μ (a', w') < μ (a, w)
    omega
  | normal => exact h
  | exit id => exact h
  | ret => exact h
  | panic ch => exact h
  | outgrown => exact h
theorem jump_ret {l : Nat} {J : Act → World → Prop} {Q : Exit → Act → World → Prop} {a : Act} {w : World} (h : Q .ret a w) : Exit.jump l J Q .ret a w := h
theorem jump_goto {l : Nat} {J : Act → World → Prop} {Q : Exit → Act → World → Prop} {a : Act} {w : World} (h : J a w) : Exit.jump l J Q (.goto l) a w := ⟨rfl, h⟩
theorem then_goto {l : Nat} {next : Act → World → Prop} {Q : Exit → Act → World → Prop} {a : Act} {w : World} (h : Q (.goto l) a w) : Exit.then next Q (.goto l) a w := h
def TF (l : List UInt8) (E : Value) (v : Value) (w : World) : Prop := ∃ u, v = .tuple #[u, E] ∧ BF l u w
instance {l : List UInt8} {E v : Value} : Lasts (TF l E v) := ⟨fun w w' ⟨u, e, h⟩ hb => ⟨u, e, h.below hb⟩⟩
theorem rTF {P : Program} {n d : Nat} {w0 : World} {Q : Exit → Act → World → Prop} {ops : Array Oper} {l : List Oper} {e : Env} {h : Hep} {G : List (World → Prop)} {m : List UInt8} {E : Value} (next : ∀ u, Rn P n w0 Q ops l ((d, .tuple #[u, E]) :: e) h (BF m u :: G)) : ∀ v, Rn P n w0 Q ops l ((d, v) :: e) h (TF m E v :: G) := fun v a w H g => by
  obtain ⟨⟨u, rfl, hu⟩, g⟩ := g
  exact next u a w H ⟨hu, g⟩
theorem own_bf {w : World} {B : Nat} {v : Value} {l : List UInt8} (h : OwnB w B 5 v l) : BF l v w := by
  have e : w.ownsRow B 5 1 v l.length (l.map bv) := h
  rcases e.2 with ⟨rfl, h0⟩ | ⟨g, cap, cur, rfl, _, hb, h1, h2, h3, h4⟩
  · obtain rfl : l = [] := List.eq_nil_of_length_eq_zero h0
    exact BF.nil _
  · exact ⟨_, _, _, rfl, rfl, h1, (by intro e; cases e), fun _ => ⟨g, 0, rfl, (show Blk w g 5 cur from hb).lt, fun j x hx => by
      have hb' : Blk w g 5 cur := hb
      rw [Nat.zero_add, hb'.cell, ← Array.getElem?_toList]
      have hj : (cur.toList.take (l.length * 1))[j]? = some (bv x) := by rw [h4, List.getElem?_map, hx]; rfl
      rw [List.getElem?_take] at hj
      split at hj
      · exact hj
      · cases hj⟩⟩
theorem put_tf (n s : Nat) (w : World) (hs : 1 ≤ s ∧ s ≤ 8) (hn : dvD n s = 0) : Calls Tryd.prog 37 #[.int .u64 (n : Int), .int .i64 (s : Int)] w (fun rr w' => ∃ t, rr = .returned t ∧ Below w.heap.size w w' ∧ TF (beD s n) (.int .i64 0) t w') := by
  refine (put_any n s w hs hn).mono ?_
  rintro rr w' ⟨v, rfl, hb, ho⟩
  exact ⟨_, rfl, hb, v, rfl, own_bf ho⟩
theorem flat1 (a : List UInt8) : [a].flatten = a := by simp
theorem flat2 (a b : List UInt8) : [a, b].flatten = a ++ b := by simp
theorem flat3 (a b c : List UInt8) : [a, b, c].flatten = a ++ (b ++ c) := by simp
section
variable {n : Nat} {w0 w w' : World} {a : Act} {e : Env} {h : Hep} {Q : Exit → Act → World → Prop} {ops : Array Oper} {o : Oper}
/-- What is behind so many of bytes. -/
theorem ob_dropB {x y : Operand} {v : Value} {l : List UInt8} {k : Nat} (H : St n w0 a w e h) (hw : ∀ a w, St n w0 a w e h → Region.wanted o (yielded ops a.tmps) = true) (ho : o.op = .slice 23 x (some y) none none) (hx : sev e x = some v) (hy : sev e y = some (.int .i64 (k : Int))) (hv : BF l v w) (hk : k ≤ l.length) : ObS Tryd.prog ops Q o a w (BF (l.drop k)) := by
  obtain ⟨A, m, c, rfl, hb⟩ := hv
  have hlen := hb.len
  have hu : Tryd.prog.underlying 23 = some (.slice (Tryd.prog.elem 23)) := by kernel_rfl
  obtain ⟨A', h1, h2⟩ := BS.tail (P := Tryd.prog) 23 5 Tryd.underlying23 u8_info hb (k := k) (by omega)
  have h3 : (Instr.sliceAt 23 (.slice A m c) (some (.int .i64 (k : Int))) none none).run Tryd.prog w = .ok (.slice A' (m - k) (c - k)) w := by
    rw [run_sliceAt_slice w 23 _ _ _ _ hu]
    exact h1 w
  refine ob_runR H hw ⟨_, w, ?_, Below.refl _ _, _, _, _, rfl, h2⟩
  unfold execOp
  simp only [ho, Option.map_some, Option.map_none, H.ev hx, H.ev hy, Sem.run_bind, h3, Result.andThen_ok, Sem.run_pure]
end
def gsD (n : Nat) : Nat → Nat
  | 0 => n
  | k + 1 => gmD n k
theorem gsD_div (n k : Nat) : gsD n k / 128 = gmD n k := by cases k <;> rfl
theorem gsD_lt {n : Nat} (h : n < 18446744073709551616) : ∀ k, gsD n k < 18446744073709551616
  | 0 => h
  | k + 1 => gmD_lt h k
theorem ud_and127 (n : Nat) (hn : n < 18446744073709551616) (p q : Operand) (W : World) : (do eqGuard .and 36 p q (.int .u64 (n : Int)) (.int .u64 127); binOp .and 36 (.int .u64 (n : Int)) (.int .u64 127) : Sem Value).run Tryd.prog W = .ok (.int .u64 ((n % 128 : Nat) : Int)) W := by
  have e0 : n &&& 127 = n % 128 := Nat.and_two_pow_sub_one_eq_mod n 7
  have e : bits .and .u64 (n : Int) 127 = (n : Int) % 128 := by
    have := u64_and_nat n 127 hn (by decide)
    rw [e0] at this
    simpa using this
  go_simp
theorem ud_shr7 (n : Nat) (p q : Operand) (W : World) : (do eqGuard .shr 36 p q (.int .u64 (n : Int)) (.int .u64 7); binOp .shr 36 (.int .u64 (n : Int)) (.int .u64 7) : Sem Value).run Tryd.prog W = .ok (.int .u64 ((n / 128 : Nat) : Int)) W := by
  go_simp
theorem bd_or128 {x : Nat} (hx : x < 128) (p q : Operand) (W : World) : (do eqGuard .or 5 p q (bv (byteD x)) (.int .u8 128); binOp .or 5 (bv (byteD x)) (.int .u8 128) : Sem Value).run Tryd.prog W = .ok (bv (byteD (x + 128))) W := by
  have e0 : x ||| 128 = x + 128 := by
    rw [Nat.or_comm]
    have := nat_or (k := 1) (x := x) (c := 128) hx ⟨7, rfl⟩
    rw [Nat.one_mul] at this
    omega
  have e : bits .or .u8 (x : Int) 128 = (x : Int) + 128 := by
    have := u8_or_nat x 128 (by omega) (by decide)
    rw [e0] at this
    simpa using this
  unfold bv
  rw [byteD_nat (by omega), byteD_nat (by omega)]
  go_simp
def tabQ (k : Nat) : Nat := ([0, 1, 2, 3, 4, 6, 12, 48, 160, 49, 24] : List Nat).getD k 0
/-- The table of tags, as the program's text lays it. -/
structure PGt (w : World) : Prop where
  lt : 0 < w.heap.size
  cell : ∀ i, i < 11 → w.cell? ⟨0, i, none⟩ = some (.int .u8 ((tabQ i : Nat) : Int))
theorem PGt.ext {w w' : World} (h : PGt w) (hb : Below w.heap.size w w') : PGt w' := ⟨Nat.lt_of_lt_of_le h.lt hb.size, fun i hi => (hb.cell (p := ⟨0, i, none⟩) h.lt).trans (h.cell i hi)⟩
theorem ia_tabQ {k : Int} (h0 : 0 ≤ k) (h1 : k < 11) (W : World) : (Instr.indexAt 78 (.pointer (some ⟨0, 0, none⟩)) (.int .i64 k)).run Tryd.prog W = .ok (.pointer (some ⟨0, k.toNat, none⟩)) W := by
  obtain ⟨j, rfl⟩ := Int.eq_ofNat_of_zero_le h0
  have h2 : (j : Int) < (11 : Int) := h1
  rw [Int.toNat_natCast]
  go_simp
theorem ld_tabQ {f x : Nat} (W : World) (hc : W.cell? ⟨0, f, none⟩ = some (.int .u8 (x : Int))) : (Instr.loadAt 5 (.pointer (some ⟨0, f, none⟩))).run Tryd.prog W = .ok (.int .u8 (x : Int)) W := by go_simp
theorem tab_tag {k n : Int} (h0 : 1 ≤ k) (h1 : k ≤ 10) (h8 : k ≠ 8) : ((tabQ k.toNat : Nat) : Int) = (((byteD (tagD k n).toNat).toNat : Nat) : Int) := by
  obtain rfl | rfl | rfl | rfl | rfl | rfl | rfl | rfl | rfl : k = 1 ∨ k = 2 ∨ k = 3 ∨ k = 4 ∨ k = 5 ∨ k = 6 ∨ k = 7 ∨ k = 9 ∨ k = 10 := by omega
  all_goals rfl
theorem cv_i8 {n : Int} (h : 0 ≤ n ∧ n < 256) (W : World) : (convert 2 5 (.int .i64 n)).run Tryd.prog W = .ok (.int .u8 n) W := by
  have e : IntKind.u8.wrap n = n := by
    rw [IntKind.wrap_u8']
    omega
  go_simp
theorem bd_or160 {n : Int} (h0 : 0 ≤ n) (h1 : n ≤ 30) (p q : Operand) (W : World) : (do eqGuard .or 5 p q (.int .u8 ((tabQ 8 : Nat) : Int)) (.int .u8 n); binOp .or 5 (.int .u8 ((tabQ 8 : Nat) : Int)) (.int .u8 n) : Sem Value).run Tryd.prog W = .ok (bv (byteD (tagD 8 n).toNat)) W := by
  obtain ⟨j, rfl⟩ := Int.eq_ofNat_of_zero_le h0
  have hj : j ≤ 30 := by omega
  have e8 : tagD 8 (j : Int) = ((160 + j : Nat) : Int) := by
    unfold tagD
    rw [if_pos rfl, Int.tmod_eq_emod_of_nonneg h0]
    omega
  have e0 : 160 ||| j = 160 + j := nat_or (k := 5) (x := j) (c := 32) (by omega) ⟨5, rfl⟩
  have e : bits .or .u8 160 (j : Int) = 160 + (j : Int) := by
    have := u8_or_nat 160 j (by decide) (by omega)
    rw [e0] at this
    simpa using this
  rw [show ((tabQ 8 : Nat) : Int) = 160 from rfl, e8, Int.toNat_natCast]
  unfold bv
  rw [byteD_nat (by omega)]
  clear e8
  go_simp
theorem zd_shr8 (n : Nat) (p q : Operand) (W : World) : (do eqGuard .shr 3 p q (.int .i64 (n : Int)) (.int .u64 8); binOp .shr 3 (.int .i64 (n : Int)) (.int .u64 8) : Sem Value).run Tryd.prog W = .ok (.int .i64 ((n / 256 : Nat) : Int)) W := by
  go_simp
theorem cv_iu {n : Nat} (h : n < 9223372036854775808) (W : World) : (convert 3 36 (.int .i64 (n : Int))).run Tryd.prog W = .ok (.int .u64 (n : Int)) W := by
  have e : IntKind.u64.wrap (n : Int) = (n : Int) := IntWalk.u64_in _ (by omega)
  go_simp
theorem dvD_small {n k s : Nat} (hs : 256 ^ s = k) (h : n < k) : dvD n s = 0 := by
  rw [dvD_pow, hs, Nat.div_eq_of_lt h]
theorem or_128 (x : Nat) (h : x = 1 ∨ x = 2) (p q : Operand) (W : World) : (do eqGuard .or 5 p q (.int .u8 128) (bv (byteD x)); binOp .or 5 (.int .u8 128) (bv (byteD x)) : Sem Value).run Tryd.prog W = .ok (bv (byteD (128 + x))) W := by
  rcases h with rfl | rfl <;> kernel_rfl
theorem be_1 (n : Nat) : beD 1 n = [byteD (n % 256)] := rfl
theorem be_2 (n : Nat) : beD 2 n = [byteD (n / 256 % 256), byteD (n % 256)] := rfl
def shQ (n : Int) (k : Nat) : Int := n.fdiv (2 ^ ((k + 1) * 8 - 1))
def sgQ (n : Int) : Int := n.fdiv (2 ^ 63)
theorem sh_ne {n : Int} (hn : -9223372036854775808 ≤ n ∧ n < 9223372036854775808) {k : Nat} (hk : k ≤ 7) : shQ n k ≠ sgQ n ↔ k < 7 ∧ noFit n k := by
  have fd : ∀ (x : Int) (k : Nat), x.fdiv (2 ^ k) = x / 2 ^ k := fun x k => Int.fdiv_eq_ediv_of_nonneg x (Int.le_of_lt (Int.pow_pos (by decide)))
  unfold shQ sgQ noFit pwD
  rw [fd, fd]
  obtain rfl | rfl | rfl | rfl | rfl | rfl | rfl | rfl : k = 0 ∨ k = 1 ∨ k = 2 ∨ k = 3 ∨ k = 4 ∨ k = 5 ∨ k = 6 ∨ k = 7 := by omega
  all_goals
    simp only [Nat.reduceAdd, Nat.reduceMul, Nat.reduceSub, Int.reducePow]
    omega
theorem zd_shrS (n : Int) (p q : Operand) (W : World) : (do eqGuard .shr 2 p q (.int .i64 n) (.int .u64 63); binOp .shr 2 (.int .i64 n) (.int .u64 63) : Sem Value).run Tryd.prog W = .ok (.int .i64 (sgQ n)) W := by
  have e : sgQ n = n / 9223372036854775808 := by
    unfold sgQ
    rw [Int.fdiv_eq_ediv_of_nonneg _ (Int.le_of_lt (Int.pow_pos (by decide)))]
    rfl
  rw [e]
  go_simp
theorem zd_shrI {n : Int} {k : Nat} (hk : k ≤ 7) (p q : Operand) (W : World) : (do eqGuard .shr 2 p q (.int .i64 n) (.int .i64 (((k + 1) * 8 - 1 : Nat) : Int)); binOp .shr 2 (.int .i64 n) (.int .i64 (((k + 1) * 8 - 1 : Nat) : Int)) : Sem Value).run Tryd.prog W = .ok (.int .i64 (shQ n k)) W := by
  have e1 : n / (2 ^ ((k + 1) * 8 - 1)) = shQ n k := by
    unfold shQ
    rw [Int.fdiv_eq_ediv_of_nonneg _ (Int.le_of_lt (Int.pow_pos (by decide)))]
  obtain ⟨s, hs⟩ : ∃ s, (k + 1) * 8 - 1 = s := ⟨_, rfl⟩
  rw [hs] at e1 ⊢
  have h1 : (0 : Int) ≤ (s : Int) := by omega
  have h2 : (s : Int) ≤ 64 := by omega
  go_simp
  all_goals exact e1
theorem zd_mulE {k : Nat} (h : k < 100) (p q : Operand) (W : World) : (do eqGuard .mul 3 p q (.int .i64 (k : Int)) (.int .i64 8); binOp .mul 3 (.int .i64 (k : Int)) (.int .i64 8) : Sem Value).run Tryd.prog W = .ok (.int .i64 ((k * 8 : Nat) : Int)) W := by
  have e : IntKind.i64.wrap ((k : Int) * 8) = (k : Int) * 8 := IntWalk.i64_in _ (by omega)
  go_simp
theorem dvD_m64 (n : Int) : dvD (m64 n) 8 = 0 := dvD_small (k := 18446744073709551616) rfl (m64_lt n)
theorem be_drop (s : Nat) (m : Nat) : ∀ t, (beD (t + s) m).drop t = beD s m
  | 0 => by rw [Nat.zero_add]; rfl
  | t + 1 => by
    rw [show t + 1 + s = (t + s) + 1 by omega, be_cons, List.singleton_append, List.drop_succ_cons, be_drop s m t]
theorem size_endQ {n : Int} {N : Nat} (hpos : ∀ i, i < N → noFit n i) (hend : N = 7 ∨ N < 7 ∧ ¬ noFit n N) : wholeD n = (beD 8 (m64 n)).drop (8 - (N + 1)) := by
  have hN : N ≤ 7 := by omega
  have h := size_end hpos hend
  unfold wholeD
  rw [h]
  have := be_drop (N + 1) (m64 n) (8 - (N + 1))
  rw [show 8 - (N + 1) + (N + 1) = 8 by omega] at this
  exact this.symm
theorem bD_1 : byteD (128 + 1) = 129 := rfl
theorem bD_2 : byteD (128 + 2) = 130 := rfl
attribute [local irreducible] bvs bv byteD dvD beD putF updF rb gmD glD groupsD m64 wholeD shQ sgQ noFit tabQ tagD
set_option maxHeartbeats 4000000 in
theorem dgroups_any (n : Nat) (w : World) (hn : n < 18446744073709551616) : Calls Tryd.prog 48 #[.int .u64 ((n : Nat) : Int)] w (fun rr w' => ∃ v, rr = .returned v ∧ Below w.heap.size w w' ∧ OwnB w' w.heap.size 5 v (groupsD n)) := by
  refine calls_st (vs := [.int .u64 ((n : Nat) : Int)]) 21 Tryd.func48 rfl Tryd.ntmps48 rfl (fun a W H => ?_)
  replace H : St 21 w a W [(0, .int .u64 ((n : Nat) : Int))] [] := H
  refine sqR H gs0 fun Z_ z_ => rS 1 rfl <| rN0 z_ ?_
  try clear H a W
  intro a W H
  obtain ⟨N, hN10, hpos, hz⟩ := gl_rounds hn
  refine wp_scope_rounds 0 N (fun k a W => ∃ vo, OF w.heap.size [] (glD n k) vo W ∧ St 21 w a W [(0, .int .u64 ((gsD n k : Nat) : Int)), (3, vo)] []) rfl ?_ ?_
  · have hN0 : 0 ≤ N := Nat.zero_le _
    refine sqR H gs0 fun Z_ z_ => rS 1 rfl <| rV rfl (does_binOp rfl rfl rfl (ud_and127 n (by omega) _ _)) <| rV rfl (does_convert rfl rfl (cv_uD (by omega))) <| rO rfl (fun a W H _ => ob_byteOF (x := (byteD (n % 128))) H (wanted_none rfl) rfl rfl) fun v7 => rS 1 rfl <| rK [1, 0, 0, 0, 0] [] [] <| rN z_ ?_
    try clear H a W
    rintro a W H ⟨hv7, -⟩
    refine wp_seq_k (fun K_ hK_ => ?_)
    refine wp_label ?_
    refine hK_ _ _ ?_
    clear hK_
    obtain ⟨vo, hout, H⟩ : ∃ vo, OF w.heap.size [] (glD n 0) vo W ∧ St 21 w a W [(0, .int .u64 ((gsD n 0 : Nat) : Int)), (3, vo)] [] := ⟨_, (by rw [glD_0]; exact hv7), H.pick [2, 0] [] rfl⟩
    by_cases hk2 : 0 < N
    · have hp_ := hpos 0 hk2
      have hdv_ := gsD_div n 0
      have hlt_ := gsD_lt hn 0
      refine wp_seq_k (fun K3 hK3 => ?_)
      refine sqR H (gsC hout gs0) fun Z_ z_ => rS 1 rfl <| rV rfl (does_binOp rfl rfl rfl (ud_shr7 _ _ _)) <| rK [1, 1, 0] [] [] <| rS 1 rfl <| rK [1, 0, 0] [] [] <| rN z_ ?_
      try clear hout H a W
      rintro a W H ⟨hout, -⟩
      refine sqR H (gsC hout gs0) fun Z_ z_ => rS 1 rfl <| rV rfl (does_binOp rfl rfl rfl (zd_gtr_u64 (k := (((gsD n 0) / 128 : Nat) : Int)) (m := 0) (decide_eq_true (by omega)) _ _)) <| rK [1, 0] [] [] <| rN z_ ?_
      try clear hout H a W
      rintro a W H ⟨hout, -⟩
      refine wp_cond_true (H.ev rfl) ?_
      refine sqR H (gsC hout gs0) fun Z_ z_ => rS 1 rfl <| rV rfl (does_binOp rfl rfl rfl (ud_and127 ((gsD n 0) / 128) (by omega) _ _)) <| rV rfl (does_convert rfl rfl (cv_uD (by omega))) <| rV rfl (does_binOp rfl rfl rfl (bd_or128 (by omega) _ _)) <| rO rfl (fun a W H _ => ob_byteOF (x := (byteD (((gsD n 0) / 128) % 128 + 128))) H (wanted_none rfl) rfl rfl) fun v16 => rS 1 rfl <| rO rfl (fun a W H ⟨hv16, hout, _⟩ => ob_rows2S H (wanted_none rfl) rfl rfl rfl hv16.bf hout.bf) fun v18 => rC rfl rfl ⟨_, Tryd.func24, by kernel_rfl⟩ rfl (fun a W H ⟨hv18, hv16, hout, _⟩ => (by have h_ := of_call H (join_any hv18.rf (by simp) (by simp only [List.flatten_cons, List.flatten_nil, List.length_append, List.length_cons, List.length_nil, glD_len]; omega)); rw [flat2] at h_; exact h_)) fun v19 => rK [1, 1, 1, 1, 1, 1, 1, 1, 1, 1, 0] [] [] <| rS 1 rfl <| rK [1, 0, 0, 0, 0, 0, 0, 0, 0, 0] [] [1, 0, 0, 0] <| rN z_ ?_
      try clear hout H a W
      rintro a W H ⟨hv19, -⟩
      refine wp_goto ?_
      repeat (with_reducible refine then_goto ?_)
      refine jump_goto ?_
      refine ⟨1, by omega, _, (by rw [glD_succ, ← gsD_div n 0]; exact hv19), ?_⟩
      rw [show gsD n (0 + 1) = gsD n 0 / 128 from (gsD_div n 0).symm]
      exact H.pick [1, 0] [] rfl
    · obtain rfl : N = 0 := by omega
      have hdv_ := gsD_div n 0
      have hlt_ := gsD_lt hn 0
      refine wp_seq_k (fun K7 hK7 => ?_)
      refine sqR H (gsC hout gs0) fun Z_ z_ => rS 1 rfl <| rV rfl (does_binOp rfl rfl rfl (ud_shr7 _ _ _)) <| rK [1, 1, 0] [] [] <| rS 1 rfl <| rK [1, 0, 0] [] [] <| rN z_ ?_
      try clear hout H a W
      rintro a W H ⟨hout, -⟩
      refine sqR H (gsC hout gs0) fun Z_ z_ => rS 1 rfl <| rV rfl (does_binOp rfl rfl rfl (zd_gtr_u64 (k := (((gsD n 0) / 128 : Nat) : Int)) (m := 0) (decide_eq_false (by omega)) _ _)) <| rK [1, 0] [] [] <| rN z_ ?_
      try clear hout H a W
      rintro a W H ⟨hout, -⟩
      refine wp_cond_false (H.ev rfl) ?_
      refine wp_skip ?_
      refine hK7 _ _ ?_
      clear hK7
      refine sqR H (gsC hout gs0) fun Z_ z_ => rS 2 rfl <| rK [1, 0, 0] [] [] <| rN z_ ?_
      try clear hout H a W
      rintro a W H ⟨hout, -⟩
      refine wp_ret ?_
      repeat (first | (with_reducible refine then_ret ?_) | (with_reducible refine blk_ret ?_) | (with_reducible refine jump_ret ?_))
      refine end_tmp (p := 2) rfl rfl H (fun hb => ?_)
      exact ⟨_, rfl, hb, by rw [← gl_end hpos hz]; exact hout.1⟩
  · intro k a W hk ⟨vo, hout, H⟩
    by_cases hk2 : k < N
    · have hp_ := hpos k hk2
      have hdv_ := gsD_div n k
      have hlt_ := gsD_lt hn k
      refine wp_seq_k (fun K11 hK11 => ?_)
      refine wp_skip ?_
      refine hK11 _ _ ?_
      clear hK11
      refine wp_seq_k (fun K12 hK12 => ?_)
      refine sqR H (gsC hout gs0) fun Z_ z_ => rS 1 rfl <| rV rfl (does_binOp rfl rfl rfl (ud_shr7 _ _ _)) <| rK [1, 1, 0] [] [] <| rS 1 rfl <| rK [1, 0, 0] [] [] <| rN z_ ?_
      try clear hout H a W
      rintro a W H ⟨hout, -⟩
      refine sqR H (gsC hout gs0) fun Z_ z_ => rS 1 rfl <| rV rfl (does_binOp rfl rfl rfl (zd_gtr_u64 (k := (((gsD n k) / 128 : Nat) : Int)) (m := 0) (decide_eq_true (by omega)) _ _)) <| rK [1, 0] [] [] <| rN z_ ?_
      try clear hout H a W
      rintro a W H ⟨hout, -⟩
      refine wp_cond_true (H.ev rfl) ?_
      refine sqR H (gsC hout gs0) fun Z_ z_ => rS 1 rfl <| rV rfl (does_binOp rfl rfl rfl (ud_and127 ((gsD n k) / 128) (by omega) _ _)) <| rV rfl (does_convert rfl rfl (cv_uD (by omega))) <| rV rfl (does_binOp rfl rfl rfl (bd_or128 (by omega) _ _)) <| rO rfl (fun a W H _ => ob_byteOF (x := (byteD (((gsD n k) / 128) % 128 + 128))) H (wanted_none rfl) rfl rfl) fun v16 => rS 1 rfl <| rO rfl (fun a W H ⟨hv16, hout, _⟩ => ob_rows2S H (wanted_none rfl) rfl rfl rfl hv16.bf hout.bf) fun v18 => rC rfl rfl ⟨_, Tryd.func24, by kernel_rfl⟩ rfl (fun a W H ⟨hv18, hv16, hout, _⟩ => (by have h_ := of_call H (join_any hv18.rf (by simp) (by simp only [List.flatten_cons, List.flatten_nil, List.length_append, List.length_cons, List.length_nil, glD_len]; omega)); rw [flat2] at h_; exact h_)) fun v19 => rK [1, 1, 1, 1, 1, 1, 1, 1, 1, 1, 0] [] [] <| rS 1 rfl <| rK [1, 0, 0, 0, 0, 0, 0, 0, 0, 0] [] [1, 0, 0, 0] <| rN z_ ?_
      try clear hout H a W
      rintro a W H ⟨hv19, -⟩
      refine wp_goto ?_
      repeat (with_reducible refine then_goto ?_)
      refine jump_goto ?_
      refine ⟨k + 1, by omega, by omega, _, (by rw [glD_succ, ← gsD_div n k]; exact hv19), ?_⟩
      rw [show gsD n (k + 1) = gsD n k / 128 from (gsD_div n k).symm]
      exact H.pick [1, 0] [] rfl
    · obtain rfl : k = N := by omega
      have hdv_ := gsD_div n k
      have hlt_ := gsD_lt hn k
      refine wp_seq_k (fun K16 hK16 => ?_)
      refine wp_skip ?_
      refine hK16 _ _ ?_
      clear hK16
      refine wp_seq_k (fun K17 hK17 => ?_)
      refine sqR H (gsC hout gs0) fun Z_ z_ => rS 1 rfl <| rV rfl (does_binOp rfl rfl rfl (ud_shr7 _ _ _)) <| rK [1, 1, 0] [] [] <| rS 1 rfl <| rK [1, 0, 0] [] [] <| rN z_ ?_
      try clear hout H a W
      rintro a W H ⟨hout, -⟩
      refine sqR H (gsC hout gs0) fun Z_ z_ => rS 1 rfl <| rV rfl (does_binOp rfl rfl rfl (zd_gtr_u64 (k := (((gsD n k) / 128 : Nat) : Int)) (m := 0) (decide_eq_false (by omega)) _ _)) <| rK [1, 0] [] [] <| rN z_ ?_
      try clear hout H a W
      rintro a W H ⟨hout, -⟩
      refine wp_cond_false (H.ev rfl) ?_
      refine wp_skip ?_
      refine hK17 _ _ ?_
      clear hK17
      refine sqR H (gsC hout gs0) fun Z_ z_ => rS 2 rfl <| rK [1, 0, 0] [] [] <| rN z_ ?_
      try clear hout H a W
      rintro a W H ⟨hout, -⟩
      refine wp_ret ?_
      repeat (first | (with_reducible refine then_ret ?_) | (with_reducible refine blk_ret ?_) | (with_reducible refine jump_ret ?_))
      refine end_tmp (p := 2) rfl rfl H (fun hb => ?_)
      exact ⟨_, rfl, hb, by rw [← gl_end hpos hz]; exact hout.1⟩
set_option maxHeartbeats 4000000 in
theorem tag_walk (x : DH) (w : World) (hpg : PGt w) (hk : 1 ≤ x.k ∧ x.k ≤ 10) (hx8 : x.k = 8 → 0 ≤ x.n ∧ x.n ≤ 30) : Calls Tryd.prog 25 #[.agg (x.cs)] w (fun rr w' => rr = .returned (bv (byteD (tagD x.k x.n).toNat)) ∧ Below w.heap.size w w') := by
  refine calls_st (vs := [.agg (x.cs)]) 18 Tryd.func25 rfl Tryd.ntmps25 rfl (fun a W H => ?_)
  replace H : St 18 w a W [(0, .agg (x.cs))] [] := H
  refine sqR H gs0 fun Z_ z_ => rB rfl rfl rfl (bx_der x) fun g1 => rS 1 rfl <| rK [1, 1, 0] [] [] <| rN0 z_ ?_
  try clear H a W
  intro a W H
  refine wp_seq_k (fun K2 hK2 => ?_)
  refine sqR H gs0 fun Z_ z_ => rV rfl (does_fieldAddr rfl rfl fa_der0) <| rV rfl (does_loadAt (v := .int .i64 x.k) rfl rfl (k := 0) rfl ld_derK) <| rV rfl (does_binOp rfl rfl rfl (zd_eql_derkind (k := x.k) (m := 8) rfl _ _)) <| rK [1, 0, 0] [] [] <| rN0 z_ ?_
  try clear H a W
  intro a W H
  cases hq1 : decide (x.k = 8) with
  | true =>
    rw [hq1] at H
    have hq1p := of_decide_eq_true hq1
    refine wp_cond_true (H.ev rfl) ?_
    refine sqD [.v 6 _ [], .v 7 _ [0], .v 8 _ [1], .v 9 _ [2], .v 10 _ [], .v 11 _ [4], .v 12 _ [5], .v 13 _ [3, 6]] (by kernel_rfl) (by kernel_rfl) H gs0 (fun _ => ⟨oV rfl (does_fieldAddr rfl rfl fa_der0), oV rfl (does_loadAt (v := .int .i64 x.k) rfl rfl (k := 0) rfl ld_derK), oV rfl (does_indexAddr rfl rfl rfl (ia_tabQ (k := x.k) (by omega) (by omega))), oV rfl (does_loadCell (v := .int .u8 ((tabQ x.k.toNat : Nat) : Int)) rfl rfl (hpg.cell x.k.toNat (by omega)) hpg.lt ld_tabQ), oV rfl (does_fieldAddr rfl rfl fa_der2), oV rfl (does_loadAt (v := .int .i64 x.n) rfl rfl (k := 0) rfl ld_derN), oV rfl (does_convert rfl rfl (cv_i8 (by have := hx8 (by omega); omega))), oV rfl (does_binOp rfl rfl rfl (by rw [show x.k = 8 by omega]; exact bd_or160 (hx8 (by omega)).1 (hx8 (by omega)).2 _ _)), trivial⟩) fun Z_ z_ => rK [1, 1, 1, 1, 1, 1, 1, 1, 1, 0] [] [] <| rS 1 rfl <| rK [1, 0, 0, 0, 0, 0, 0, 0, 0, 0] [] [] <| rN0 z_ ?_
    try clear H a W
    intro a W H
    refine wp_ret ?_
    repeat (first | (with_reducible refine then_ret ?_) | (with_reducible refine blk_ret ?_))
    refine end_tmp (p := 2) rfl rfl H (fun hb => ?_)
    have hk8 : x.k = 8 := by omega
    exact ⟨by rw [hk8], hb⟩
  | false =>
    rw [hq1] at H
    have hq1p := of_decide_eq_false hq1
    refine wp_cond_false (H.ev rfl) ?_
    refine wp_skip ?_
    refine hK2 _ _ ?_
    clear hK2
    refine sqR H gs0 fun Z_ z_ => rV rfl (does_fieldAddr rfl rfl fa_der0) <| rV rfl (does_loadAt (v := .int .i64 x.k) rfl rfl (k := 0) rfl ld_derK) <| rV rfl (does_indexAddr rfl rfl rfl (ia_tabQ (k := x.k) (by omega) (by omega))) <| rV rfl (does_loadCell (v := .int .u8 ((tabQ x.k.toNat : Nat) : Int)) rfl rfl (hpg.cell x.k.toNat (by omega)) hpg.lt ld_tabQ) <| rK [1, 1, 1, 1, 1, 0] [] [] <| rS 1 rfl <| rK [1, 0, 0, 0, 0, 0, 0] [0] [] <| rN0 z_ ?_
    try clear H a W
    intro a W H
    refine wp_ret ?_
    repeat (first | (with_reducible refine then_ret ?_) | (with_reducible refine blk_ret ?_))
    refine end_tmp (p := 2) rfl rfl H (fun hb => ?_)
    exact ⟨by rw [tab_tag (n := x.n) (by omega) (by omega) (by omega), bv_def], hb⟩
set_option maxHeartbeats 4000000 in
theorem length_any (n : Nat) (w : World) (hn : n ≤ 65000) : Calls Tryd.prog 26 #[.int .i64 ((n : Nat) : Int)] w (fun rr w' => ∃ v, rr = .returned v ∧ Below w.heap.size w w' ∧ OwnB w' w.heap.size 5 v (lenD n)) := by
  refine calls_st (vs := [.int .i64 ((n : Nat) : Int)]) 28 Tryd.func26 rfl Tryd.ntmps26 rfl (fun a W H => ?_)
  replace H : St 28 w a W [(0, .int .i64 ((n : Nat) : Int))] [] := H
  refine sqR H gs0 fun Z_ z_ => rS 1 rfl <| rN0 z_ ?_
  try clear H a W
  intro a W H
  refine wp_seq_k (fun K2 hK2 => ?_)
  refine sqR H gs0 fun Z_ z_ => rS 1 rfl <| rV rfl (does_binOp rfl rfl rfl (zd_lss_int (k := ((n : Nat) : Int)) (m := 128) rfl _ _)) <| rK [1, 0] [] [] <| rN0 z_ ?_
  try clear H a W
  intro a W H
  cases hq1 : decide (((n : Nat) : Int) < 128) with
  | true =>
    rw [hq1] at H
    have hq1p := of_decide_eq_true hq1
    refine wp_cond_true (H.ev rfl) ?_
    refine sqR H gs0 fun Z_ z_ => rS 1 rfl <| rV rfl (does_convert rfl rfl (cv_iD (x := n) (by omega))) <| rO rfl (fun a W H _ => ob_byteOF (x := (byteD n)) H (wanted_none rfl) rfl rfl) fun v10 => rK [1, 1, 1, 1, 0] [] [] <| rS 1 rfl <| rK [1, 0, 0, 0, 0] [] [] <| rN z_ ?_
    try clear H a W
    rintro a W H ⟨hv10, -⟩
    refine wp_ret ?_
    repeat (first | (with_reducible refine then_ret ?_) | (with_reducible refine blk_ret ?_))
    refine end_tmp (p := 2) rfl rfl H (fun hb => ?_)
    refine ⟨_, rfl, hb, ?_⟩
    unfold lenD
    rw [if_pos (by omega)]
    exact hv10.1
  | false =>
    rw [hq1] at H
    have hq1p := of_decide_eq_false hq1
    refine wp_cond_false (H.ev rfl) ?_
    refine wp_skip ?_
    refine hK2 _ _ ?_
    clear hK2
    refine sqR H gs0 fun Z_ z_ => rS 1 rfl <| rK [1, 0] [] [] <| rN0 z_ ?_
    try clear H a W
    intro a W H
    refine wp_seq_k (fun K6 hK6 => ?_)
    refine sqR H gs0 fun Z_ z_ => rS 1 rfl <| rV rfl (does_binOp rfl rfl rfl (zd_shr8 _ _ _)) <| rV rfl (does_binOp rfl rfl rfl (zd_gtr_int (k := ((n / 256 : Nat) : Int)) (m := 0) rfl _ _)) <| rK [1, 0, 0] [] [] <| rN0 z_ ?_
    try clear H a W
    intro a W H
    cases hq2 : decide (0 < ((n / 256 : Nat) : Int)) with
    | true =>
      rw [hq2] at H
      have hq2p := of_decide_eq_true hq2
      refine wp_cond_true (H.ev rfl) ?_
      refine rgP H gs0 (rK [1, 0] [] [] <| rS 1 rfl <| rK [1, 0] [] [] <| rZ0 ?_)
      try clear H a W
      intro a W H
      refine hK6 _ _ ?_
      clear hK6
      refine sqR H gs0 fun Z_ z_ => rS 1 rfl <| rV rfl (does_convert rfl rfl (cv_iu (by omega))) <| rS 1 rfl <| rC rfl rfl ⟨_, Tryd.func37, by kernel_rfl⟩ rfl (fun a W H _ => (put_tf n 2 _ (by omega) (by first | exact dvD_small (k := 256) rfl (by omega) | exact dvD_small (k := 65536) rfl (by omega)))) <| rTF fun u1 => rS 5 rfl <| rK [0, 1, 0, 0, 0, 0, 0, 0, 0, 1, 1, 0] [] [] <| rN z_ ?_
      try clear H a W
      rintro a W H ⟨hu1, -⟩
      refine sqR H (gsC hu1 gs0) fun Z_ z_ => rS 1 rfl <| rV rfl (does_convert rfl rfl (cv_iD (x := 2) (by omega))) <| rV rfl (does_binOp rfl rfl rfl (or_128 2 (by omega) _ _)) <| rO rfl (fun a W H _ => ob_byteOF (x := (byteD (128 + 2))) H (wanted_none rfl) rfl rfl) fun v24 => rS 1 rfl <| rO rfl (fun a W H ⟨hv24, hu1, _⟩ => ob_rows2S H (wanted_none rfl) rfl rfl rfl hv24.bf hu1) fun v26 => rC rfl rfl ⟨_, Tryd.func24, by kernel_rfl⟩ rfl (fun a W H ⟨hv26, hv24, hu1, _⟩ => (by have h_ := of_call H (join_any hv26.rf (by simp) (by simp only [List.flatten_cons, List.flatten_nil, List.length_append, List.length_cons, List.length_nil, be_len]; omega)); rw [flat2] at h_; exact h_)) fun v27 => rK [1, 1, 1, 1, 1, 1, 1, 1, 1, 0] [] [] <| rS 1 rfl <| rK [1, 0, 0, 0, 0, 0, 0, 0, 0, 0] [] [1, 0, 0, 0] <| rN z_ ?_
      try clear hu1 H a W
      rintro a W H ⟨hv27, -⟩
      refine wp_ret ?_
      repeat (first | (with_reducible refine then_ret ?_) | (with_reducible refine blk_ret ?_))
      refine end_tmp (p := 2) rfl rfl H (fun hb => ?_)
      refine ⟨_, rfl, hb, ?_⟩
      have e_ : lenD n = ([(byteD (128 + 2))] ++ (beD 2 n)) := by
        unfold lenD
        rw [if_neg (by omega), if_neg (by omega), be_2]
        rw [bD_2]
        rfl
      rw [e_]
      exact hv27.1
    | false =>
      rw [hq2] at H
      have hq2p := of_decide_eq_false hq2
      refine wp_cond_false (H.ev rfl) ?_
      refine wp_skip ?_
      refine hK6 _ _ ?_
      clear hK6
      refine sqR H gs0 fun Z_ z_ => rS 1 rfl <| rV rfl (does_convert rfl rfl (cv_iu (by omega))) <| rS 1 rfl <| rC rfl rfl ⟨_, Tryd.func37, by kernel_rfl⟩ rfl (fun a W H _ => (put_tf n 1 _ (by omega) (by first | exact dvD_small (k := 256) rfl (by omega) | exact dvD_small (k := 65536) rfl (by omega)))) <| rTF fun u3 => rS 5 rfl <| rK [0, 1, 0, 0, 0, 0, 0, 0, 0, 0, 1, 1, 0] [] [] <| rN z_ ?_
      try clear H a W
      rintro a W H ⟨hu3, -⟩
      refine sqR H (gsC hu3 gs0) fun Z_ z_ => rS 1 rfl <| rV rfl (does_convert rfl rfl (cv_iD (x := 1) (by omega))) <| rV rfl (does_binOp rfl rfl rfl (or_128 1 (by omega) _ _)) <| rO rfl (fun a W H _ => ob_byteOF (x := (byteD (128 + 1))) H (wanted_none rfl) rfl rfl) fun v24 => rS 1 rfl <| rO rfl (fun a W H ⟨hv24, hu3, _⟩ => ob_rows2S H (wanted_none rfl) rfl rfl rfl hv24.bf hu3) fun v26 => rC rfl rfl ⟨_, Tryd.func24, by kernel_rfl⟩ rfl (fun a W H ⟨hv26, hv24, hu3, _⟩ => (by have h_ := of_call H (join_any hv26.rf (by simp) (by simp only [List.flatten_cons, List.flatten_nil, List.length_append, List.length_cons, List.length_nil, be_len]; omega)); rw [flat2] at h_; exact h_)) fun v27 => rK [1, 1, 1, 1, 1, 1, 1, 1, 1, 0] [] [] <| rS 1 rfl <| rK [1, 0, 0, 0, 0, 0, 0, 0, 0, 0] [] [1, 0, 0, 0] <| rN z_ ?_
      try clear hu3 H a W
      rintro a W H ⟨hv27, -⟩
      refine wp_ret ?_
      repeat (first | (with_reducible refine then_ret ?_) | (with_reducible refine blk_ret ?_))
      refine end_tmp (p := 2) rfl rfl H (fun hb => ?_)
      refine ⟨_, rfl, hb, ?_⟩
      have e_ : lenD n = ([(byteD (128 + 1))] ++ (beD 1 n)) := by
        unfold lenD
        rw [if_neg (by omega), if_pos (by omega), be_1]
        rw [Nat.mod_eq_of_lt (show n < 256 by omega)]
        rw [bD_1]
        rfl
      rw [e_]
      exact hv27.1
set_option maxHeartbeats 4000000 in
theorem int_bytes (n : Int) (w : World) (hn : -9223372036854775808 ≤ n ∧ n < 9223372036854775808) : Calls Tryd.prog 34 #[.int .i64 n] w (fun rr w' => ∃ v, rr = .returned v ∧ Below w.heap.size w w' ∧ BF (wholeD n) v w') := by
  refine calls_st (vs := [.int .i64 n]) 28 Tryd.func34 rfl Tryd.ntmps34 rfl (fun a W H => ?_)
  replace H : St 28 w a W [(0, .int .i64 n)] [] := H
  refine sqR H gs0 fun Z_ z_ => rS 1 rfl <| rN0 z_ ?_
  try clear H a W
  intro a W H
  refine sqR H gs0 fun Z_ z_ => rS 1 rfl <| rV rfl (does_binOp rfl rfl rfl (zd_shrS _ _ _)) <| rS 1 rfl <| rK [1, 0, 0] [] [] <| rN0 z_ ?_
  try clear H a W
  intro a W H
  refine sqR H gs0 fun Z_ z_ => rS 1 rfl <| rN0 z_ ?_
  try clear H a W
  intro a W H
  refine wp_seq_k (fun K4 hK4 => ?_)
  obtain ⟨N, hN7, hpos, hend⟩ := rounds_at (noFit n) 7
  refine wp_block ?_
  replace H : St 28 w a W [(4, .int .i64 ((0 + 1 : Nat) : Int)), (3, .int .i64 (sgQ n)), (2, .slice none 0 0), (0, .int .i64 n)] [] := H.pick [0, 1, 2, 3] [] rfl
  refine wp_rounds N (fun k a W => St 28 w a W [(4, .int .i64 ((k + 1 : Nat) : Int)), (3, .int .i64 (sgQ n)), (2, .slice none 0 0), (0, .int .i64 n)] []) (k0 := 0) H (by omega) ?_
  try clear H a W
  intro k a W hk H
  by_cases hk2 : k < N
  · have hk7_ : k < 7 := by omega
    refine wp_seq_k (fun K5 hK5 => ?_)
    refine sqR H gs0 fun Z_ z_ => rS 2 rfl <| rV rfl (does_binOp rfl rfl rfl (zd_mulE (k := k + 1) (by omega) _ _)) <| rV rfl (does_binOp rfl rfl rfl (zd_sub_int (k := (((k + 1) * 8 : Nat) : Int)) (m := 1) (c := (((k + 1) * 8 - 1 : Nat) : Int)) (by omega) (by omega) _ _)) <| rV rfl (does_binOp rfl rfl rfl (zd_shrI (k := k) (by omega) _ _)) <| rS 1 rfl <| rV rfl (does_binOp rfl rfl rfl (zd_neq_i64 (k := (shQ n k)) (m := (sgQ n)) (decide_eq_true ((sh_ne hn (by omega)).2 ⟨by omega, hpos k hk2⟩)) _ _)) <| rN0 z_ ?_
    try clear H a W
    intro a W H
    refine wp_cond_true (H.ev rfl) ?_
    refine wp_skip ?_
    refine hK5 _ _ ?_
    clear hK5
    refine wp_block ?_
    refine rgP H gs0 (rS 1 rfl <| rV rfl (does_binOp rfl rfl rfl (zd_add_int (k := ((k + 1 : Nat) : Int)) (m := 1) (c := ((k + 1 + 1 : Nat) : Int)) (by omega) (by omega) _ _)) <| rK [1, 1, 1, 1, 1, 1, 1, 1, 1, 0] [] [] <| rS 1 rfl <| rZ0 ?_)
    try clear H a W
    intro a W H
    refine blk_normal ?_
    refine ⟨k + 1, by omega, by omega, ?_⟩
    show St 28 w a W [(4, .int .i64 (((k + 1) + 1 : Nat) : Int)), (3, .int .i64 (sgQ n)), (2, .slice none 0 0), (0, .int .i64 n)] []
    exact H.pick [0, 10, 11, 12] [] rfl
  · obtain rfl : N = k := by omega
    refine wp_seq_k (fun K7 hK7 => ?_)
    refine sqR H gs0 fun Z_ z_ => rS 2 rfl <| rV rfl (does_binOp rfl rfl rfl (zd_mulE (k := N + 1) (by omega) _ _)) <| rV rfl (does_binOp rfl rfl rfl (zd_sub_int (k := (((N + 1) * 8 : Nat) : Int)) (m := 1) (c := (((N + 1) * 8 - 1 : Nat) : Int)) (by omega) (by omega) _ _)) <| rV rfl (does_binOp rfl rfl rfl (zd_shrI (k := N) (by omega) _ _)) <| rS 1 rfl <| rV rfl (does_binOp rfl rfl rfl (zd_neq_i64 (k := (shQ n N)) (m := (sgQ n)) (decide_eq_false (fun h_ => by have h2_ := (sh_ne hn (by omega)).1 h_; rcases hend with h3_ | h3_; exact absurd h2_.1 (by omega); exact h3_.2 h2_.2)) _ _)) <| rK [1, 0, 0, 0, 0, 0, 0, 1, 0] [] [] <| rN0 z_ ?_
    try clear H a W
    intro a W H
    refine wp_cond_false (H.ev rfl) ?_
    refine wp_exit ?_
    repeat (with_reducible refine then_exit ?_)
    refine blk_exit ?_
    refine hK4 _ _ ?_
    clear hK4
    refine sqR H gs0 fun Z_ z_ => rS 1 rfl <| rV rfl (does_convert rfl rfl (cv_m64 _)) <| rC rfl rfl ⟨_, Tryd.func37, by kernel_rfl⟩ rfl (fun a W H _ => (put_tf (m64 n) 8 _ (by omega) (dvD_m64 n))) <| rTF fun u1 => rS 5 rfl <| rK [0, 1, 0, 0, 0, 0, 0, 0, 0, 1, 1, 0] [] [] <| rN z_ ?_
    try clear H a W
    rintro a W H ⟨hu1, -⟩
    refine sqR H (gsC hu1 gs0) fun Z_ z_ => rS 2 rfl <| rV rfl (does_binOp rfl rfl rfl (zd_sub_int (k := 8) (m := ((N + 1 : Nat) : Int)) (c := ((8 - (N + 1) : Nat) : Int)) (by omega) (by omega) _ _)) <| rO rfl (fun a W H ⟨hu1, _⟩ => ob_dropB (k := 8 - (N + 1)) H (wanted_none rfl) rfl rfl rfl hu1 (by rw [be_len]; omega)) fun v27 => rK [1, 1, 1, 1, 1, 1, 0] [] [] <| rS 1 rfl <| rK [1, 0, 0, 0, 0, 0, 0] [] [1, 0] <| rN z_ ?_
    try clear hu1 H a W
    rintro a W H ⟨hv27, -⟩
    refine wp_ret ?_
    repeat (first | (with_reducible refine then_ret ?_) | (with_reducible refine blk_ret ?_))
    refine end_tmp (p := 2) rfl rfl H (fun hb => ?_)
    exact ⟨_, rfl, hb, by rw [size_endQ hpos hend]; exact hv27⟩
end Go.Proofs.YtonhkclkddobhaaDoor
namespace Go.Proofs.YtonhkclkddobhaaDoor
set_option linter.unusedVariables false
set_option linter.unusedSimpArgs false
set_option maxRecDepth 100000
open Go Go.RowKit
theorem sl_u64tail {g o n c : Nat} (hn : 2 ≤ n) (hc : n ≤ c) (W : World) : (Instr.sliceAt 24 (.slice (some ⟨g, o, none⟩) n c) (some (.int .i64 2)) none none).run Tryd.prog W = .ok (.slice (if c = 2 then some ⟨g, o, none⟩ else some ⟨g, o + 2, none⟩) (n - 2) (c - 2)) W := by
  have hu : Tryd.prog.underlying 24 = some (.slice (Tryd.prog.elem 24)) := by kernel_rfl
  have hel : (sizeOf (Tryd.prog.elem 24)).run Tryd.prog W = .ok 1 W := by
    have : Tryd.prog.elem 24 = 36 := by kernel_rfl
    rw [this]
    have hi := u64_infoD
    cases hq : Tryd.prog.info? 36 with
    | none => rw [hq] at hi; cases hi
    | some i =>
      rw [hq] at hi
      simp only [Option.map_some, Option.some.injEq, Prod.mk.injEq] at hi
      simp [sizeOf, typeInfo, hq, hi.2.1]
  rw [run_sliceAt_slice W 24 _ _ _ _ hu, run_slice_l W 24 _ n c hu _ _ (by omega) (by omega), hel]
  simp only [Result.andThen, sliced]
  split <;> simp_all [Addr.add]
  all_goals first | omega | (split <;> simp_all <;> omega) | skip
theorem ud_mul40r {m : Nat} (h : m < 100000000000) (p q : Operand) (W : World) : (do eqGuard .mul 36 p q (.int .u64 (m : Int)) (.int .u64 40); binOp .mul 36 (.int .u64 (m : Int)) (.int .u64 40) : Sem Value).run Tryd.prog W = .ok (.int .u64 ((40 * m : Nat) : Int)) W := by
  have e : IntKind.u64.wrap ((m : Int) * 40) = 40 * (m : Int) := by rw [IntWalk.u64_in _ (by omega)]; omega
  go_simp
theorem drop_getD {la : List Nat} {i : Nat} : (la.drop 2).getD i 0 = la.getD (i + 2) 0 := by
  rw [List.getD_eq_getElem?_getD, List.getElem?_drop, Nat.add_comm, ← List.getD_eq_getElem?_getD]
section
variable {n : Nat} {w0 w w' : World} {a : Act} {e : Env} {h t t2 : Hep} {Q : Exit → Act → World → Prop} {ops : Array Oper} {rest : List Oper} {o : Oper}
/-- An append onto a row that is told. -/
theorem pl_appDB {d : Nat} {x y : Operand} {u v : Value} {l m : List UInt8} (ho : o.op = .call { callee := .builtin .append, args := #[x, y], argTypes := #[23, 23] }) (hx : sev e x = some v) (hy : sev e y = some u) (hv : OutD 5 1 t v l.length (l.map bv)) (hu : BF m u w) (hm : 0 < m.length) (hs : l.length + m.length ≤ 1000000) (hg : o.guard = none) (hdst : o.dst = some d) (hl : Nat.blt d n = true) (hf : e.all (fun p => !Nat.beq p.1 d) = true) (H : St n w0 a w e (h ++ t))
    (next : ∀ A c t' a w', OutD 5 1 t' (.slice A (l ++ m).length c) (l ++ m).length ((l ++ m).map bv) → St n w0 a w' ((d, .slice A (l ++ m).length c) :: e) (h ++ t') → wpList Tryd.prog ops Q rest a w') : wpList Tryd.prog ops Q (o :: rest) a w :=
  wpList_plain hg fun K hK => by
    obtain ⟨A, k, c, rfl, hr⟩ := hu
    have hk := hr.len
    have hown := hv.owns H
    obtain ⟨v', w', h1, h2, h3, h4⟩ := run_app_own (P := Tryd.prog) (w := w) 23 o.type 5 Tryd.underlying23 u8_info w0.heap.size v l hown _ k c A m hr (by omega) H.below.size
    obtain ⟨t', ht, H', _⟩ := H.appD hv (k' := (l ++ m).length) (xs' := (l ++ m).map bv) h2 h3 h4 (by rw [List.length_append]; omega)
    obtain ⟨A', c', rfl, _⟩ := ht.form
    unfold Oper.wp
    simp [execOp, ho, resolve, invoke, builtin, H.ev hx, H.ev hy, h1, Result.andThen]
    refine hK _ _ (next A' c' t' _ _ ht ?_)
    rw [hdst]
    simpa using H'.put _ hl hf
end
attribute [local irreducible] bvs byteD groupsD arL kkL oidD tagD wholeD lenD
set_option maxHeartbeats 4000000 in
theorem oid_bytes {Aa : Option Addr} {na ca gx ox : Nat} {la : List Nat} (w : World) (hla : la.length = na) (hca : na ≤ ca) (hal : ∀ y ∈ la, y < 18446744073709551616) (hgl : ∀ i, la.getD i 0 < 18446744073709551616) (hao : 2 ≤ na ∧ na ≤ 16 ∧ la.getD 0 0 ≤ 2 ∧ la.getD 1 0 < 2147483648) (hax : 0 < na → Aa = some ⟨gx, ox, none⟩ ∧ gx < w.heap.size ∧ ∀ i, i < na → w.cell? ⟨gx, ox + i, none⟩ = some (.int .u64 ((la.getD i 0 : Nat) : Int))) : Calls Tryd.prog 35 #[.slice Aa na ca] w (fun rr w' => ∃ v, rr = .returned v ∧ Below w.heap.size w w' ∧ OwnB w' w.heap.size 5 v (oidD la)) := by
  have hax2 : 0 < na - 2 → (if ca = 2 then some (⟨gx, ox, none⟩ : Addr) else some ⟨gx, ox + 2, none⟩) = some ⟨gx, ox + 2, none⟩ ∧ gx < w.heap.size ∧ ∀ i, i < na - 2 → w.cell? ⟨gx, ox + 2 + i, none⟩ = some (.int .u64 (((la.drop 2).getD i 0 : Nat) : Int)) := fun h => ⟨if_neg (by omega), (hax (by omega)).2.1, fun i hi => by rw [drop_getD, Nat.add_assoc, Nat.add_comm 2 i]; exact (hax (by omega)).2.2 (i + 2) (by omega)⟩
  have hg0 := hgl 0
  refine calls_st (vs := [.slice Aa na ca]) 28 Tryd.func35 rfl Tryd.ntmps35 rfl (fun a W H => ?_)
  replace H : St 28 w a W [(0, .slice Aa na ca)] [] := H
  refine sqR H gs0 fun Z_ z_ => rS 1 rfl <| rN0 z_ ?_
  try clear H a W
  intro a W H
  refine sqD [.v 6 _ [], .v 7 _ [0], .v 8 _ [1], .v 9 _ [2], .v 10 _ [], .v 11 _ [4], .v 12 _ [5], .v 13 _ [3, 6], .f 14 _ [7]] (by kernel_rfl) (by kernel_rfl) H gs0 (fun _ => ⟨oS rfl rfl, oV rfl (does_indexAddr rfl rfl rfl (ia_u64D (j := 0) (hax (by omega)).1 (by omega))), oV rfl (does_loadCell (v := .int .u64 ((la.getD 0 0 : Nat) : Int)) rfl rfl ((hax (by omega)).2.2 0 (by omega)) (hax (by omega)).2.1 ld_cellD), oV rfl (does_binOp rfl rfl rfl (ud_mul40r (m := la.getD 0 0) (by omega) _ _)), oS rfl rfl, oV rfl (does_indexAddr rfl rfl rfl (ia_u64D (j := 1) (hax (by omega)).1 (by omega))), oV rfl (does_loadCell (v := .int .u64 ((la.getD 1 0 : Nat) : Int)) rfl rfl ((hax (by omega)).2.2 1 (by omega)) (hax (by omega)).2.1 ld_cellD), oV rfl (does_binOp rfl rfl rfl (ud_add (k := 40 * (la.getD 0 0)) (m := la.getD 1 0) (by omega) _ _)), ⟨fun a W  H _ => ob_callS H (wanted_none rfl) rfl ⟨_, Tryd.func48, by kernel_rfl⟩ rfl (of_call H (dgroups_any (40 * (la.getD 0 0) + la.getD 1 0) _ (by omega))), fun _ => inferInstance⟩, trivial⟩) fun Z_ z_ => fun v14 => rS 1 rfl <| rK [1, 0, 0, 0, 0, 0, 0, 0, 0, 0] [] [] <| rN z_ ?_
  try clear H a W
  rintro a W H ⟨hv14, -⟩
  refine wp_seq_k (fun K3 hK3 => ?_)
  refine sqR H (gsC hv14 gs0) fun Z_ z_ => rS 1 rfl <| rV rfl (does_slice rfl rfl (vl := some (.int .i64 2)) (vh := none) rfl rfl (by rw [(hax (by omega)).1]; exact sl_u64tail (by omega) hca)) <| rV rfl (does_len Tryd.underlying24 rfl rfl) <| rS 1 rfl <| rK [1, 1, 1, 0, 1, 1, 0] [] [] <| rN z_ ?_
  try clear hv14 H a W
  rintro a W H ⟨hv14, -⟩
  have hars := arL_len hal (by omega)
  refine wp_block ?_
  replace H : St 28 w a W [(18, .int .i64 ((0 : Nat) : Int)), (3, v14), (17, .int .i64 ((na - 2 : Nat) : Int)), (16, .slice (if ca = 2 then some ⟨gx, ox, none⟩ else some ⟨gx, ox + 2, none⟩) (na - 2) (ca - 2)), (2, .slice none 0 0)] [] := H.pick [0, 3, 1, 2, 4] [] rfl
  refine wp_rounds (na - 2) (fun k a W => ∃ vo, OF w.heap.size [] (arL la k) vo W ∧ St 28 w a W [(18, .int .i64 ((k : Nat) : Int)), (3, vo), (17, .int .i64 ((na - 2 : Nat) : Int)), (16, .slice (if ca = 2 then some ⟨gx, ox, none⟩ else some ⟨gx, ox + 2, none⟩) (na - 2) (ca - 2)), (2, .slice none 0 0)] []) (k0 := 0) (show ∃ vo, OF w.heap.size [] (arL la 0) vo W ∧ St 28 w a W [(18, .int .i64 ((0 : Nat) : Int)), (3, vo), (17, .int .i64 ((na - 2 : Nat) : Int)), (16, .slice (if ca = 2 then some ⟨gx, ox, none⟩ else some ⟨gx, ox + 2, none⟩) (na - 2) (ca - 2)), (2, .slice none 0 0)] [] from ⟨_, (by rw [arL_0]; exact hv14), H⟩) (by omega) ?_
  try clear H a W
  intro k a W hk H_
  obtain ⟨vo, hout, H⟩ := H_
  by_cases hk2 : k < (na - 2)
  · have hl_ := hars k
    have hgl_ := hgl (k + 2)
    rw [← drop_getD] at hgl_
    have hg_ := groups_len (n := (la.drop 2).getD k 0) (by omega)
    refine sqR H (gsC hout gs0) fun Z_ z_ => rV rfl (does_binOp rfl rfl rfl (zd_lss_int (k := ((k : Nat) : Int)) (m := ((na - 2 : Nat) : Int)) (decide_eq_true (by omega)) _ _)) <| rN z_ ?_
    try clear hout H a W
    rintro a W H ⟨hout, -⟩
    refine cdT H rfl ?_
    refine wp_seq_k (fun K6 hK6 => ?_)
    refine wp_block ?_
    refine sqR H (gsC hout gs0) fun Z_ z_ => rV rfl (does_indexAddr rfl rfl rfl (ia_u64D (j := k) (hax2 (by omega)).1 (by omega))) <| rV rfl (does_loadCell (v := .int .u64 (((la.drop 2).getD k 0 : Nat) : Int)) rfl rfl ((hax2 (by omega)).2.2 k (by omega)) (hax2 (by omega)).2.1 ld_cellD) <| rS 1 rfl <| rN z_ ?_
    try clear hout H a W
    rintro a W H ⟨hout, -⟩
    refine rgP H (gsC hout gs0) (rS 2 rfl <| rC rfl rfl ⟨_, Tryd.func48, by kernel_rfl⟩ rfl (fun a W H _ => (of_call H (dgroups_any ((la.drop 2).getD k 0) _ (by omega)))) fun v24 => rI ?_)
    try clear hout H a W
    rintro a W H ⟨hv24, hout, -⟩
    refine pl_R (R := (WR w.heap.size [])) (F := OF w.heap.size [] ((arL la k) ++ (groupsD ((la.drop 2).getD k 0)))) wr_st (ob_appW H (wanted_none rfl) rfl rfl rfl hout hv24.bf (by (try simp only [List.length_append, List.length_cons, List.length_nil]); omega)) rfl rfl rfl H ?_
    try clear H a
    intro v25 a W hv25 hR_ H
    clear hR_
    replace H : St 28 w a W [(25, v25), (24, v24), (23, .int .u64 (((la.drop 2).getD k 0 : Nat) : Int)), (22, vo), (5, .int .u64 (((la.drop 2).getD k 0 : Nat) : Int)), (21, .int .u64 (((la.drop 2).getD k 0 : Nat) : Int)), (20, .pointer (some ⟨gx, ox + 2 + k, none⟩)), (19, .bool true), (18, .int .i64 ((k : Nat) : Int)), (3, vo), (17, .int .i64 ((na - 2 : Nat) : Int)), (16, .slice (if ca = 2 then some ⟨gx, ox, none⟩ else some ⟨gx, ox + 2, none⟩) (na - 2) (ca - 2)), (2, .slice none 0 0)] [] := H
    refine rgO H (gsC hv25 gs0) (rK [1, 1, 1, 1, 1, 1, 1, 1, 1, 0] [] [] <| rS 1 rfl <| rZ ?_)
    try clear hv25 H a W
    rintro a W H ⟨hv25, -⟩
    refine blk_normal ?_
    refine hK6 _ _ ?_
    clear hK6
    refine rgP H (gsC hv25 gs0) (rV rfl (does_binOp rfl rfl rfl (zd_add_int (k := ((k : Nat) : Int)) (m := 1) (c := ((k + 1 : Nat) : Int)) (by omega) (by omega) _ _)) <| rK [1, 1, 1, 1, 1, 1, 1, 1, 1, 1, 0] [] [] <| rS 1 rfl <| rZ ?_)
    try clear hv25 H a W
    rintro a W H ⟨hv25, -⟩
    refine ⟨k + 1, by omega, by omega, ?_⟩
    show ∃ vo, OF w.heap.size [] (arL la (k + 1)) vo W ∧ St 28 w a W [(18, .int .i64 ((k + 1 : Nat) : Int)), (3, vo), (17, .int .i64 ((na - 2 : Nat) : Int)), (16, .slice (if ca = 2 then some ⟨gx, ox, none⟩ else some ⟨gx, ox + 2, none⟩) (na - 2) (ca - 2)), (2, .slice none 0 0)] []
    refine ⟨_, (by rw [arL_succ (by omega), ← drop_getD]; exact hv25), ?_⟩
    exact H.pick [0, 2, 11, 12, 13] [] rfl
  · obtain rfl : (na - 2) = k := by omega
    refine sqR H (gsC hout gs0) fun Z_ z_ => rV rfl (does_binOp rfl rfl rfl (zd_lss_int (k := (((na - 2) : Nat) : Int)) (m := ((na - 2 : Nat) : Int)) (decide_eq_false (by omega)) _ _)) <| rK [1, 1, 1, 0] [] [] <| rN z_ ?_
    try clear hout H a W
    rintro a W H ⟨hout, -⟩
    refine wp_seq_k (fun K9 hK9 => ?_)
    refine wp_cond_false (H.ev rfl) ?_
    refine wp_exit ?_
    repeat (first | (with_reducible refine then_exit ?_) | (with_reducible refine blk_pass (by decide) ?_))
    refine blk_exit ?_
    refine hK3 _ _ ?_
    clear hK3
    refine sqR H (gsC hout gs0) fun Z_ z_ => rS 1 rfl <| rK [1, 1, 1, 1, 1, 0] [] [] <| rS 1 rfl <| rK [1, 0, 0, 0, 0, 0] [] [] <| rN z_ ?_
    try clear hout H a W
    rintro a W H ⟨hout, -⟩
    refine wp_ret ?_
    repeat (first | (with_reducible refine then_ret ?_) | (with_reducible refine blk_ret ?_))
    refine end_tmp (p := 2) rfl rfl H (fun hb => ?_)
    exact ⟨_, rfl, hb, by rw [← arL_all (by omega), hla]; exact hout.1⟩
set_option maxHeartbeats 4000000 in
theorem cont_walk {x : DH} {gx ox : Nat} {lb kl : List UInt8} {la : List Nat} (w : World) (hxn : -9223372036854775808 ≤ x.n ∧ x.n < 9223372036854775808) (hx : x.b.n < 9223372036854775808 ∧ x.t.length < 9223372036854775808 ∧ x.a.n < 9223372036854775808 ∧ x.ks.n < 9223372036854775808) (hbx : BF lb (.slice x.b.A x.b.n x.b.c) w) (hlb : lb.length ≤ 100000) (hla : la.length = x.a.n) (hca : x.a.n ≤ x.a.c) (hal : ∀ y ∈ la, y < 18446744073709551616) (hgl : ∀ i, la.getD i 0 < 18446744073709551616) (hao : x.k = 5 → 2 ≤ x.a.n ∧ x.a.n ≤ 16 ∧ la.getD 0 0 ≤ 2 ∧ la.getD 1 0 < 2147483648) (hax : 0 < x.a.n → x.a.A = some ⟨gx, ox, none⟩ ∧ gx < w.heap.size ∧ ∀ i, i < x.a.n → w.cell? ⟨gx, ox + i, none⟩ = some (.int .u64 ((la.getD i 0 : Nat) : Int))) (hk : 1 ≤ x.k ∧ x.k ≤ 10) (hleaf : ¬ (x.k = 7 ∨ x.k = 8 ∨ x.k = 9) → kl = []) (hkb : ∀ W, Below w.heap.size w W → Calls Tryd.prog 36 #[.slice x.ks.A x.ks.n x.ks.c] W (fun r W' => ∃ v, r = .returned v ∧ Below W.heap.size W W' ∧ BF kl v W')) : Calls Tryd.prog 23 #[.agg (x.cs)] w (fun rr w' => ∃ v, rr = .returned v ∧ Below w.heap.size w w' ∧ BF (contD x.k x.f x.n lb x.t la kl) v w') := by
  refine calls_st (vs := [.agg (x.cs)]) 41 Tryd.func23 rfl Tryd.ntmps23 rfl (fun a W H => ?_)
  replace H : St 41 w a W [(0, .agg (x.cs))] [] := H
  refine sqR H gs0 fun Z_ z_ => rB rfl rfl rfl (bx_der x) fun g1 => rS 1 rfl <| rK [1, 1, 0] [] [] <| rN0 z_ ?_
  try clear H a W
  intro a W H
  refine sqR H gs0 fun Z_ z_ => rS 1 rfl <| rN0 z_ ?_
  try clear H a W
  intro a W H
  refine wp_seq_k (fun K3 hK3 => ?_)
  refine sqR H gs0 fun Z_ z_ => rV rfl (does_fieldAddr rfl rfl fa_der0) <| rV rfl (does_loadAt (v := .int .i64 x.k) rfl rfl (k := 0) rfl ld_derK) <| rK [1, 0] [] [] <| rN0 z_ ?_
  try clear H a W
  intro a W H
  refine wp_block ?_
  refine wp_seq_k (fun K5 hK5 => ?_)
  refine wp_block ?_
  refine wp_seq_k (fun K6 hK6 => ?_)
  refine wp_block ?_
  refine wp_seq_k (fun K7 hK7 => ?_)
  refine wp_block ?_
  refine wp_seq_k (fun K8 hK8 => ?_)
  refine wp_block ?_
  refine wp_seq_k (fun K9 hK9 => ?_)
  refine wp_block ?_
  refine wp_seq_k (fun K10 hK10 => ?_)
  refine wp_block ?_
  refine wp_seq_k (fun K11 hK11 => ?_)
  refine wp_seq_k (fun K12 hK12 => ?_)
  refine sqR H gs0 fun Z_ z_ => rV rfl (does_binOp rfl rfl rfl (zd_eql_derkind (k := x.k) (m := 1) rfl _ _)) <| rS 1 rfl <| rK [1, 0] [] [] <| rN0 z_ ?_
  try clear H a W
  intro a W H
  cases hq1 : decide (x.k = 1) with
  | true =>
    rw [hq1] at H
    have hq1p := of_decide_eq_true hq1
    refine wp_cond_true (H.ev rfl) ?_
    refine wp_exit ?_
    repeat (first | (with_reducible refine then_exit ?_) | (with_reducible refine blk_pass (by decide) ?_))
    refine blk_exit ?_
    refine hK10 _ _ ?_
    clear hK10
    refine wp_seq_k (fun K14 hK14 => ?_)
    refine wp_seq_k (fun K15 hK15 => ?_)
    refine sqR H gs0 fun Z_ z_ => rV rfl (does_fieldAddr rfl rfl fa_der1) <| rV rfl (does_loadAt (v := .bool x.f) rfl rfl (k := 0) rfl (ld_derFb rfl)) <| rK [1, 0, 0, 0] [] [] <| rN0 z_ ?_
    try clear H a W
    intro a W H
    cases hq2 : x.f with
    | true =>
      rw [hq2] at H
      refine wp_cond_true (H.ev rfl) ?_
      refine sqR H gs0 fun Z_ z_ => rO rfl (fun a W H _ => ob_byteOF (x := 255) H (wanted_none rfl) rfl rfl) fun v21 => rK [1, 1, 1, 0] [] [] <| rS 1 rfl <| rK [1, 0, 0] [] [] <| rN z_ ?_
      try clear H a W
      rintro a W H ⟨hv21, -⟩
      refine wp_ret ?_
      repeat (first | (with_reducible refine then_ret ?_) | (with_reducible refine blk_ret ?_))
      refine end_tmp (p := 2) rfl rfl H (fun hb => ?_)
      refine ⟨_, rfl, hb, ?_⟩
      rw [hleaf (by omega), contD_eq, List.append_nil]
      try rw [hq2]
      have e_ : ownC x.k true x.n lb x.t la = [255] := by unfold ownC; rw [if_pos (by omega)]; rfl
      rw [e_]
      exact hv21.bf
    | false =>
      rw [hq2] at H
      refine wp_cond_false (H.ev rfl) ?_
      refine wp_skip ?_
      refine hK15 _ _ ?_
      clear hK15
      refine sqR H gs0 fun Z_ z_ => rO rfl (fun a W H _ => ob_byteOF (x := 0) H (wanted_none rfl) rfl rfl) fun v22 => rK [1, 1, 1, 0] [] [] <| rS 1 rfl <| rK [1, 0, 0] [] [] <| rN z_ ?_
      try clear H a W
      rintro a W H ⟨hv22, -⟩
      refine wp_ret ?_
      repeat (first | (with_reducible refine then_ret ?_) | (with_reducible refine blk_ret ?_))
      refine end_tmp (p := 2) rfl rfl H (fun hb => ?_)
      refine ⟨_, rfl, hb, ?_⟩
      rw [hleaf (by omega), contD_eq, List.append_nil]
      try rw [hq2]
      have e_ : ownC x.k false x.n lb x.t la = [0] := by unfold ownC; rw [if_pos (by omega)]; rfl
      rw [e_]
      exact hv22.bf
  | false =>
    rw [hq1] at H
    have hq1p := of_decide_eq_false hq1
    refine wp_cond_false (H.ev rfl) ?_
    refine wp_skip ?_
    refine hK12 _ _ ?_
    clear hK12
    refine wp_seq_k (fun K19 hK19 => ?_)
    refine sqR H gs0 fun Z_ z_ => rV rfl (does_binOp rfl rfl rfl (zd_eql_derkind (k := x.k) (m := 2) rfl _ _)) <| rS 1 rfl <| rK [1, 0, 0] [] [] <| rN0 z_ ?_
    try clear H a W
    intro a W H
    cases hq3 : decide (x.k = 2) with
    | true =>
      rw [hq3] at H
      have hq3p := of_decide_eq_true hq3
      refine wp_cond_true (H.ev rfl) ?_
      refine wp_exit ?_
      repeat (first | (with_reducible refine then_exit ?_) | (with_reducible refine blk_pass (by decide) ?_))
      refine blk_exit ?_
      refine hK9 _ _ ?_
      clear hK9
      refine wp_seq_k (fun K21 hK21 => ?_)
      refine sqR H gs0 fun Z_ z_ => rV rfl (does_fieldAddr rfl rfl fa_der2) <| rV rfl (does_loadAt (v := .int .i64 x.n) rfl rfl (k := 0) rfl ld_derN) <| rC rfl rfl ⟨_, Tryd.func34, by kernel_rfl⟩ rfl (fun a W H _ => (int_bytes x.n _ hxn)) fun v25 => rK [1, 1, 1, 1, 1, 1, 0] [] [] <| rS 1 rfl <| rK [1, 0, 0, 0, 0, 0] [] [] <| rN z_ ?_
      try clear H a W
      rintro a W H ⟨hv25, -⟩
      refine wp_ret ?_
      repeat (first | (with_reducible refine then_ret ?_) | (with_reducible refine blk_ret ?_))
      refine end_tmp (p := 2) rfl rfl H (fun hb => ?_)
      refine ⟨_, rfl, hb, ?_⟩
      rw [hleaf (by omega), contD_eq, List.append_nil]
      have e_ : ownC x.k x.f x.n lb x.t la = (wholeD x.n) := by unfold ownC; rw [if_neg (by omega), if_pos (by omega)]
      rw [e_]
      exact hv25
    | false =>
      rw [hq3] at H
      have hq3p := of_decide_eq_false hq3
      refine wp_cond_false (H.ev rfl) ?_
      refine wp_skip ?_
      refine hK19 _ _ ?_
      clear hK19
      refine wp_seq_k (fun K23 hK23 => ?_)
      refine sqR H gs0 fun Z_ z_ => rV rfl (does_binOp rfl rfl rfl (zd_eql_derkind (k := x.k) (m := 5) rfl _ _)) <| rS 1 rfl <| rK [1, 0, 0] [] [] <| rN0 z_ ?_
      try clear H a W
      intro a W H
      cases hq4 : decide (x.k = 5) with
      | true =>
        rw [hq4] at H
        have hq4p := of_decide_eq_true hq4
        refine wp_cond_true (H.ev rfl) ?_
        refine wp_exit ?_
        repeat (first | (with_reducible refine then_exit ?_) | (with_reducible refine blk_pass (by decide) ?_))
        refine blk_exit ?_
        refine hK8 _ _ ?_
        clear hK8
        refine wp_seq_k (fun K25 hK25 => ?_)
        refine sqR H gs0 fun Z_ z_ => rV rfl (does_fieldAddr rfl rfl fa_der5) <| rV rfl (does_loadAt (v := .slice x.a.A x.a.n x.a.c) rfl rfl (k := 0) rfl ld_derA) <| rC rfl rfl ⟨_, Tryd.func35, by kernel_rfl⟩ rfl (fun a W H _ => (of_call H (oid_bytes _ hla hca hal hgl (by have := hao (by omega); omega) (fun h0 => ⟨(hax h0).1, Nat.lt_of_lt_of_le (hax h0).2.1 H.below.size, fun i hi => (H.below.cell (p := ⟨gx, ox + i, none⟩) (hax h0).2.1).trans ((hax h0).2.2 i hi)⟩)))) fun v28 => rK [1, 1, 1, 1, 1, 1, 0] [] [] <| rS 1 rfl <| rK [1, 0, 0, 0, 0, 0] [] [] <| rN z_ ?_
        try clear H a W
        rintro a W H ⟨hv28, -⟩
        refine wp_ret ?_
        repeat (first | (with_reducible refine then_ret ?_) | (with_reducible refine blk_ret ?_))
        refine end_tmp (p := 2) rfl rfl H (fun hb => ?_)
        refine ⟨_, rfl, hb, ?_⟩
        rw [hleaf (by omega), contD_eq, List.append_nil]
        have e_ : ownC x.k x.f x.n lb x.t la = (oidD la) := by unfold ownC; rw [if_neg (by omega), if_neg (by omega), if_neg (by omega), if_neg (by omega), if_pos (by omega)]
        rw [e_]
        exact hv28.bf
      | false =>
        rw [hq4] at H
        have hq4p := of_decide_eq_false hq4
        refine wp_cond_false (H.ev rfl) ?_
        refine wp_skip ?_
        refine hK23 _ _ ?_
        clear hK23
        refine wp_seq_k (fun K27 hK27 => ?_)
        refine wp_seq_k (fun K28 hK28 => ?_)
        refine sqR H gs0 fun Z_ z_ => rV rfl (does_binOp rfl rfl rfl (zd_eql_derkind (k := x.k) (m := 6) rfl _ _)) <| rS 1 rfl <| rK [1, 0, 0] [] [] <| rN0 z_ ?_
        try clear H a W
        intro a W H
        cases hq5 : decide (x.k = 6) with
        | true =>
          rw [hq5] at H
          have hq5p := of_decide_eq_true hq5
          refine wp_cond_true (H.ev rfl) ?_
          refine wp_skip ?_
          refine hK28 _ _ ?_
          clear hK28
          refine wp_cond_true (H.ev rfl) ?_
          refine wp_exit ?_
          repeat (first | (with_reducible refine then_exit ?_) | (with_reducible refine blk_pass (by decide) ?_))
          refine blk_exit ?_
          refine hK7 _ _ ?_
          clear hK7
          refine wp_seq_k (fun K30 hK30 => ?_)
          refine sqR H gs0 fun Z_ z_ => rV rfl (does_fieldAddr rfl rfl fa_der4) <| rV rfl (does_loadAt (v := .string (strB x.t)) rfl rfl (k := 0) rfl ld_derT) <| rO rfl (fun a W H _ => ob_ofStrD H (wanted_none rfl) rfl rfl) fun v31 => rK [1, 1, 1, 1, 1, 1, 0] [] [] <| rS 1 rfl <| rK [1, 0, 0, 0, 0, 0] [] [] <| rN z_ ?_
          try clear H a W
          rintro a W H ⟨hv31, -⟩
          refine wp_ret ?_
          repeat (first | (with_reducible refine then_ret ?_) | (with_reducible refine blk_ret ?_))
          refine end_tmp (p := 2) rfl rfl H (fun hb => ?_)
          refine ⟨_, rfl, hb, ?_⟩
          rw [hleaf (by omega), contD_eq, List.append_nil]
          have e_ : ownC x.k x.f x.n lb x.t la = x.t := by unfold ownC; rw [if_neg (by omega), if_neg (by omega), if_neg (by omega), if_neg (by omega), if_neg (by omega), if_pos (by omega)]
          rw [e_]
          exact hv31
        | false =>
          rw [hq5] at H
          have hq5p := of_decide_eq_false hq5
          refine wp_cond_false (H.ev rfl) ?_
          refine rgP H gs0 (rV rfl (does_binOp rfl rfl rfl (zd_eql_derkind (k := x.k) (m := 10) rfl _ _)) <| rK [1, 0] [] [] <| rS 1 rfl <| rK [1, 0] [] [] <| rZ0 ?_)
          try clear H a W
          intro a W H
          refine hK28 _ _ ?_
          clear hK28
          cases hq6 : decide (x.k = 10) with
          | true =>
            rw [hq6] at H
            have hq6p := of_decide_eq_true hq6
            refine wp_cond_true (H.ev rfl) ?_
            refine wp_exit ?_
            repeat (first | (with_reducible refine then_exit ?_) | (with_reducible refine blk_pass (by decide) ?_))
            refine blk_exit ?_
            refine hK7 _ _ ?_
            clear hK7
            refine wp_seq_k (fun K32 hK32 => ?_)
            refine sqR H gs0 fun Z_ z_ => rV rfl (does_fieldAddr rfl rfl fa_der4) <| rV rfl (does_loadAt (v := .string (strB x.t)) rfl rfl (k := 0) rfl ld_derT) <| rO rfl (fun a W H _ => ob_ofStrD H (wanted_none rfl) rfl rfl) fun v31 => rK [1, 1, 1, 1, 1, 1, 0] [] [] <| rS 1 rfl <| rK [1, 0, 0, 0, 0, 0] [] [] <| rN z_ ?_
            try clear H a W
            rintro a W H ⟨hv31, -⟩
            refine wp_ret ?_
            repeat (first | (with_reducible refine then_ret ?_) | (with_reducible refine blk_ret ?_))
            refine end_tmp (p := 2) rfl rfl H (fun hb => ?_)
            refine ⟨_, rfl, hb, ?_⟩
            rw [hleaf (by omega), contD_eq, List.append_nil]
            have e_ : ownC x.k x.f x.n lb x.t la = x.t := by unfold ownC; rw [if_neg (by omega), if_neg (by omega), if_neg (by omega), if_neg (by omega), if_neg (by omega), if_pos (by omega)]
            rw [e_]
            exact hv31
          | false =>
            rw [hq6] at H
            have hq6p := of_decide_eq_false hq6
            refine wp_cond_false (H.ev rfl) ?_
            refine wp_skip ?_
            refine hK27 _ _ ?_
            clear hK27
            refine wp_seq_k (fun K34 hK34 => ?_)
            refine sqR H gs0 fun Z_ z_ => rV rfl (does_binOp rfl rfl rfl (zd_eql_derkind (k := x.k) (m := 3) rfl _ _)) <| rS 1 rfl <| rK [1, 0, 0] [] [] <| rN0 z_ ?_
            try clear H a W
            intro a W H
            cases hq7 : decide (x.k = 3) with
            | true =>
              rw [hq7] at H
              have hq7p := of_decide_eq_true hq7
              refine wp_cond_true (H.ev rfl) ?_
              refine wp_exit ?_
              repeat (first | (with_reducible refine then_exit ?_) | (with_reducible refine blk_pass (by decide) ?_))
              refine blk_exit ?_
              refine hK6 _ _ ?_
              clear hK6
              refine rgP H gs0 (rO rfl (fun a W H _ => ob_byteOF (x := 0) H (wanted_none rfl) rfl rfl) fun v32 => rK [1, 1, 1, 0] [] [] <| rS 1 rfl <| rK [1, 0, 0, 0] [] [] <| rZ ?_)
              try clear H a W
              rintro a W H ⟨hv32, -⟩
              refine blk_normal ?_
              refine hK5 _ _ ?_
              clear hK5
              refine wp_seq_k (fun K36 hK36 => ?_)
              refine sqR H (gsC hv32 gs0) fun Z_ z_ => rS 1 rfl <| rV rfl (does_fieldAddr rfl rfl fa_der3) <| rV rfl (does_loadAt (v := .slice x.b.A x.b.n x.b.c) rfl rfl (k := 0) rfl ld_derB) <| rO rfl (fun a W H ⟨hv32, _⟩ => ob_rows2S H (wanted_none rfl) rfl rfl rfl hv32.bf (bf_old hbx H)) fun v36 => rC rfl rfl ⟨_, Tryd.func24, by kernel_rfl⟩ rfl (fun a W H ⟨hv36, hv32, _⟩ => (by have h_ := of_call H (join_any hv36.rf (by simp) (by simp only [List.flatten_cons, List.flatten_nil, List.length_append, List.length_cons, List.length_nil]; omega)); rw [flat2] at h_; exact h_)) fun v37 => rK [1, 1, 1, 1, 1, 1, 0] [] [] <| rS 1 rfl <| rK [1, 0, 0, 0, 0, 0, 0] [] [1, 0, 0] <| rN z_ ?_
              try clear hv32 H a W
              rintro a W H ⟨hv37, -⟩
              refine wp_ret ?_
              repeat (first | (with_reducible refine then_ret ?_) | (with_reducible refine blk_ret ?_))
              refine end_tmp (p := 2) rfl rfl H (fun hb => ?_)
              refine ⟨_, rfl, hb, ?_⟩
              rw [hleaf (by omega), contD_eq, List.append_nil]
              have e_ : ownC x.k x.f x.n lb x.t la = ([0] ++ lb) := by unfold ownC; rw [if_neg (by omega), if_neg (by omega), if_pos (by omega)]; rfl
              rw [e_]
              exact hv37.bf
            | false =>
              rw [hq7] at H
              have hq7p := of_decide_eq_false hq7
              refine wp_cond_false (H.ev rfl) ?_
              refine wp_skip ?_
              refine hK34 _ _ ?_
              clear hK34
              refine sqR H gs0 fun Z_ z_ => rV rfl (does_binOp rfl rfl rfl (zd_eql_derkind (k := x.k) (m := 4) rfl _ _)) <| rS 1 rfl <| rK [1, 0, 0, 0] [] [] <| rN0 z_ ?_
              try clear H a W
              intro a W H
              cases hq8 : decide (x.k = 4) with
              | true =>
                rw [hq8] at H
                have hq8p := of_decide_eq_true hq8
                refine wp_cond_true (H.ev rfl) ?_
                refine wp_exit ?_
                repeat (first | (with_reducible refine then_exit ?_) | (with_reducible refine blk_pass (by decide) ?_))
                refine blk_exit ?_
                refine hK5 _ _ ?_
                clear hK5
                refine wp_seq_k (fun K39 hK39 => ?_)
                refine sqR H gs0 fun Z_ z_ => rS 1 rfl <| rV rfl (does_fieldAddr rfl rfl fa_der3) <| rV rfl (does_loadAt (v := .slice x.b.A x.b.n x.b.c) rfl rfl (k := 0) rfl ld_derB) <| rO rfl (fun a W H _ => ob_rows2S H (wanted_none rfl) rfl rfl rfl (BF.nil _) (bf_old hbx H)) fun v36 => rC rfl rfl ⟨_, Tryd.func24, by kernel_rfl⟩ rfl (fun a W H ⟨hv36, _⟩ => (by have h_ := of_call H (join_any hv36.rf (by simp) (by simp only [List.flatten_cons, List.flatten_nil, List.length_append, List.length_cons, List.length_nil]; omega)); rw [flat2] at h_; exact h_)) fun v37 => rK [1, 1, 1, 1, 1, 1, 1, 0] [] [] <| rS 1 rfl <| rK [1, 0, 0, 0, 0, 0, 0, 0] [] [1, 0] <| rN z_ ?_
                try clear H a W
                rintro a W H ⟨hv37, -⟩
                refine wp_ret ?_
                repeat (first | (with_reducible refine then_ret ?_) | (with_reducible refine blk_ret ?_))
                refine end_tmp (p := 2) rfl rfl H (fun hb => ?_)
                refine ⟨_, rfl, hb, ?_⟩
                rw [hleaf (by omega), contD_eq, List.append_nil]
                have e_ : ownC x.k x.f x.n lb x.t la = ([] ++ lb) := by unfold ownC; rw [if_neg (by omega), if_neg (by omega), if_neg (by omega), if_pos (by omega)]; rfl
                rw [e_]
                exact hv37.bf
              | false =>
                rw [hq8] at H
                have hq8p := of_decide_eq_false hq8
                refine wp_cond_false (H.ev rfl) ?_
                refine wp_skip ?_
                refine hK11 _ _ ?_
                clear hK11
                refine wp_exit ?_
                repeat (first | (with_reducible refine then_exit ?_) | (with_reducible refine blk_pass (by decide) ?_))
                refine blk_exit ?_
                refine hK3 _ _ ?_
                clear hK3
                refine sqR H gs0 fun Z_ z_ => rV rfl (does_fieldAddr rfl rfl fa_der6) <| rV rfl (does_loadAt (v := .slice x.ks.A x.ks.n x.ks.c) rfl rfl (k := 0) rfl ld_derS) <| rC rfl rfl ⟨_, Tryd.func36, by kernel_rfl⟩ rfl (fun a W H _ => (hkb _ H.below)) fun v40 => rK [1, 1, 1, 1, 1, 0] [] [] <| rS 1 rfl <| rK [1, 0, 0, 0, 0, 0, 0] [0] [] <| rN z_ ?_
                try clear H a W
                rintro a W H ⟨hv40, -⟩
                refine wp_ret ?_
                repeat (first | (with_reducible refine then_ret ?_) | (with_reducible refine blk_ret ?_))
                refine end_tmp (p := 2) rfl rfl H (fun hb => ?_)
                refine ⟨_, rfl, hb, ?_⟩
                rw [contD_eq, show ownC x.k x.f x.n lb x.t la = [] by unfold ownC; rw [if_neg (by omega), if_neg (by omega), if_neg (by omega), if_neg (by omega), if_neg (by omega), if_neg (by omega)], List.nil_append]
                exact hv40
set_option maxHeartbeats 4000000 in
theorem kids_walk {Ak : Option Addr} {nk ck g o : Nat} {sub : Nat → DH} (kk : Nat → List UInt8) (w : World) (hA : 0 < nk → Ak = some ⟨g, o, none⟩ ∧ g < w.heap.size ∧ ∀ i, i < nk → ∀ (j : Nat) (v : Value), (sub i).cs[j]? = some v → w.cell? ⟨g, o + i * 7 + j, none⟩ = some v) (hnk : nk < 9223372036854775808) (hkl : ∀ i, i < nk → (kk i).length ≤ 900000) (hk1 : ∀ i, i < nk → 0 < (kk i).length) (hf : ∀ k, k < nk → ∀ W, Below w.heap.size w W → Calls Tryd.prog 13 #[.agg (sub k).cs] W (fun r W' => ∃ v, r = .returned v ∧ Below W.heap.size W W' ∧ BF (kk k) v W')) : Calls Tryd.prog 36 #[.slice Ak nk ck] w (fun rr w' => ∃ v N, rr = .returned v ∧ Below w.heap.size w w' ∧ BF (kkL kk N) v w' ∧ N ≤ nk ∧ (∀ i, i < N → ¬ 65000 < (kkL kk i).length) ∧ (N = nk ∨ N < nk ∧ ¬ ¬ 65000 < (kkL kk N).length)) := by
  refine calls_st (vs := [.slice Ak nk ck]) 21 Tryd.func36 rfl Tryd.ntmps36 rfl (fun a W H => ?_)
  replace H : St 21 w a W [(0, .slice Ak nk ck)] [] := H
  refine sqR H gs0 fun Z_ z_ => rS 1 rfl <| rN0 z_ ?_
  try clear H a W
  intro a W H
  refine sqR H gs0 fun Z_ z_ => rS 1 rfl <| rN0 z_ ?_
  try clear H a W
  intro a W H
  refine wp_seq_k (fun K3 hK3 => ?_)
  refine sqR H gs0 fun Z_ z_ => rS 1 rfl <| rV rfl (does_len Tryd.underlying25 rfl rfl) <| rS 1 rfl <| rK [1, 1, 1, 1, 1, 0] [] [] <| rN0 z_ ?_
  try clear H a W
  intro a W H
  obtain ⟨N, hN, hpos, hend⟩ : ∃ N, N ≤ nk ∧ (∀ i, i < N → ¬ 65000 < (kkL kk i).length) ∧ (N = nk ∨ N < nk ∧ ¬ ¬ 65000 < (kkL kk N).length) := rounds_at (fun i => ¬ 65000 < (kkL kk i).length) nk
  refine wp_block ?_
  refine wp_rounds N (fun k a W => ∃ (A3 : Option Addr) (c3 : Nat) (t3 : Hep), OutD 5 1 t3 (.slice A3 (kkL kk k).length c3) (kkL kk k).length ((kkL kk k).map bv) ∧ St 21 w a W [(8, .int .i64 ((k : Nat) : Int)), (3, .slice A3 (kkL kk k).length c3), (7, .int .i64 ((nk : Nat) : Int)), (6, .slice Ak nk ck), (2, .slice none 0 0)] (t3)) (k0 := 0) (show ∃ (A3 : Option Addr) (c3 : Nat) (t3 : Hep), OutD 5 1 t3 (.slice A3 (kkL kk 0).length c3) (kkL kk 0).length ((kkL kk 0).map bv) ∧ St 21 w a W [(8, .int .i64 ((0 : Nat) : Int)), (3, .slice A3 (kkL kk 0).length c3), (7, .int .i64 ((nk : Nat) : Int)), (6, .slice Ak nk ck), (2, .slice none 0 0)] (t3) from ⟨none, 0, [], by rw [kkL_0]; exact OutD.nil _ _, by rw [kkL_0]; exact H.pick [0, 3, 1, 2, 4] [] rfl⟩) (by omega) ?_
  try clear H a W
  rintro k a W hk ⟨A3, c3, t3, hOD, H⟩
  by_cases hk2 : k < N
  · have hp_ := hpos k hk2
    refine sqR H gs0 fun Z_ z_ => rV rfl (does_binOp rfl rfl rfl (zd_lss_int (k := ((k : Nat) : Int)) (m := ((nk : Nat) : Int)) (decide_eq_true (by omega)) _ _)) <| rN0 z_ ?_
    try clear H a W
    intro a W H
    refine cdT H rfl ?_
    refine wp_seq_k (fun K6 hK6 => ?_)
    refine wp_block ?_
    refine sqR H gs0 fun Z_ z_ => rV rfl (does_indexAddr rfl rfl rfl (ia_kids (j := k) (hA (by omega)).1 (by omega))) <| rV rfl (does_kid (y := sub k) rfl rfl (hA (by omega)).2.1 ((hA (by omega)).2.2 k (by omega))) <| rA rfl rfl al_der fun g1 => rW [1] ⟨rfl, rfl⟩ rfl rfl rfl (info_der (sub k)) (size_der DH.no (sub k)) (sub k).one <| rN0 z_ ?_
    try clear H a W
    intro a W H
    refine wp_seq_k (fun K8 hK8 => ?_)
    refine sqR H gs0 fun Z_ z_ => rS 1 rfl <| rV rfl (does_len Tryd.underlying23 rfl rfl) <| rV rfl (does_binOp rfl rfl rfl (zd_gtr_int (k := (((kkL kk k).length : Nat) : Int)) (m := 65000) (decide_eq_false (by omega)) _ _)) <| rN0 z_ ?_
    try clear H a W
    intro a W H
    refine wp_cond_false (H.ev rfl) ?_
    refine wp_skip ?_
    refine hK8 _ _ ?_
    clear hK8
    refine rgP H gs0 (rS 1 rfl <| rV rfl (does_load rfl rfl (k := 0) rfl Tryd.underlying27 rfl (info_der (sub k))) <| rC rfl rfl ⟨_, Tryd.func13, by kernel_rfl⟩ rfl (fun a W H _ => (hf k (by omega) _ H.below)) fun v17 => rI ?_)
    try clear H a W
    rintro a W H ⟨hv17, -⟩
    refine pl_appDB (h := [(g1, 27, (sub k).cs)]) (t := t3) rfl rfl rfl hOD hv17 (hk1 _ (by omega)) (by have h1_ := hkl k (by omega); omega) rfl rfl rfl rfl H ?_
    try clear H a W
    intro A4 c4 t4 a W hOD2 H
    replace H : St 21 w a W [(18, .slice A4 (kkL kk k ++ kk k).length c4), (17, v17), (16, .agg ((sub k).cs)), (15, .slice A3 (kkL kk k).length c3), (14, .bool false), (13, .int .i64 (((kkL kk k).length : Nat) : Int)), (12, .slice A3 (kkL kk k).length c3), (5, .pointer (some ⟨g1, 0, none⟩)), (11, .agg ((sub k).cs)), (10, .pointer (some ⟨g, o + k * 7, none⟩)), (9, .bool true), (8, .int .i64 ((k : Nat) : Int)), (3, .slice A3 (kkL kk k).length c3), (7, .int .i64 ((nk : Nat) : Int)), (6, .slice Ak nk ck), (2, .slice none 0 0)] ((g1, 27, (sub k).cs) :: t4) := H
    refine rgO H gs0 (rK [1, 1, 1, 1, 1, 1, 1, 1, 1, 1, 1, 1, 0] [] [] <| rS 1 rfl <| rZ0 ?_)
    try clear H a W
    intro a W H
    refine blk_normal ?_
    refine hK6 _ _ ?_
    clear hK6
    refine rgP H gs0 (rV rfl (does_binOp rfl rfl rfl (zd_add_int (k := ((k : Nat) : Int)) (m := 1) (c := ((k + 1 : Nat) : Int)) (by omega) (by omega) _ _)) <| rK [1, 1, 1, 1, 1, 1, 1, 1, 1, 1, 1, 1, 1, 0] [] [] <| rS 1 rfl <| rZ0 ?_)
    try clear H a W
    intro a W H
    refine ⟨k + 1, by omega, by omega, A4, c4, t4, by rw [kkL_succ]; exact hOD2, ?_⟩
    rw [kkL_succ]
    exact H.pickF (h := [(g1, 27, (sub k).cs)]) (t := t4) [0, 2, 14, 15, 16] [] rfl
  · obtain rfl : k = N := by omega
    rcases hend with hend | hend
    · refine sqR H gs0 fun Z_ z_ => rV rfl (does_binOp rfl rfl rfl (zd_lss_int (k := ((k : Nat) : Int)) (m := ((nk : Nat) : Int)) (decide_eq_false (by omega)) _ _)) <| rK [1, 1, 1, 0] [] [] <| rN0 z_ ?_
      try clear H a W
      intro a W H
      refine wp_seq_k (fun K11 hK11 => ?_)
      refine wp_cond_false (H.ev rfl) ?_
      refine wp_exit ?_
      repeat (first | (with_reducible refine then_exit ?_) | (with_reducible refine blk_pass (by decide) ?_))
      refine blk_exit ?_
      refine hK3 _ _ ?_
      clear hK3
      refine sqR H gs0 fun Z_ z_ => rS 1 rfl <| rK [1, 1, 1, 1, 1, 0] [] [] <| rS 1 rfl <| rK [1, 0, 0, 0, 0, 0] [] [] <| rN0 z_ ?_
      try clear H a W
      intro a W H
      refine wp_ret ?_
      repeat (first | (with_reducible refine then_ret ?_) | (with_reducible refine blk_ret ?_))
      refine end_tmp (p := 2) rfl rfl H (fun hb => ?_)
      exact ⟨_, k, rfl, hb, hOD.bf H (fun p hp => by simp [hp]), hN, hpos, by first | exact .inl hend | exact .inr hend⟩
    · refine sqR H gs0 fun Z_ z_ => rV rfl (does_binOp rfl rfl rfl (zd_lss_int (k := ((k : Nat) : Int)) (m := ((nk : Nat) : Int)) (decide_eq_true (by omega)) _ _)) <| rK [1, 1, 1, 0] [] [] <| rN0 z_ ?_
      try clear H a W
      intro a W H
      refine cdT H rfl ?_
      refine wp_seq_k (fun K14 hK14 => ?_)
      refine wp_block ?_
      refine sqR H gs0 fun Z_ z_ => rV rfl (does_indexAddr rfl rfl rfl (ia_kids (j := k) (hA (by omega)).1 (by omega))) <| rV rfl (does_kid (y := sub k) rfl rfl (hA (by omega)).2.1 ((hA (by omega)).2.2 k (by omega))) <| rA rfl rfl al_der fun g2 => rW [1] ⟨rfl, rfl⟩ rfl rfl rfl (info_der (sub k)) (size_der DH.no (sub k)) (sub k).one <| rK [1, 0, 0, 0, 1, 1, 0] [] [] <| rN0 z_ ?_
      try clear H a W
      intro a W H
      refine wp_seq_k (fun K16 hK16 => ?_)
      refine sqR H gs0 fun Z_ z_ => rS 1 rfl <| rV rfl (does_len Tryd.underlying23 rfl rfl) <| rV rfl (does_binOp rfl rfl rfl (zd_gtr_int (k := (((kkL kk k).length : Nat) : Int)) (m := 65000) (decide_eq_true (by omega)) _ _)) <| rK [1, 0, 0] [] [] <| rN0 z_ ?_
      try clear H a W
      intro a W H
      refine wp_cond_true (H.ev rfl) ?_
      refine wp_exit ?_
      repeat (first | (with_reducible refine then_exit ?_) | (with_reducible refine blk_pass (by decide) ?_))
      refine blk_exit ?_
      refine hK3 _ _ ?_
      clear hK3
      refine sqR H gs0 fun Z_ z_ => rS 1 rfl <| rK [1, 1, 1, 1, 1, 0] [] [] <| rS 1 rfl <| rK [1, 0, 0, 0, 0, 0] [0] [] <| rN0 z_ ?_
      try clear H a W
      intro a W H
      refine wp_ret ?_
      repeat (first | (with_reducible refine then_ret ?_) | (with_reducible refine blk_ret ?_))
      refine end_tmp (p := 2) rfl rfl H (fun hb => ?_)
      exact ⟨_, k, rfl, hb, hOD.bf H (fun p hp => by simp [hp]), hN, hpos, by first | exact .inl hend | exact .inr hend⟩
theorem lenD_le (n : Nat) : (lenD n).length ≤ 3 := by
  unfold lenD
  split
  · simp
  · split <;> simp
set_option maxHeartbeats 4000000 in
theorem form_walk {x : DH} {lc : List UInt8} (w : World) (hpg : PGt w) (hk : 1 ≤ x.k ∧ x.k ≤ 10) (hx8 : x.k = 8 → 0 ≤ x.n ∧ x.n ≤ 30) (hct : ∀ W, Below w.heap.size w W → Calls Tryd.prog 23 #[.agg x.cs] W (fun r W' => ∃ v, r = .returned v ∧ Below W.heap.size W W' ∧ BF lc v W')) : Calls Tryd.prog 13 #[.agg (x.cs)] w (fun rr w' => ∃ v, rr = .returned v ∧ Below w.heap.size w w' ∧ BF (if 65000 < lc.length then lc else headD (tagD x.k x.n) lc) v w') := by
  refine calls_st (vs := [.agg (x.cs)]) 19 Tryd.func13 rfl Tryd.ntmps13 rfl (fun a W H => ?_)
  replace H : St 19 w a W [(0, .agg (x.cs))] [] := H
  refine sqR H gs0 fun Z_ z_ => rB rfl rfl rfl (bx_der x) fun g1 => rS 1 rfl <| rK [1, 1, 0] [] [] <| rN0 z_ ?_
  try clear H a W
  intro a W H
  refine sqR H gs0 fun Z_ z_ => rV rfl (does_load rfl rfl (k := 0) rfl Tryd.underlying27 rfl (info_der x)) <| rC rfl rfl ⟨_, Tryd.func23, by kernel_rfl⟩ rfl (fun a W H _ => (hct _ H.below)) fun v5 => rS 1 rfl <| rK [1, 0, 0] [] [] <| rN z_ ?_
  try clear H a W
  rintro a W H ⟨hv5, -⟩
  obtain ⟨Ac, nc, cc, rfl, hsl_⟩ := hv5
  have hnc : lc.length = nc := hsl_.len
  obtain ⟨ws, H, HK, hFc, hBg1⟩ : ∃ ws, St 19 ws a W [(3, .slice Ac nc cc), (2, .slice none 0 0), (1, .pointer (some ⟨g1, 0, none⟩))] [] ∧ Kn w ws [(g1, 27, x.cs)] ∧ BF lc (.slice Ac nc cc) ws ∧ Blk ws g1 27 x.cs := ⟨W, H.rebase, H.kn, ⟨_, _, _, rfl, hsl_⟩, H.blk (k := 0) rfl⟩
  replace hpg := hpg.ext HK.below
  refine wp_seq_k (fun K3 hK3 => ?_)
  refine sqR H gs0 fun Z_ z_ => rS 1 rfl <| rV rfl (does_len Tryd.underlying23 rfl rfl) <| rV rfl (does_binOp rfl rfl rfl (zd_gtr_int (k := ((nc : Nat) : Int)) (m := 65000) rfl _ _)) <| rK [1, 0, 0] [] [] <| rN0 z_ ?_
  try clear H a W
  intro a W H
  cases hq1 : decide (65000 < ((nc : Nat) : Int)) with
  | true =>
    rw [hq1] at H
    have hq1p := of_decide_eq_true hq1
    refine wp_cond_true (H.ev rfl) ?_
    refine sqR H gs0 fun Z_ z_ => rS 1 rfl <| rK [1, 1, 1, 0] [] [] <| rS 1 rfl <| rK [1, 0, 0] [] [] <| rN0 z_ ?_
    try clear H a W
    intro a W H
    refine wp_ret ?_
    repeat (first | (with_reducible refine then_ret ?_) | (with_reducible refine blk_ret ?_))
    refine end_tmp (p := 2) rfl rfl H (fun hb => ?_)
    refine ⟨_, rfl, HK.below.trans (hb.mono HK.below.size), ?_⟩
    rw [if_pos (by omega)]
    exact bf_old hFc H
  | false =>
    rw [hq1] at H
    have hq1p := of_decide_eq_false hq1
    refine wp_cond_false (H.ev rfl) ?_
    refine wp_skip ?_
    refine hK3 _ _ ?_
    clear hK3
    refine sqR H gs0 fun Z_ z_ => rV rfl (does_loadOld rfl rfl hBg1 Tryd.underlying27 rfl (info_der x)) <| rV rfl (does_call rfl ⟨_, Tryd.func25, by kernel_rfl⟩ rfl (fun W hb => tag_walk x W (hpg.ext hb) hk hx8)) <| rO rfl (fun a W H _ => ob_byteOF (x := (byteD (tagD x.k x.n).toNat)) H (wanted_none rfl) rfl rfl) fun v12 => rS 1 rfl <| rV rfl (does_len Tryd.underlying23 rfl rfl) <| rC rfl rfl ⟨_, Tryd.func26, by kernel_rfl⟩ rfl (fun a W H _ => (of_call H (length_any nc _ (by omega)))) fun v15 => rS 1 rfl <| rO rfl (fun a W H ⟨hv15, hv12, _⟩ => ob_rows3S H (wanted_none rfl) rfl rfl rfl rfl hv12.bf hv15.bf (bf_old hFc H)) fun v17 => rC rfl rfl ⟨_, Tryd.func24, by kernel_rfl⟩ rfl (fun a W H ⟨hv17, hv15, hv12, _⟩ => (by have h_ := of_call H (join_any hv17.rf (by simp) (by simp only [List.flatten_cons, List.flatten_nil, List.length_append, List.length_cons, List.length_nil]; have hld_ := lenD_le nc; omega)); rw [flat3] at h_; exact h_)) fun v18 => rK [1, 1, 1, 1, 1, 1, 1, 1, 1, 1, 1, 0] [] [] <| rS 1 rfl <| rK [1, 0, 0, 0, 0, 0, 0, 0, 0, 0, 0, 0, 0] [] [1, 0, 0, 0] <| rN z_ ?_
    try clear H a W
    rintro a W H ⟨hv18, -⟩
    refine wp_ret ?_
    repeat (first | (with_reducible refine then_ret ?_) | (with_reducible refine blk_ret ?_))
    refine end_tmp (p := 2) rfl rfl H (fun hb => ?_)
    refine ⟨_, rfl, HK.below.trans (hb.mono HK.below.size), ?_⟩
    rw [if_neg (by omega)]
    have e_ : headD (tagD x.k x.n) lc = ([(byteD (tagD x.k x.n).toNat)] ++ ((lenD nc) ++ lc)) := by
      unfold headD
      rw [hnc]
      rfl
    rw [e_]
    exact hv18.bf
/-- Its own bytes and text are not too many, nor its kids'. -/
def leafOk : Nat → DT → Prop
  | 0, _ => True
  | d + 1, .mk k f n b t a ks => b.length ≤ 100000 ∧ t.length ≤ 100000 ∧ ∀ T ∈ ks, leafOk d T
def kfQ (ks : List DT) (d : Nat) (i : Nat) : List UInt8 := match ks[i]? with
  | some T => formQ d T
  | none => []
theorem kf_take (ks : List DT) (d : Nat) : ∀ n, n ≤ ks.length → kkL (kfQ ks d) n = (ks.take n).flatMap (formQ d)
  | 0, _ => by rw [kkL_0, List.take_zero, List.flatMap_nil]
  | n + 1, h => by
    have e : ks[n]? = some _ := List.getElem?_eq_getElem (by omega)
    rw [kkL_succ, kf_take ks d n (by omega), List.take_add_one, e, Option.toList_some, List.flatMap_append]
    congr 1
    unfold kfQ
    rw [e]
    simp
theorem kidsQ_rounds {f : DT → List UInt8} : ∀ (N : Nat) (ks : List DT) (l : List UInt8), N ≤ ks.length → (∀ i, i < N → ¬ 65000 < (l ++ (ks.take i).flatMap f).length) → (N = ks.length ∨ 65000 < (l ++ (ks.take N).flatMap f).length) → kidsQ f ks l = l ++ (ks.take N).flatMap f
  | 0, ks, l, _, _, h => by
    rw [List.take_zero, List.flatMap_nil, List.append_nil] at h ⊢
    cases ks with
    | nil => rfl
    | cons k r =>
      unfold kidsQ
      rw [if_pos (by
        rcases h with h | h
        · simp at h
        · exact h)]
  | N + 1, [], l, h, _, _ => by simp at h
  | N + 1, k :: r, l, hN, hp, he => by
    unfold kidsQ
    have h0 := hp 0 (by omega)
    rw [List.take_zero, List.flatMap_nil, List.append_nil] at h0
    rw [if_neg h0, kidsQ_rounds N r (l ++ f k) (by simp at hN; omega) (fun i hi => by
      have := hp (i + 1) (by omega)
      rw [List.take_succ_cons, List.flatMap_cons, ← List.append_assoc] at this
      exact this) (by
      rcases he with he | he
      · left
        simp at he
        exact he
      · right
        rw [List.take_succ_cons, List.flatMap_cons, ← List.append_assoc] at he
        exact he), List.take_succ_cons, List.flatMap_cons, List.append_assoc]
theorem oid_len {a : List Nat} (ha : ∀ x ∈ a, x < 18446744073709551616) (h2 : 2 ≤ a.length ∧ a.length ≤ 16) (h0 : a.getD 0 0 ≤ 2) (h1 : a.getD 1 0 < 2147483648) : (oidD a).length ≤ 200 := by
  have h := arL_len ha (by omega) (a.length - 2)
  rw [arL_all h2.1] at h
  omega
theorem kidsQ_le {f : DT → List UInt8} {M : Nat} : ∀ (ks : List DT) (l : List UInt8), (∀ k ∈ ks, (f k).length ≤ M) → l.length ≤ 65000 + M → (kidsQ f ks l).length ≤ 65000 + M
  | [], l, _, hl => hl
  | k :: r, l, h, hl => by
    unfold kidsQ
    split
    · exact hl
    · exact kidsQ_le r (l ++ f k) (fun x hx => h x (List.mem_cons_of_mem _ hx)) (by
        rw [List.length_append]
        have := h k List.mem_cons_self
        omega)
theorem form_len (u8 : List UInt8 → Bool) : ∀ (d : Nat) (T : DT), mayD u8 d T = true → leafOk d T → (formQ d T).length ≤ 100004 + 65004 * d ∧ 1 ≤ (formQ d T).length
  | 0, T, h, _ => by cases h
  | d + 1, .mk k f n b t a ks, h, hl => by
    rw [mayD_succ, Bool.and_eq_true] at h
    obtain ⟨ho, hk⟩ := h
    obtain ⟨hb, ht, hks⟩ := hl
    obtain ⟨hleaf, hao, hbe⟩ := own_leaf ho
    have hkk : ∀ T ∈ ks, (formQ d T).length ≤ 100004 + 65004 * d := fun T hT => (form_len u8 d T (List.all_eq_true.1 hk T hT) (hks T hT)).1
    have hq := kidsQ_le ks [] hkk (Nat.zero_le _)
    have hown : (ownC k f n b t a).length ≤ 100001 ∧ (ks ≠ [] → ownC k f n b t a = []) := by
      unfold ownD at ho
      dsimp only at ho
      simp only [Bool.and_eq_true, decide_eq_true_eq] at ho
      obtain ⟨⟨⟨⟨⟨⟨_, h5⟩, _⟩, _⟩, h7⟩, _⟩, _⟩ := ho
      constructor
      · unfold ownC
        split
        · simp
        · split
          · unfold wholeD
            rw [be_len]
            have := size_pos n
            omega
          · split
            · rw [List.length_cons]
              omega
            · split
              · omega
              · split
                · rename_i h5e
                  rw [if_pos h5e] at h5
                  have h2 := hao h5e
                  have h6 : ∀ x ∈ a, x < 18446744073709551616 := fun x hx => by
                    unfold arcsOk at h5
                    simp only [Bool.and_eq_true] at h5
                    have := List.all_eq_true.1 h5.2 x hx
                    simp at this
                    omega
                  have := oid_len h6 ⟨h2.1, h2.2.1⟩ h2.2.2.1 h2.2.2.2
                  omega
                · split
                  · omega
                  · simp
      · intro hne
        have hlen : ¬ ks.length = 0 := fun e => hne (List.eq_nil_of_length_eq_zero e)
        unfold ownC
        rw [if_neg (by omega), if_neg (by omega), if_neg (by omega), if_neg (by omega), if_neg (by omega), if_neg (by omega)]
    have hc : (contD k f n b t a (kidsQ (formQ d) ks [])).length ≤ 100001 + (65004 + 65004 * d) := by
      rw [contD_eq, List.length_append]
      by_cases e : ks = []
      · subst e
        show (ownC k f n b t a).length + 0 ≤ _
        omega
      · rw [hown.2 e, List.length_nil]
        omega
    unfold formQ
    split
    · omega
    · rw [head_len]
      have := lenD_le (contD k f n b t a (kidsQ (formQ d) ks [])).length
      omega
theorem form_sees {w : World} {B : Nat} {T : DT} {x : DH} (u8 : List UInt8 → Bool) (h : DX w B T x) : ∀ (d : Nat) (W : World), d ≤ 12 → Sees w B W → PGt W → mayD u8 d T = true → leafOk d T → Calls Tryd.prog 13 #[.agg x.cs] W (fun r W' => ∃ v, r = .returned v ∧ Below W.heap.size W W' ∧ BF (formQ d T) v W') := by
  induction h with
  | @mk x b a ks sub hk hn hm hb ha hl hcap hc hs ih =>
    intro d W hd hW hpg hmay hlf
    rcases d with _ | d
    · cases hmay
    · rw [mayD_succ, Bool.and_eq_true] at hmay
      obtain ⟨hown, hkids⟩ := hmay
      obtain ⟨hleaf, hao, hbe⟩ := own_leaf hown
      obtain ⟨hlb, hlt, hlk⟩ := hlf
      have hla := ha.len
      have hko : 1 ≤ x.k ∧ x.k ≤ 10 ∧ (x.k = 8 → 0 ≤ x.n ∧ x.n ≤ 30) := by
        unfold ownD at hown
        dsimp only at hown
        simp only [Bool.and_eq_true, decide_eq_true_eq] at hown
        obtain ⟨⟨⟨⟨⟨⟨⟨⟨⟨h1, h2⟩, _⟩, _⟩, _⟩, _⟩, h8⟩, _⟩, _⟩, _⟩ := hown
        refine ⟨h1, h2, fun e => ?_⟩
        simp only [Bool.or_eq_true, Bool.and_eq_true, decide_eq_true_eq] at h8
        omega
      have e0 : formQ (d + 1) (.mk x.k x.f x.n b x.t a ks) = if 65000 < (contD x.k x.f x.n b x.t a (kidsQ (formQ d) ks [])).length then contD x.k x.f x.n b x.t a (kidsQ (formQ d) ks []) else headD (tagD x.k x.n) (contD x.k x.f x.n b x.t a (kidsQ (formQ d) ks [])) := rfl
      rw [e0]
      refine form_walk W hpg ⟨hko.1, hko.2.1⟩ hko.2.2 (fun W2 hB => ?_)
      have hW2 := hW.below hB
      obtain ⟨gx2, ox2, hax2⟩ := ((ha.keep hW2.2).more hW2.1).nat (Nat.le_refl _)
      have hgl : ∀ i, a.getD i 0 < 18446744073709551616 := fun i => by
        rw [List.getD_eq_getElem?_getD]
        cases e : a[i]? with
        | none => simp
        | some y => exact ha.lt y (List.mem_iff_getElem?.2 ⟨i, e⟩)
      refine cont_walk W2 hn hm ⟨_, _, _, rfl, (hb.keep hW2.2).more hW2.1⟩ hlb hla ha.cap ha.lt hgl (fun hk5 => by have := hao hk5; omega) hax2 ⟨hko.1, hko.2.1⟩ (fun hno => by
        have : ks = [] := List.eq_nil_of_length_eq_zero (by omega)
        subst this
        rfl) (fun W3 hB3 => ?_)
      have hW3 := hW2.below hB3
      obtain ⟨g3, o3, hgo3⟩ := kids_at hc hW3
      have hfl : ∀ i, i < x.ks.n → (kfQ ks d i).length ≤ 900000 ∧ 0 < (kfQ ks d i).length := fun i hi => by
        have e1 : ks[i]? = some _ := List.getElem?_eq_getElem (by omega)
        have hmem : ks[i]'(by omega) ∈ ks := List.getElem_mem _
        have h1 := form_len u8 d _ (List.all_eq_true.1 hkids _ hmem) (hlk _ hmem)
        unfold kfQ
        rw [e1]
        dsimp only
        omega
      refine (kids_walk (sub := sub) (kfQ ks d) W3 hgo3 hm.2.2.2 (fun i hi => (hfl i hi).1) (fun i hi => (hfl i hi).2) (fun i hi W4 hB4 => ?_)).mono ?_
      · have e1 : ks[i]? = some _ := List.getElem?_eq_getElem (by omega)
        have hmem : ks[i]'(by omega) ∈ ks := List.getElem_mem _
        have e2 : kfQ ks d i = formQ d (ks[i]'(by omega)) := by unfold kfQ; rw [e1]
        rw [e2]
        exact ih i _ e1 d W4 (by omega) (hW3.below hB4) (((hpg.ext hB).ext hB3).ext hB4) (List.all_eq_true.1 hkids _ hmem) (hlk _ hmem)
      · rintro r W' ⟨v, N, rfl, hbel, hbf, hN, hpos, hend⟩
        refine ⟨v, rfl, hbel, ?_⟩
        rw [kf_take ks d N (by omega)] at hbf
        have := kidsQ_rounds (f := formQ d) N ks [] (by omega) (fun i hi => by
          have := hpos i hi
          rw [kf_take ks d i (by omega)] at this
          rw [List.nil_append]
          exact this) (by
          rcases hend with h | ⟨_, h⟩
          · exact .inl (by omega)
          · right
            rw [kf_take ks d N (by omega)] at h
            rw [List.nil_append]
            exact Decidable.of_not_not h)
        rw [this, List.nil_append]
        exact hbf
end Go.Proofs.YtonhkclkddobhaaDoor
namespace Go.Proofs.YtonhkclkddobhaaDoor
set_option linter.unusedVariables false
set_option linter.unusedSimpArgs false
set_option maxRecDepth 100000
open Go Go.RowKit
structure BP (w : World) (P : Nat → Prop) (A : Option Addr) (n c : Nat) (l : List UInt8) : Prop where
  len : l.length = n
  cap : n ≤ c
  nil_ : A = none → c = 0
  at_ : 0 < n → ∃ b o, A = some ⟨b, o, none⟩ ∧ P b ∧ ∀ j x, l[j]? = some x → w.cell? ⟨b, o + j, none⟩ = some (.int .u8 (x.toNat : Int))
structure NP (w : World) (P : Nat → Prop) (A : Option Addr) (n c : Nat) (l : List Nat) : Prop where
  len : l.length = n
  cap : n ≤ c
  nil_ : A = none → c = 0
  lt : ∀ x ∈ l, x < 18446744073709551616
  at_ : 0 < n → ∃ b o, A = some ⟨b, o, none⟩ ∧ P b ∧ ∀ (j x : Nat), l[j]? = some x → w.cell? ⟨b, o + j, none⟩ = some (.int .u64 (x : Int))
/-- A value reads as a tree, from blocks that are told. -/
inductive DP (w : World) (P : Nat → Prop) : DT → DH → Prop
  | mk {x : DH} {b : List UInt8} {a : List Nat} {ks : List DT} (sub : Nat → DH)
      (hk : -9223372036854775808 ≤ x.k ∧ x.k < 9223372036854775808) (hn : -9223372036854775808 ≤ x.n ∧ x.n < 9223372036854775808)
      (hm : x.b.n < 9223372036854775808 ∧ x.t.length < 9223372036854775808 ∧ x.a.n < 9223372036854775808 ∧ x.ks.n < 9223372036854775808)
      (hb : BP w P x.b.A x.b.n x.b.c b) (ha : NP w P x.a.A x.a.n x.a.c a) (hl : ks.length = x.ks.n) (hcap : x.ks.n ≤ x.ks.c)
      (hc : 0 < x.ks.n → ∃ g o, x.ks.A = some ⟨g, o, none⟩ ∧ P g ∧ ∀ i, i < x.ks.n → ∀ (j : Nat) (v : Value), (sub i).cs[j]? = some v → w.cell? ⟨g, o + i * 7 + j, none⟩ = some v)
      (hs : ∀ (i : Nat) (T : DT), ks[i]? = some T → DP w P T (sub i)) : DP w P (.mk x.k x.f x.n b x.t a ks) x
section
variable {w w' : World} {P P' : Nat → Prop} {A : Option Addr} {n c B : Nat}
theorem BP.go {l : List UInt8} (h : BP w P A n c l) (hk : ∀ p : Addr, P p.block → w'.cell? p = w.cell? p) (hp : ∀ b, P b → P' b) : BP w' P' A n c l :=
  ⟨h.len, h.cap, h.nil_, fun hn => by
    obtain ⟨b, o, e, hb, hc⟩ := h.at_ hn
    exact ⟨b, o, e, hp b hb, fun j x hx => (hk _ hb).trans (hc j x hx)⟩⟩
theorem NP.go {l : List Nat} (h : NP w P A n c l) (hk : ∀ p : Addr, P p.block → w'.cell? p = w.cell? p) (hp : ∀ b, P b → P' b) : NP w' P' A n c l :=
  ⟨h.len, h.cap, h.nil_, h.lt, fun hn => by
    obtain ⟨b, o, e, hb, hc⟩ := h.at_ hn
    exact ⟨b, o, e, hp b hb, fun j x hx => (hk _ hb).trans (hc j x hx)⟩⟩
theorem DP.go {T : DT} {x : DH} (h : DP w P T x) (hk : ∀ p : Addr, P p.block → w'.cell? p = w.cell? p) (hp : ∀ b, P b → P' b) : DP w' P' T x := by
  induction h with
  | mk sub h1 h2 h3 h4 h5 h6 h7 h8 h9 ih =>
    exact .mk sub h1 h2 h3 (h4.go hk hp) (h5.go hk hp) h6 h7 (fun hn => by
      obtain ⟨g, o, e, hg, hc⟩ := h8 hn
      exact ⟨g, o, e, hp g hg, fun i hi j v hv => (hk _ hg).trans (hc i hi j v hv)⟩) ih
theorem BP.bs {l : List UInt8} (h : BP w P A n c l) (hp : ∀ b, P b → b < B) : BS w B A n c l := ⟨h.len, h.cap, h.nil_, fun hn => by
  obtain ⟨b, o, e, hb, hc⟩ := h.at_ hn
  exact ⟨b, o, e, hp b hb, hc⟩⟩
theorem NP.ns {l : List Nat} (h : NP w P A n c l) (hp : ∀ b, P b → b < B) : NS w B A n c l := ⟨h.len, h.cap, h.nil_, h.lt, fun hn => by
  obtain ⟨b, o, e, hb, hc⟩ := h.at_ hn
  exact ⟨b, o, e, hp b hb, hc⟩⟩
theorem DP.dx {T : DT} {x : DH} (h : DP w P T x) (hp : ∀ b, P b → b < B) : DX w B T x := by
  induction h with
  | mk sub h1 h2 h3 h4 h5 h6 h7 h8 h9 ih =>
    exact .mk sub h1 h2 h3 (h4.bs hp) (h5.ns hp) h6 h7 (fun hn => by
      obtain ⟨g, o, e, hg, hc⟩ := h8 hn
      exact ⟨g, o, e, hp g hg, hc⟩) ih
theorem BP.nil (w : World) (P : Nat → Prop) : BP w P none 0 0 [] := ⟨rfl, Nat.le_refl _, fun _ => rfl, fun h => absurd h (by omega)⟩
theorem NP.nil (w : World) (P : Nat → Prop) : NP w P none 0 0 [] := ⟨rfl, Nat.le_refl _, fun _ => rfl, (fun x h => by cases h), fun h => absurd h (by omega)⟩
end
/-- The cells of kids, one behind the other. -/
def kidV (xs : List DH) : List Value := xs.flatMap fun x => x.cs.toList
theorem kidV_len (xs : List DH) : (kidV xs).length = xs.length * 7 := by
  induction xs with
  | nil => rfl
  | cons x r ih =>
    show (x.cs.toList ++ kidV r).length = _
    rw [List.length_append, ih, Array.length_toList, x.size, List.length_cons]
    omega
theorem kidV_snoc (xs : List DH) (x : DH) : kidV (xs ++ [x]) = kidV xs ++ x.cs.toList := by simp [kidV]
theorem kidV_get : ∀ {xs : List DH} {i j : Nat} {x : DH} {v : Value}, xs[i]? = some x → x.cs[j]? = some v → (kidV xs)[i * 7 + j]? = some v
  | y :: r, 0, j, x, v, hx, hv => by
    injection hx with hx
    subst hx
    have hj : j < 7 := by
      have := (Array.getElem?_eq_some_iff.1 hv).1
      rwa [y.size] at this
    show (y.cs.toList ++ kidV r)[0 * 7 + j]? = _
    rw [List.getElem?_append_left (by rw [Array.length_toList, y.size]; omega), show 0 * 7 + j = j by omega, Array.getElem?_toList]
    exact hv
  | y :: r, i + 1, j, x, v, hx, hv => by
    show (y.cs.toList ++ kidV r)[(i + 1) * 7 + j]? = _
    rw [List.getElem?_append_right (by rw [Array.length_toList, y.size]; omega), Array.length_toList, y.size, show (i + 1) * 7 + j - 7 = i * 7 + j by omega]
    exact kidV_get (xs := r) hx hv
theorem der_infoD : (Tryd.prog.info? 27).map (fun i => (i.zero, i.size, i.bytes)) = some (some (.agg DH.no.cs), 7, 112) := by kernel_rfl
theorem run_der1 (w : World) (x : DH) : (Instr.buildSlice 25 1 #[(0, .agg x.cs)]).run Tryd.prog w = .ok (.slice (some ⟨w.heap.size, 0, none⟩) 1 1) (w.alloc (.cells x.cs 27)) := by kernel_rfl
section
variable {n : Nat} {w0 w w' : World} {a : Act} {e : Env} {h : Hep} {Q : Exit → Act → World → Prop} {ops : Array Oper} {o : Oper}
end
end Go.Proofs.YtonhkclkddobhaaDoor
namespace Go.Proofs.YtonhkclkddobhaaDoor
set_option linter.unusedVariables false
set_option linter.unusedSimpArgs false
set_option maxRecDepth 100000
open Go Go.RowKit
section
variable {P : Program} {n : Nat} {w0 w w' : World} {a : Act} {e : Env} {h t t2 : Hep} {Q : Exit → Act → World → Prop} {ops : Array Oper} {rest : List Oper} {o : Oper} {E : TypeId} {sz k : Nat} {v : Value} {xs : List Value}
end
/-- A value reads as a tree, from bytes of blocks that were there and from rows that are told (t). -/
inductive DQ (w : World) (P : Nat → Prop) (t : Hep) : DT → DH → Prop
  | mk {x : DH} {b : List UInt8} {a : List Nat} {ks : List DT} (sub : Nat → DH)
      (hk : -9223372036854775808 ≤ x.k ∧ x.k < 9223372036854775808) (hn : -9223372036854775808 ≤ x.n ∧ x.n < 9223372036854775808)
      (hm : x.b.n < 9223372036854775808 ∧ x.t.length < 9223372036854775808 ∧ x.a.n < 9223372036854775808 ∧ x.ks.n < 9223372036854775808)
      (hb : BP w P x.b.A x.b.n x.b.c b) (hal : a.length = x.a.n) (hac : x.a.n ≤ x.a.c) (han : x.a.A = none → x.a.c = 0) (hax : ∀ y ∈ a, y < 18446744073709551616)
      (ha : 0 < x.a.n → ∃ (g : Nat) (cur : Array Value), (g, 36, cur) ∈ t ∧ x.a.A = some ⟨g, 0, none⟩ ∧ ∀ j y : Nat, a[j]? = some y → cur[j]? = some (.int .u64 (y : Int)))
      (hl : ks.length = x.ks.n) (hcap : x.ks.n ≤ x.ks.c)
      (hc : 0 < x.ks.n → ∃ (g : Nat) (cur : Array Value), (g, 27, cur) ∈ t ∧ x.ks.A = some ⟨g, 0, none⟩ ∧ ∀ i, i < x.ks.n → ∀ (j : Nat) (v : Value), (sub i).cs[j]? = some v → cur[i * 7 + j]? = some v)
      (hs : ∀ (i : Nat) (T : DT), ks[i]? = some T → DQ w P t T (sub i)) : DQ w P t (.mk x.k x.f x.n b x.t a ks) x
theorem DQ.go {w w' : World} {P P' : Nat → Prop} {t t' : Hep} {T : DT} {x : DH} (h : DQ w P t T x) (hk : ∀ p : Addr, P p.block → w'.cell? p = w.cell? p) (hp : ∀ b, P b → P' b) (ht : ∀ p ∈ t, p ∈ t') : DQ w' P' t' T x := by
  induction h with
  | mk sub h1 h2 h3 h4 h5 h5c h5n h5x h6 h7 h8 h9 h10 ih =>
    exact .mk sub h1 h2 h3 (h4.go hk hp) h5 h5c h5n h5x (fun hn => by
      obtain ⟨g, cur, hg, e, hc⟩ := h6 hn
      exact ⟨g, cur, ht _ hg, e, hc⟩) h7 h8 (fun hn => by
      obtain ⟨g, cur, hg, e, hc⟩ := h9 hn
      exact ⟨g, cur, ht _ hg, e, hc⟩) ih
/-- Kids that were read so far. -/
structure KD (w : World) (P : Nat → Prop) (t : Hep) (xs : List DH) (Ts : List DT) : Prop where
  len : Ts.length = xs.length
  at_ : ∀ (i : Nat) (x : DH) (T : DT), xs[i]? = some x → Ts[i]? = some T → DQ w P t T x
theorem KD.nil (w : World) (P : Nat → Prop) (t : Hep) : KD w P t [] [] := ⟨rfl, fun i x T hx => by simp at hx⟩
theorem KD.more {w : World} {P : Nat → Prop} {t t' : Hep} {xs : List DH} {Ts : List DT} (K : KD w P t xs Ts) (ht : ∀ p ∈ t, p ∈ t') : KD w P t' xs Ts := ⟨K.len, fun i x T hx hT => (K.at_ i x T hx hT).go (fun _ _ => rfl) (fun _ h => h) ht⟩
theorem KD.snoc {w : World} {P : Nat → Prop} {t : Hep} {xs : List DH} {Ts : List DT} {x : DH} {T : DT} (K : KD w P t xs Ts) (hx : DQ w P t T x) : KD w P t (xs ++ [x]) (Ts ++ [T]) := by
  have hl := K.len
  refine ⟨by simp [hl], fun i y U hy hU => ?_⟩
  by_cases hi : i < xs.length
  · rw [List.getElem?_append_left hi] at hy
    rw [List.getElem?_append_left (by omega)] at hU
    exact K.at_ i y U hy hU
  · rw [List.getElem?_append_right (by omega)] at hy
    rw [List.getElem?_append_right (by omega)] at hU
    have hi0 : i - xs.length = 0 := by
      have := (List.getElem?_eq_some_iff.1 hy).1
      simpa using this
    rw [hi0] at hy
    rw [show i - Ts.length = 0 by omega] at hU
    injection hy with hy
    injection hU with hU
    subst hy hU
    exact hx
/-- A new row of one kid. -/
def KR (x : DH) (v : Value) (w : World) : Prop := ∃ g, v = .slice (some ⟨g, 0, none⟩) 1 1 ∧ Blk w g 27 x.cs
instance {x : DH} {v : Value} : Lasts (KR x v) := ⟨fun w w' ⟨g, e, h⟩ hb => ⟨g, e, h.below hb h.lt⟩⟩
section
variable {n : Nat} {w0 w w' : World} {a : Act} {e : Env} {h t t2 : Hep} {Q : Exit → Act → World → Prop} {ops : Array Oper} {rest : List Oper} {o : Oper} {P : Nat → Prop}
theorem ob_kid1 {y : Operand} {x : DH} (H : St n w0 a w e h) (hw : ∀ a w, St n w0 a w e h → Region.wanted o (yielded ops a.tmps) = true) (ho : o.op = .buildSlice 25 1 #[(0, y)]) (hy : sev e y = some (.agg x.cs)) : ObS Tryd.prog ops Q o a w (KR x) := by
  refine ob_runR H hw ⟨_, _, ?_, (Below.refl _ _).alloc (Nat.le_refl _) _, w.heap.size, rfl, Blk.new _ _ _⟩
  simp [execOp, ho, H.ev hy, run_der1, Result.andThen]
/-- One kid more. -/
theorem pl_kid {d : Nat} {x y : Operand} {v z : Value} {xs : List DH} {u : DH} (ho : o.op = .call { callee := .builtin .append, args := #[x, y], argTypes := #[25, 25] }) (hx : sev e x = some v) (hy : sev e y = some z)
    (hv : OutD 27 7 t v xs.length (kidV xs)) (hz : KR u z w) (hs : xs.length ≤ 100000) (hg : o.guard = none) (hdst : o.dst = some d) (hl : Nat.blt d n = true) (hf : e.all (fun p => !Nat.beq p.1 d) = true) (H : St n w0 a w e (h ++ (t ++ t2)))
    (next : ∀ v' t' a w', OutD 27 7 t' v' (xs ++ [u]).length (kidV (xs ++ [u])) → St n w0 a w' ((d, v') :: e) (h ++ (t' ++ t2)) → wpList Tryd.prog ops Q rest a w') : wpList Tryd.prog ops Q (o :: rest) a w :=
  wpList_plain hg fun K_ hK => by
    have hp : ∀ s : Hep, (h ++ (s ++ t2)).Perm ((h ++ t2) ++ s) := fun s => by
      rw [List.append_assoc]
      exact List.Perm.append_left _ List.perm_append_comm
    replace H := H.perm' (hp t)
    obtain ⟨g, rfl, hb⟩ := hz
    have hi := der_infoD
    cases hq : Tryd.prog.info? 27 with
    | none => rw [hq] at hi; cases hi
    | some i =>
      rw [hq] at hi
      simp only [Option.map_some, Option.some.injEq, Prod.mk.injEq] at hi
      obtain ⟨hz0, hsz, hby⟩ := hi
      have hown := hv.owns H
      obtain ⟨v', w', h1, h2, h3, _, h4⟩ := run_append_own_at (P := Tryd.prog) w w0.heap.size 25 o.type 27 i _ 7 112 Tryd.underlying25 hq hz0 hsz hby rfl (by omega) v xs.length (kidV xs) hown ⟨g, 0, none⟩ 1 1 u.cs.toList (by rw [Array.length_toList, u.size]) (fun j y hy => by
        rw [Addr.add_lit, Nat.zero_add, hb.cell]
        rw [Array.getElem?_toList] at hy
        exact hy) (fun y hy => by
        have := Array.all_eq_true'.1 u.one y (by simpa using hy)
        exact this) (by simp only [maxLen]; omega) (by omega) H.below.size
      obtain ⟨t', hv', H', _⟩ := H.appD hv h2 h3 h4 (by omega)
      unfold Oper.wp
      simp [execOp, ho, resolve, invoke, builtin, H.ev hx, H.ev hy, h1, Result.andThen]
      refine hK _ _ (next v' t' _ _ ?_ ?_)
      · rw [List.length_append, kidV_snoc]
        exact hv'
      · rw [hdst]
        exact (H'.perm' (hp t').symm).put _ hl hf
end
end Go.Proofs.YtonhkclkddobhaaDoor
namespace Go.Proofs.YtonhkclkddobhaaDoor
set_option linter.unusedVariables false
set_option linter.unusedSimpArgs false
set_option maxRecDepth 100000
open Go Go.RowKit
/-- A value reads as a tree, where C tells cells. -/
inductive DC (C : Nat → Nat → Value → Prop) : DT → DH → Prop
  | mk {x : DH} {b : List UInt8} {a : List Nat} {ks : List DT} (sub : Nat → DH)
      (hk : -9223372036854775808 ≤ x.k ∧ x.k < 9223372036854775808) (hn : -9223372036854775808 ≤ x.n ∧ x.n < 9223372036854775808)
      (hm : x.b.n < 9223372036854775808 ∧ x.t.length < 9223372036854775808 ∧ x.a.n < 9223372036854775808 ∧ x.ks.n < 9223372036854775808)
      (hbl : b.length = x.b.n) (hbc : x.b.n ≤ x.b.c) (hbn : x.b.A = none → x.b.c = 0) (hb : 0 < x.b.n → ∃ g o : Nat, x.b.A = some ⟨g, o, none⟩ ∧ ∀ (j : Nat) (y : UInt8), b[j]? = some y → C g (o + j) (.int .u8 (y.toNat : Int)))
      (hal : a.length = x.a.n) (hac : x.a.n ≤ x.a.c) (han : x.a.A = none → x.a.c = 0) (hax : ∀ y ∈ a, y < 18446744073709551616) (ha : 0 < x.a.n → ∃ g o : Nat, x.a.A = some ⟨g, o, none⟩ ∧ ∀ j y : Nat, a[j]? = some y → C g (o + j) (.int .u64 (y : Int)))
      (hl : ks.length = x.ks.n) (hcap : x.ks.n ≤ x.ks.c) (hc : 0 < x.ks.n → ∃ g o : Nat, x.ks.A = some ⟨g, o, none⟩ ∧ ∀ i, i < x.ks.n → ∀ (j : Nat) (v : Value), (sub i).cs[j]? = some v → C g (o + i * 7 + j) v)
      (hs : ∀ (i : Nat) (T : DT), ks[i]? = some T → DC C T (sub i)) : DC C (.mk x.k x.f x.n b x.t a ks) x
theorem DC.mono {C C' : Nat → Nat → Value → Prop} {T : DT} {x : DH} (h : DC C T x) (hC : ∀ g k v, C g k v → C' g k v) : DC C' T x := by
  induction h with
  | mk sub h1 h2 h3 b1 b2 b3 b4 a1 a2 a3 a4 a5 k1 k2 k3 k4 ih =>
    exact .mk sub h1 h2 h3 b1 b2 b3 (fun hn => by
      obtain ⟨g, o, e, hc⟩ := b4 hn
      exact ⟨g, o, e, fun j y hy => hC _ _ _ (hc j y hy)⟩) a1 a2 a3 a4 (fun hn => by
      obtain ⟨g, o, e, hc⟩ := a5 hn
      exact ⟨g, o, e, fun j y hy => hC _ _ _ (hc j y hy)⟩) k1 k2 (fun hn => by
      obtain ⟨g, o, e, hc⟩ := k3 hn
      exact ⟨g, o, e, fun i hi j v hv => hC _ _ _ (hc i hi j v hv)⟩) ih
theorem DC.dx {C : Nat → Nat → Value → Prop} {w : World} {B : Nat} {T : DT} {x : DH} (h : DC C T x) (hC : ∀ g k v, C g k v → g < B ∧ w.cell? ⟨g, k, none⟩ = some v) : DX w B T x := by
  induction h with
  | @mk x b a ks sub h1 h2 h3 b1 b2 b3 b4 a1 a2 a3 a4 a5 k1 k2 k3 k4 ih =>
    refine .mk sub h1 h2 h3 ⟨b1, b2, b3, fun hn => ?_⟩ ⟨a1, a2, a3, a4, fun hn => ?_⟩ k1 k2 (fun hn => ?_) ih
    · obtain ⟨g, o, e, hc⟩ := b4 hn
      exact ⟨g, o, e, (hC _ _ _ (hc 0 _ (List.getElem?_eq_getElem (by omega)))).1, fun j y hy => (hC _ _ _ (hc j y hy)).2⟩
    · obtain ⟨g, o, e, hc⟩ := a5 hn
      exact ⟨g, o, e, (hC _ _ _ (hc 0 _ (List.getElem?_eq_getElem (by omega)))).1, fun j y hy => (hC _ _ _ (hc j y hy)).2⟩
    · obtain ⟨g, o, e, hc⟩ := k3 hn
      exact ⟨g, o, e, (hC _ _ _ (hc 0 hn 0 _ (show (sub 0).cs[0]? = some (.int .i64 (sub 0).k) from rfl))).1, fun i hi j v hv => (hC _ _ _ (hc i hi j v hv)).2⟩
/-- Cells of rows that are told. -/
def TN (t : Hep) (g k : Nat) (v : Value) : Prop := ∃ (T : TypeId) (cur : Array Value), (g, .ty T, cur) ∈ t ∧ cur[k]? = some v
theorem TN.more {t t' : Hep} {g k : Nat} {v : Value} (h : TN t g k v) (ht : ∀ p ∈ t, p ∈ t') : TN t' g k v := by
  obtain ⟨T, cur, hm, hc⟩ := h
  exact ⟨T, cur, ht _ hm, hc⟩
/-- .. or of what was there. -/
def TC (w0 : World) (t : Hep) (g k : Nat) (v : Value) : Prop := (g < w0.heap.size ∧ w0.cell? ⟨g, k, none⟩ = some v) ∨ TN t g k v
theorem TC.more {w0 : World} {t t' : Hep} {g k : Nat} {v : Value} (h : TC w0 t g k v) (ht : ∀ p ∈ t, p ∈ t') : TC w0 t' g k v := h.imp id fun h => h.more ht
theorem TC.at_ {n : Nat} {w0 w : World} {a : Act} {e : Env} {h : Hep} {t : Hep} (H : St n w0 a w e h) (ht : ∀ p ∈ t, p ∈ h) {g k : Nat} {v : Value} (hc : TC w0 t g k v) : g < w.heap.size ∧ w.cell? ⟨g, k, none⟩ = some v := by
  rcases hc with ⟨hg, hc⟩ | ⟨T, cur, hm, hc⟩
  · exact ⟨Nat.lt_of_lt_of_le hg H.below.size, (H.below.cell (p := ⟨g, k, none⟩) hg).trans hc⟩
  · have hb := H.heap _ (ht _ hm)
    exact ⟨hb.lt, by rw [hb.cell]; exact hc⟩
/-- A row of variables, of which nothing is frozen. -/
def Plain (w : World) (g : Nat) : Prop := ∃ (c : Array Value) (t : TypeId), w.heap[g]? = some (.cells c t (0, 0))
theorem Plain.below {w w' : World} {g : Nat} (h : Plain w g) (hg : g < w.heap.size) (hb : Below w.heap.size w w') : Plain w' g := by
  obtain ⟨c, t, e⟩ := h
  exact ⟨c, t, (hb.block g hg).trans e⟩
theorem Plain.lt {w : World} {g : Nat} (h : Plain w g) : g < w.heap.size := by
  obtain ⟨c, t, e⟩ := h
  exact (Array.getElem?_eq_some_iff.1 e).1
/-- A value reads as a tree, kids in plain rows. -/
inductive DY (w : World) : DT → DH → Prop
  | mk {x : DH} {b : List UInt8} {a : List Nat} {ks : List DT} (sub : Nat → DH)
      (hk : -9223372036854775808 ≤ x.k ∧ x.k < 9223372036854775808) (hn : -9223372036854775808 ≤ x.n ∧ x.n < 9223372036854775808)
      (hm : x.b.n < 9223372036854775808 ∧ x.t.length < 9223372036854775808 ∧ x.a.n < 9223372036854775808 ∧ x.ks.n < 9223372036854775808)
      (hb : BS w w.heap.size x.b.A x.b.n x.b.c b) (ha : NS w w.heap.size x.a.A x.a.n x.a.c a) (hl : ks.length = x.ks.n) (hcap : x.ks.n ≤ x.ks.c)
      (hc : 0 < x.ks.n → ∃ g o, x.ks.A = some ⟨g, o, none⟩ ∧ Plain w g ∧ ∀ i, i < x.ks.n → ∀ (j : Nat) (v : Value), (sub i).cs[j]? = some v → w.cell? ⟨g, o + i * 7 + j, none⟩ = some v)
      (hs : ∀ (i : Nat) (T : DT), ks[i]? = some T → DY w T (sub i)) : DY w (.mk x.k x.f x.n b x.t a ks) x
theorem DY.dx {w : World} {T : DT} {x : DH} (h : DY w T x) : DX w w.heap.size T x := by
  induction h with
  | mk sub h1 h2 h3 h4 h5 h6 h7 h8 h9 ih =>
    exact .mk sub h1 h2 h3 h4 h5 h6 h7 (fun hn => by
      obtain ⟨g, o, e, hg, hc⟩ := h8 hn
      exact ⟨g, o, e, hg.lt, hc⟩) ih
theorem DY.lasts {w w' : World} {T : DT} {x : DH} (h : DY w T x) (hb : Below w.heap.size w w') : DY w' T x := by
  induction h with
  | mk sub h1 h2 h3 h4 h5 h6 h7 h8 h9 ih =>
    exact .mk sub h1 h2 h3 ((h4.below hb).more hb.size) ((h5.keep fun p hp => hb.cell hp).more hb.size) h6 h7 (fun hn => by
      obtain ⟨g, o, e, hg, hc⟩ := h8 hn
      exact ⟨g, o, e, hg.below hg.lt hb, fun i hi j v hv => (hb.cell (p := ⟨g, o + i * 7 + j, none⟩) hg.lt).trans (hc i hi j v hv)⟩) ih
theorem DY.leaf {w : World} {k n : Int} {f : Bool} {b t : List UInt8} {a : List Nat} {x : DH} (h : DX w w.heap.size (.mk k f n b t a []) x) : DY w (.mk k f n b t a []) x := by
  generalize hT : DT.mk k f n b t a [] = T at h
  cases h with
  | mk sub h1 h2 h3 h4 h5 h6 h7 h8 h9 =>
    injection hT with e1 e2 e3 e4 e5 e6 e7
    subst e7
    exact .mk sub h1 h2 h3 h4 h5 h6 h7 (fun hn => absurd hn (by rw [← h6]; exact Nat.lt_irrefl 0)) (fun i T hT => by simp at hT)
/-- Over cells of plain rows. -/
theorem DC.dy {C : Nat → Nat → Value → Prop} {w : World} {T : DT} {x : DH} (h : DC C T x) (hC : ∀ g k v, C g k v → Plain w g ∧ w.cell? ⟨g, k, none⟩ = some v) : DY w T x := by
  induction h with
  | @mk x b a ks sub h1 h2 h3 b1 b2 b3 b4 a1 a2 a3 a4 a5 k1 k2 k3 k4 ih =>
    refine .mk sub h1 h2 h3 ⟨b1, b2, b3, fun hn => ?_⟩ ⟨a1, a2, a3, a4, fun hn => ?_⟩ k1 k2 (fun hn => ?_) ih
    · obtain ⟨g, o, e, hc⟩ := b4 hn
      exact ⟨g, o, e, (hC _ _ _ (hc 0 _ (List.getElem?_eq_getElem (by omega)))).1.lt, fun j y hy => (hC _ _ _ (hc j y hy)).2⟩
    · obtain ⟨g, o, e, hc⟩ := a5 hn
      exact ⟨g, o, e, (hC _ _ _ (hc 0 _ (List.getElem?_eq_getElem (by omega)))).1.lt, fun j y hy => (hC _ _ _ (hc j y hy)).2⟩
    · obtain ⟨g, o, e, hc⟩ := k3 hn
      exact ⟨g, o, e, (hC _ _ _ (hc 0 hn 0 _ (show (sub 0).cs[0]? = some (.int .i64 (sub 0).k) from rfl))).1, fun i hi j v hv => (hC _ _ _ (hc i hi j v hv)).2⟩
theorem TN.plain {t : Hep} {w : World} (ht : ∀ p ∈ t, Blk w p.1 p.2.1 p.2.2) {g k : Nat} {v : Value} (h : TN t g k v) : Plain w g ∧ w.cell? ⟨g, k, none⟩ = some v := by
  obtain ⟨T, cur, hm, hc⟩ := h
  have hb : Blk w g T cur := ht _ hm
  exact ⟨⟨cur, T, hb⟩, by rw [hb.cell]; exact hc⟩
def DYF (T : DT) (v : Value) (w : World) : Prop := ∃ x : DH, v = .agg x.cs ∧ DY w T x
instance {T : DT} {v : Value} : Lasts (DYF T v) := ⟨fun w w' ⟨x, e, h⟩ hb => ⟨x, e, h.lasts hb⟩⟩
section
variable {P : Program} {n : Nat} {w0 w w' : World} {a : Act} {e : Env} {h h' : Hep} {Q : Exit → Act → World → Prop} {ops : Array Oper} {rest : List Oper} {o : Oper}
theorem pl_callE {ι : Type} {vf : ι → Value} {hf' : ι → Hep} {F : ι → World → Prop} {d : Nat} {f : FuncId} {args : List Operand} {tys : Array TypeId} {vs : List Value} (ho : o.op = .call { callee := .value (.func f), args := args.toArray, argTypes := tys }) (hf : Ours P f) (hx : sevs e args = some vs)
    (hc : Kn w0 w h → Calls P f vs.toArray w (fun r W' => ∃ i, r = .returned (vf i) ∧ F i W' ∧ Kn w0 W' (hf' i))) (hg : o.guard = none) (hdst : o.dst = some d) (hl : Nat.blt d n = true) (hfr : e.all (fun p => !Nat.beq p.1 d) = true) (H : St n w0 a w e h)
    (next : ∀ i a w, F i w → St n w0 a w ((d, vf i) :: e) (hf' i) → wpList P ops Q rest a w) : wpList P ops Q (o :: rest) a w :=
  wpList_plain hg fun K hK => by
    unfold Oper.wp
    rw [run_call ho hf rfl, H.evs hx, Oper.upon_enter]
    refine (hc H.kn).mono ?_
    rintro r W' ⟨i, rfl, hF, K⟩
    refine hK _ _ (next i _ _ hF ?_)
    rw [hdst]
    exact (H.again K).put _ hl hfr
end
def rdC (st : Int) (A : Option Addr) (n c : Nat) : Array Value := #[.int .i64 st, .slice A n c]
/-- What is left to a reader. -/
def RdC (w0 : World) (l : List UInt8) (c : Array Value) : Prop := ∃ (st : Int) (A : Option Addr) (n cap : Nat), c = rdC st A n cap ∧ (st = 1 ∨ st = 2) ∧ BS w0 w0.heap.size A n cap l ∧ n < 9223372036854775808
section
variable {g : Nat} {st : Int} {A : Option Addr} {n c : Nat}
theorem fa_rdr0 (W : World) : (Instr.fieldAt 72 (.pointer (some ⟨g, 0, none⟩)) 0).run Tryd.prog W = .ok (.pointer (some ⟨g, 0, none⟩)) W := by kernel_rfl
theorem fa_rdr1 (W : World) : (Instr.fieldAt 72 (.pointer (some ⟨g, 0, none⟩)) 1).run Tryd.prog W = .ok (.pointer (some ⟨g, 1, none⟩)) W := by kernel_rfl
theorem ld_rdr0 (W : World) (h : Blk W g 72 (rdC st A n c)) : (Instr.loadAt 70 (.pointer (some ⟨g, 0, none⟩))).run Tryd.prog W = .ok (.int .i64 st) W := by
  have hc : W.cell? ⟨g, 0, none⟩ = some (.int .i64 st) := h.cell 0
  go_simp
theorem ld_rdr1 (W : World) (h : Blk W g 72 (rdC st A n c)) : (Instr.loadAt 23 (.pointer (some ⟨g, 1, none⟩))).run Tryd.prog W = .ok (.slice A n c) W := by
  have hc : W.cell? ⟨g, 1, none⟩ = some (.slice A n c) := h.cell 1
  go_simp
theorem st_rdr0 {u : Int} (W : World) (h : Blk W g 72 (rdC st A n c)) : (Instr.storeAt 70 (.pointer (some ⟨g, 0, none⟩)) (.int .i64 u)).run Tryd.prog W = .ok () (W.setCells g 0 [.int .i64 u]) := by
  have hc : W.cell? ⟨g, 0, none⟩ = some (.int .i64 st) := h.cell 0
  have hf := h.frozen 0
  have hs : (W.cell? ⟨g, 0, none⟩).isSome = true := by rw [hc]; rfl
  show _ = Result.ok () (W.setCell ⟨g, 0, none⟩ (.int .i64 u))
  go_simp
theorem st_rdr1 {B : Option Addr} {m d : Nat} (W : World) (h : Blk W g 72 (rdC st A n c)) : (Instr.storeAt 23 (.pointer (some ⟨g, 1, none⟩)) (.slice B m d)).run Tryd.prog W = .ok () (W.setCells g 1 [.slice B m d]) := by
  have hc : W.cell? ⟨g, 1, none⟩ = some (.slice A n c) := h.cell 1
  have hf := h.frozen 1
  have hs : (W.cell? ⟨g, 1, none⟩).isSome = true := by rw [hc]; rfl
  show _ = Result.ok () (W.setCell ⟨g, 1, none⟩ (.slice B m d))
  go_simp
theorem bd_rdr (W : World) : (Instr.build 72 [(0, .int .i64 1), (1, .slice A n c)].toArray).run Tryd.prog W = .ok (.agg (rdC 1 A n c)) W := by kernel_rfl
theorem bx_rdr (W : World) : (Instr.box 72 (.agg (rdC st A n c))).run Tryd.prog W = .ok (.pointer (some ⟨W.heap.size, 0, none⟩)) (W.alloc (.cells (rdC st A n c) 72)) := by kernel_rfl
theorem pn_neq (p q : Operand) (W : World) : (do eqGuard .neq 44 p q (.pointer (some ⟨g, 0, none⟩)) (.pointer none); binOp .neq 44 (.pointer (some ⟨g, 0, none⟩)) (.pointer none) : Sem Value).run Tryd.prog W = .ok (.bool true) W := by kernel_rfl
theorem sg_neq {k m : Int} {b : Bool} (h : decide (k ≠ m) = b) (p q : Operand) (W : World) : (do eqGuard .neq 70 p q (.int .i64 k) (.int .i64 m); binOp .neq 70 (.int .i64 k) (.int .i64 m) : Sem Value).run Tryd.prog W = .ok (.bool b) W := by
  have e : (!decide (k = m)) = b := by rw [← h, decide_not]
  go_simp
  exact e
end
theorem BS.headQ {w : World} {B n c : Nat} {A : Option Addr} {l : List UInt8} (h : BS w B A n c l) {k : Nat} (hk : k ≤ n) :
    ∃ A', (∀ W, (Instr.sliceAt 23 (.slice A n c) none (some (.int .i64 (k : Int))) (some (.int .i64 (k : Int)))).run Tryd.prog W = .ok (.slice A' k k) W) ∧ BS w B A' k k (l.take k) := by
  have hu : Tryd.prog.underlying 23 = some (.slice (Tryd.prog.elem 23)) := by kernel_rfl
  have hel : Tryd.prog.elem 23 = 5 := by kernel_rfl
  have hln := h.len
  have hnc := h.cap
  refine ⟨if k = 0 then A else A.map (fun a => a.add 0), fun W => ?_, ?_⟩
  · rw [run_sliceAt_slice W 23 _ _ _ _ hu, run_slice_hm W 23 A n c hu _ _ _ _ (by omega) (by omega) (by omega), hel, size_u8 u8_info]
    simp only [Result.andThen, sliced, Int.toNat_natCast, Nat.mul_one, Nat.sub_zero, Nat.zero_mul]
  · refine ⟨by rw [List.length_take]; omega, Nat.le_refl _, fun e => ?_, fun hp => ?_⟩
    · by_cases h0 : k = 0
      · exact h0
      · rw [if_neg h0] at e
        cases A with
        | none => have := h.nil_ rfl; omega
        | some a => cases e
    · obtain ⟨b, o, e, hb, hc⟩ := h.at_ (by omega)
      subst e
      rw [if_neg (by omega)]
      exact ⟨b, o, rfl, hb, fun j x hj => hc j x (by
        rw [List.getElem?_take] at hj
        split at hj
        · exact hj
        · cases hj)⟩
theorem BS.rest {w : World} {B n c : Nat} {A : Option Addr} {l : List UInt8} (h : BS w B A n c l) {k : Nat} (hk : k ≤ n) :
    ∃ A', (∀ W, (Instr.sliceAt 23 (.slice A n c) (some (.int .i64 (k : Int))) none none).run Tryd.prog W = .ok (.slice A' (n - k) (c - k)) W) ∧ BS w B A' (n - k) (c - k) (l.drop k) := by
  have hu : Tryd.prog.underlying 23 = some (.slice (Tryd.prog.elem 23)) := by kernel_rfl
  obtain ⟨A', h1, h2⟩ := BS.tail (P := Tryd.prog) 23 5 Tryd.underlying23 u8_info h hk
  exact ⟨A', fun W => by rw [run_sliceAt_slice W 23 _ _ _ _ hu]; exact h1 W, h2⟩
end Go.Proofs.YtonhkclkddobhaaDoor
namespace Go.Proofs.YtonhkclkddobhaaDoor
set_option linter.unusedVariables false
set_option linter.unusedSimpArgs false
set_option maxRecDepth 100000
open Go Go.RowKit
theorem does_oldAt {P : Program} {n : Nat} {w0 : World} {e : Env} {h : Hep} {Q : Exit → Act → World → Prop} {o : Oper} {t : TypeId} {x : Operand} {g f : Nat} {t' : Tid} {cs : Array Value} {v : Value} (ho : o.op = .load t x) (hx : sev e x = some (.pointer (some ⟨g, f, none⟩))) (hb : Blk w0 g t' cs) (hr : ∀ W, Blk W g t' cs → (Instr.loadAt t (.pointer (some ⟨g, f, none⟩))).run P W = .ok v W) : Does P Q n w0 e h o v := does_run fun a w H => by
  have hb2 := hb.below H.below hb.lt
  simp [execOp, ho, H.ev hx, hr w hb2, Result.andThen]
def gokQ (l : List UInt8) : Bool := decide (1 ≤ l.length ∧ l.length ≤ 8)
theorem gok_yes {l : List UInt8} (h : gokQ l = true) : getE l = .tuple #[.int .u64 ((accD l 0 : Nat) : Int), .int .i64 0] := getE_yes (of_decide_eq_true h)
theorem gok_no {l : List UInt8} (h : gokQ l = false) : getE l = .tuple #[.int .u64 0, .int .i64 2] := getE_no (of_decide_eq_false h)
theorem num_yes {l : List UInt8} {z : Int} (h : gokQ (takeQ l z).1 = true) : numQ l z = (accD (takeQ l z).1 0, (takeQ l z).2) := if_pos (of_decide_eq_true h)
theorem num_no {l : List UInt8} {z : Int} (h : gokQ (takeQ l z).1 = false) : numQ l z = (0, []) := if_neg (of_decide_eq_false h)
theorem er_neq {k m : Int} {b : Bool} (h : decide (k ≠ m) = b) (p q : Operand) (W : World) : (do eqGuard .neq 29 p q (.int .i64 k) (.int .i64 m); binOp .neq 29 (.int .i64 k) (.int .i64 m) : Sem Value).run Tryd.prog W = .ok (.bool b) W := by
  have e : (!decide (k = m)) = b := by rw [← h, decide_not]
  go_simp
  exact e
attribute [local irreducible] bvs bv byteD dvD beD putF updF rb takeQ numQ accD
set_option maxHeartbeats 4000000 in
theorem begun_any {g : Nat} {st : Int} {A : Option Addr} {m c : Nat} {w : World} (hrow : Blk w g 72 (rdC st A m c)) (hst : st = 1 ∨ st = 2) : Calls Tryd.prog 43 #[.pointer (some ⟨g, 0, none⟩)] w (fun rr w' => rr = .returned (.bool true) ∧ Below w.heap.size w w') := by
  refine calls_st (vs := [.pointer (some ⟨g, 0, none⟩)]) 12 Tryd.func43 rfl Tryd.ntmps43 rfl (fun a W H => ?_)
  replace H : St 12 w a W [(0, .pointer (some ⟨g, 0, none⟩))] [] := H
  refine sqR H gs0 fun Z_ z_ => rS 1 rfl <| rN0 z_ ?_
  try clear H a W
  intro a W H
  refine sqR H gs0 fun Z_ z_ => rS 1 rfl <| rV rfl (does_binOp rfl rfl rfl (pn_neq _ _)) <| rS 2 rfl <| rV rfl (does_nilCheckQ rfl rfl) <| rV rfl (does_fieldAddr rfl rfl fa_rdr0) <| rV rfl (does_oldAt (v := .int .i64 st) rfl rfl hrow ld_rdr0) <| rV rfl (does_binOp rfl rfl rfl (sg_neq (k := st) (m := 0) (decide_eq_true (by omega)) _ _)) <| rS 1 rfl <| rK [1, 1, 1, 1, 1, 1, 1, 1, 1, 0] [] [] <| rS 1 rfl <| rK [1, 0, 0, 0, 0, 0, 0, 0, 0, 0, 0] [] [] <| rN0 z_ ?_
  try clear H a W
  intro a W H
  refine wp_ret ?_
  repeat (first | (with_reducible refine then_ret ?_) | (with_reducible refine blk_ret ?_))
  refine end_tmp (p := 2) rfl rfl H (fun hb => ?_)
  exact ⟨rfl, hb⟩
set_option maxHeartbeats 4000000 in
theorem left_any {g : Nat} {st : Int} {A : Option Addr} {m c : Nat} {w : World} (hrow : Blk w g 72 (rdC st A m c)) (hst : st = 1 ∨ st = 2) : Calls Tryd.prog 40 #[.pointer (some ⟨g, 0, none⟩)] w (fun rr w' => rr = .returned (.int .i64 ((m : Nat) : Int)) ∧ Below w.heap.size w w') := by
  refine calls_st (vs := [.pointer (some ⟨g, 0, none⟩)]) 11 Tryd.func40 rfl Tryd.ntmps40 rfl (fun a W H => ?_)
  replace H : St 11 w a W [(0, .pointer (some ⟨g, 0, none⟩))] [] := H
  refine sqR H gs0 fun Z_ z_ => rS 1 rfl <| rN0 z_ ?_
  try clear H a W
  intro a W H
  refine wp_seq_k (fun K2 hK2 => ?_)
  refine sqR H gs0 fun Z_ z_ => rS 1 rfl <| rV rfl (does_call rfl ⟨_, Tryd.func43, by kernel_rfl⟩ rfl (fun W hb => begun_any (hrow.below hb hrow.lt) hst)) <| rS 1 rfl <| rK [1, 0, 0] [] [] <| rN0 z_ ?_
  try clear H a W
  intro a W H
  refine wp_cond_false (H.ev rfl) ?_
  refine wp_skip ?_
  refine hK2 _ _ ?_
  clear hK2
  refine sqR H gs0 fun Z_ z_ => rS 1 rfl <| rV rfl (does_nilCheckQ rfl rfl) <| rV rfl (does_fieldAddr rfl rfl fa_rdr1) <| rV rfl (does_oldAt (v := .slice A m c) rfl rfl hrow ld_rdr1) <| rV rfl (does_len Tryd.underlying23 rfl rfl) <| rK [1, 1, 1, 1, 1, 1, 0] [] [] <| rS 1 rfl <| rK [1, 0, 0, 0, 0, 0, 0, 0] [] [] <| rN0 z_ ?_
  try clear H a W
  intro a W H
  refine wp_ret ?_
  repeat (first | (with_reducible refine then_ret ?_) | (with_reducible refine blk_ret ?_))
  refine end_tmp (p := 2) rfl rfl H (fun hb => ?_)
  exact ⟨rfl, hb⟩
set_option maxHeartbeats 4000000 in
theorem fail_K {g : Nat} {st : Int} {A : Option Addr} {m c : Nat} {hh : Hep} (hst : st = 1 ∨ st = 2) (w0 w : World) (K : Kn w0 w ([(g, 72, rdC st A m c)] ++ hh)) : Calls Tryd.prog 39 #[.pointer (some ⟨g, 0, none⟩)] w (fun rr w' => ∃ i : Unit, rr = .returned (.tuple #[]) ∧ True ∧ Kn w0 w' ([(g, 72, rdC 2 none 0 0)] ++ hh)) := by
  refine calls_kn (vs := [.pointer (some ⟨g, 0, none⟩)]) 10 Tryd.func39 rfl Tryd.ntmps39 rfl K (fun a W H => ?_)
  replace H : St 10 w0 a W [(0, .pointer (some ⟨g, 0, none⟩))] ((g, 72, (rdC st A m c)) :: hh) := H
  refine sqR H gs0 fun Z_ z_ => rS 1 rfl <| rCV rfl rfl ⟨_, Tryd.func43, by kernel_rfl⟩ rfl (fun a W H _ => (begun_any (H.blk (k := 0) rfl) hst)) <| rK [1, 0] [] [] <| rN0 z_ ?_
  try clear H a W
  intro a W H
  refine wp_cond_true (H.ev rfl) ?_
  refine rgP H gs0 (rS 2 rfl <| rV rfl (does_nilCheckQ rfl rfl) <| rV rfl (does_fieldAddr rfl rfl fa_rdr0) <| rX [1] (c := (rdC 2 A m c)) ⟨rfl, rfl⟩ rfl rfl rfl (st_rdr0 (u := 2)) rfl <| rV rfl (does_nilCheckQ rfl rfl) <| rV rfl (does_fieldAddr rfl rfl fa_rdr1) <| rX [1] (c := (rdC 2 none 0 0)) ⟨rfl, rfl⟩ rfl rfl rfl st_rdr1 rfl <| rK [0, 0, 0, 0, 0, 0, 0, 0] [] [] <| rZ0 ?_)
  try clear H a W
  intro a W H
  refine end_none rfl H (fun hk_ => ?_)
  exact ⟨(), rfl, trivial, hk_⟩
theorem takeQ_yes {l : List UInt8} {z : Int} (h : 0 ≤ z ∧ z ≤ (l.length : Int)) : takeQ l z = (l.take z.toNat, l.drop z.toNat) := by
  unfold takeQ
  exact if_pos h
theorem takeQ_no {l : List UInt8} {z : Int} (h : ¬ (0 ≤ z ∧ z ≤ (l.length : Int))) : takeQ l z = ([], []) := by
  unfold takeQ
  exact if_neg h
theorem does_sliceM {P : Program} {n : Nat} {w0 : World} {e : Env} {h : Hep} {Q : Exit → Act → World → Prop} {o : Oper} {t : TypeId} {x y z : Operand} {u v p q : Value} (ho : o.op = .slice t x none (some y) (some z)) (hx : sev e x = some u) (hy : sev e y = some p) (hz : sev e z = some q) (hv : ∀ W, (Instr.sliceAt t u none (some p) (some q)).run P W = .ok v W) : Does P Q n w0 e h o v := does_run fun a w H => by
  unfold execOp
  simp only [ho, Option.map_some, Option.map_none, H.ev hx, H.ev hy, H.ev hz, Sem.run_bind, hv, Result.andThen_ok, Sem.run_pure]
set_option maxHeartbeats 4000000 in
theorem rbytes_K {g : Nat} {st : Int} {A : Option Addr} {m c : Nat} {hh : Hep} {l : List UInt8} (z : Int) (hst : st = 1 ∨ st = 2) (w0 w : World) (hbs : BS w0 w0.heap.size A m c l) (hm : m < 9223372036854775808) (K : Kn w0 w ([(g, 72, rdC st A m c)] ++ hh)) : Calls Tryd.prog 32 #[.pointer (some ⟨g, 0, none⟩), .int .i64 z] w (fun rr w' => ∃ i : Value × Array Value, rr = .returned i.1 ∧ (BF (takeQ l z).1 i.1 w0 ∧ RdC w0 (takeQ l z).2 i.2) ∧ Kn w0 w' ([(g, 72, i.2)] ++ hh)) := by
  have hlm := hbs.len
  refine calls_kn (vs := [.pointer (some ⟨g, 0, none⟩), .int .i64 z]) 41 Tryd.func32 rfl Tryd.ntmps32 rfl K (fun a W H => ?_)
  replace H : St 41 w0 a W [(0, .pointer (some ⟨g, 0, none⟩)), (1, .int .i64 z)] ((g, 72, (rdC st A m c)) :: hh) := H
  refine sqR H gs0 fun Z_ z_ => rS 1 rfl <| rN0 z_ ?_
  try clear H a W
  intro a W H
  refine wp_seq_k (fun K2 hK2 => ?_)
  refine wp_seq_k (fun K3 hK3 => ?_)
  cases hq1 : decide (z < 0) with
  | true =>
    have hq1p := of_decide_eq_true hq1
    refine rgP H gs0 (rS 1 rfl <| rCV rfl rfl ⟨_, Tryd.func43, by kernel_rfl⟩ rfl (fun a W H _ => (begun_any (H.blk (k := 0) rfl) hst)) <| rS 3 rfl <| rV rfl (does_binOp rfl rfl rfl (zd_lss_int (k := z) (m := 0) hq1 _ _)) <| rS 10 rfl <| rK [1, 0, 0, 0, 0, 0, 0, 0, 0, 0, 0, 0, 0, 0, 0, 0] [] [] <| rZ0 ?_)
    try clear H a W
    intro a W H
    refine hK3 _ _ ?_
    clear hK3
    refine wp_cond_true (H.ev rfl) ?_
    refine wp_seq_k (fun K4 hK4 => ?_)
    refine rgP H gs0 (rS 1 rfl <| rI0 ?_)
    try clear H a W
    intro a W H
    refine pl_callE rfl ⟨_, Tryd.func39, by kernel_rfl⟩ rfl (fun K_ => fail_K (hh := hh) hst w0 _ K_) rfl rfl rfl rfl H ?_
    try clear H a W
    rintro ⟨⟩ a W - H
    replace H : St 41 w0 a W [(23, .tuple #[]), (22, .pointer (some ⟨g, 0, none⟩)), (21, .bool true), (4, .slice none 0 0), (0, .pointer (some ⟨g, 0, none⟩)), (1, .int .i64 z)] ((g, 72, (rdC 2 none 0 0)) :: hh) := H
    refine rgO H gs0 (rK [0, 0, 0] [] [] <| rZ0 ?_)
    try clear H a W
    intro a W H
    refine hK4 _ _ ?_
    clear hK4
    refine sqR H gs0 fun Z_ z_ => rK [0] [] [] <| rS 1 rfl <| rN0 z_ ?_
    try clear H a W
    intro a W H
    refine wp_ret ?_
    repeat (first | (with_reducible refine then_ret ?_) | (with_reducible refine blk_ret ?_))
    refine end_tmp (p := 4) rfl rfl H (fun hb => ?_)
    refine ⟨(.slice none 0 0, rdC 2 none 0 0), rfl, ⟨?_, ?_⟩, H.kn⟩
    · rw [takeQ_no (by omega)]
      exact BF.nil _
    · rw [takeQ_no (by omega)]
      exact ⟨2, none, 0, 0, rfl, .inr rfl, BS.nil _ _, by decide⟩
  | false =>
    have hq1p := of_decide_eq_false hq1
    refine rgP H gs0 (rS 1 rfl <| rCV rfl rfl ⟨_, Tryd.func43, by kernel_rfl⟩ rfl (fun a W H _ => (begun_any (H.blk (k := 0) rfl) hst)) <| rS 3 rfl <| rV rfl (does_binOp rfl rfl rfl (zd_lss_int (k := z) (m := 0) hq1 _ _)) <| rS 4 rfl <| rV rfl (does_nilCheckQ rfl rfl) <| rV rfl (does_fieldAddr rfl rfl fa_rdr1) <| rV rfl (does_loadAt (v := .slice A m c) rfl rfl (k := 0) rfl ld_rdr1) <| rV rfl (does_len Tryd.underlying23 rfl rfl) <| rV rfl (does_binOp rfl rfl rfl (zd_gtr_int (k := z) (m := ((m : Nat) : Int)) rfl _ _)) <| rS 1 rfl <| rK [1, 0, 0, 0, 0, 0, 0, 0, 0, 0, 0, 0, 0, 0, 0, 0] [] [] <| rZ0 ?_)
    try clear H a W
    intro a W H
    refine hK3 _ _ ?_
    clear hK3
    cases hq2 : decide (((m : Nat) : Int) < z) with
    | true =>
      rw [hq2] at H
      have hq2p := of_decide_eq_true hq2
      refine wp_cond_true (H.ev rfl) ?_
      refine wp_seq_k (fun K6 hK6 => ?_)
      refine rgP H gs0 (rS 1 rfl <| rI0 ?_)
      try clear H a W
      intro a W H
      refine pl_callE rfl ⟨_, Tryd.func39, by kernel_rfl⟩ rfl (fun K_ => fail_K (hh := hh) hst w0 _ K_) rfl rfl rfl rfl H ?_
      try clear H a W
      rintro ⟨⟩ a W - H
      replace H : St 41 w0 a W [(23, .tuple #[]), (22, .pointer (some ⟨g, 0, none⟩)), (21, .bool true), (4, .slice none 0 0), (0, .pointer (some ⟨g, 0, none⟩)), (1, .int .i64 z)] ((g, 72, (rdC 2 none 0 0)) :: hh) := H
      refine rgO H gs0 (rK [0, 0, 0] [] [] <| rZ0 ?_)
      try clear H a W
      intro a W H
      refine hK6 _ _ ?_
      clear hK6
      refine sqR H gs0 fun Z_ z_ => rK [0] [] [] <| rS 1 rfl <| rN0 z_ ?_
      try clear H a W
      intro a W H
      refine wp_ret ?_
      repeat (first | (with_reducible refine then_ret ?_) | (with_reducible refine blk_ret ?_))
      refine end_tmp (p := 4) rfl rfl H (fun hb => ?_)
      refine ⟨(.slice none 0 0, rdC 2 none 0 0), rfl, ⟨?_, ?_⟩, H.kn⟩
      · rw [takeQ_no (by omega)]
        exact BF.nil _
      · rw [takeQ_no (by omega)]
        exact ⟨2, none, 0, 0, rfl, .inr rfl, BS.nil _ _, by decide⟩
    | false =>
      rw [hq2] at H
      have hq2p := of_decide_eq_false hq2
      refine wp_cond_false (H.ev rfl) ?_
      refine wp_skip ?_
      refine hK2 _ _ ?_
      clear hK2
      refine wp_seq_k (fun K8 hK8 => ?_)
      have hz0 : 0 ≤ z := by omega
      have hzm : z.toNat ≤ m := by omega
      obtain ⟨A1, hs1, hb1⟩ := hbs.headQ hzm
      obtain ⟨A2, hs2, hb2⟩ := hbs.rest hzm
      refine rgP H gs0 (rS 1 rfl <| rV rfl (does_nilCheckQ rfl rfl) <| rV rfl (does_fieldAddr rfl rfl fa_rdr1) <| rV rfl (does_loadAt (v := .slice A m c) rfl rfl (k := 0) rfl ld_rdr1) <| rS 2 rfl <| rV rfl (does_sliceM rfl rfl (by show some (Value.int .i64 z) = some (.int .i64 ((z.toNat : Nat) : Int)); rw [Int.toNat_of_nonneg (by omega)]) (by show some (Value.int .i64 z) = some (.int .i64 ((z.toNat : Nat) : Int)); rw [Int.toNat_of_nonneg (by omega)]) hs1) <| rS 1 rfl <| rK [1, 0, 0, 0, 0, 0, 0, 0, 0] [] [] <| rZ0 ?_)
      try clear H a W
      intro a W H
      refine hK8 _ _ ?_
      clear hK8
      refine sqR H gs0 fun Z_ z_ => rS 2 rfl <| rV rfl (does_nilCheckQ rfl rfl) <| rV rfl (does_fieldAddr rfl rfl fa_rdr1) <| rV rfl (does_loadAt (v := .slice A m c) rfl rfl (k := 0) rfl ld_rdr1) <| rS 1 rfl <| rV rfl (does_slice rfl rfl (vl := some (.int .i64 ((z.toNat : Nat) : Int))) (vh := none) (by show some (some (Value.int .i64 z)) = some (some (.int .i64 ((z.toNat : Nat) : Int))); rw [Int.toNat_of_nonneg (by omega)]) rfl hs2) <| rV rfl (does_nilCheckQ rfl rfl) <| rV rfl (does_fieldAddr rfl rfl fa_rdr1) <| rX [1] (c := (rdC st A2 (m - z.toNat) (c - z.toNat))) ⟨rfl, rfl⟩ rfl rfl rfl st_rdr1 rfl <| rK [0, 0, 0, 0, 0, 0, 0, 0, 0, 1, 1, 0, 0] [] [] <| rN0 z_ ?_
      try clear H a W
      intro a W H
      refine sqR H gs0 fun Z_ z_ => rS 1 rfl <| rK [1, 1, 0] [] [] <| rS 1 rfl <| rK [1, 0, 0] [] [] <| rN0 z_ ?_
      try clear H a W
      intro a W H
      refine wp_ret ?_
      repeat (first | (with_reducible refine then_ret ?_) | (with_reducible refine blk_ret ?_))
      refine end_tmp (p := 4) rfl rfl H (fun hb => ?_)
      refine ⟨(.slice A1 z.toNat z.toNat, rdC st A2 (m - z.toNat) (c - z.toNat)), rfl, ⟨?_, ?_⟩, H.kn⟩
      · rw [takeQ_yes ⟨by omega, by rw [hbs.len]; omega⟩]
        exact ⟨_, _, _, rfl, hb1⟩
      · rw [takeQ_yes ⟨by omega, by rw [hbs.len]; omega⟩]
        exact ⟨st, A2, _, _, rfl, hst, hb2, by omega⟩
/-- .. over what is left to it. -/
theorem bytes_R {g : Nat} {c : Array Value} {hh : Hep} {l : List UInt8} (z : Int) (w0 w : World) (hr : RdC w0 l c) (K : Kn w0 w ([(g, 72, c)] ++ hh)) : Calls Tryd.prog 32 #[.pointer (some ⟨g, 0, none⟩), .int .i64 z] w (fun rr w' => ∃ i : Value × Array Value, rr = .returned i.1 ∧ (BF (takeQ l z).1 i.1 w0 ∧ RdC w0 (takeQ l z).2 i.2) ∧ Kn w0 w' ([(g, 72, i.2)] ++ hh)) := by
  obtain ⟨st, A, m, cap, rfl, hst, hbs, hm⟩ := hr
  exact rbytes_K z hst w0 w hbs hm K
theorem fail_R {g : Nat} {c : Array Value} {hh : Hep} {l : List UInt8} (w0 w : World) (hr : RdC w0 l c) (K : Kn w0 w ([(g, 72, c)] ++ hh)) : Calls Tryd.prog 39 #[.pointer (some ⟨g, 0, none⟩)] w (fun rr w' => ∃ i : Unit, rr = .returned (.tuple #[]) ∧ True ∧ Kn w0 w' ([(g, 72, rdC 2 none 0 0)] ++ hh)) := by
  obtain ⟨st, A, m, cap, rfl, hst, hbs, hm⟩ := hr
  exact fail_K hst w0 w K
theorem left_R {g : Nat} {c : Array Value} {w0 w : World} {l : List UInt8} (hr : RdC w0 l c) (hb : Blk w g 72 c) : Calls Tryd.prog 40 #[.pointer (some ⟨g, 0, none⟩)] w (fun r W' => r = .returned (.int .i64 ((l.length : Nat) : Int)) ∧ Below w.heap.size w W') := by
  obtain ⟨st, A, m, cap, rfl, hst, hbs, hm⟩ := hr
  rw [hbs.len]
  exact left_any hb hst
theorem takeQ_small (l : List UInt8) (z : Int) (h : l.length < 9223372036854775808) : (takeQ l z).1.length < 9223372036854775808 := by
  have := takeQ_le l z
  omega
set_option maxHeartbeats 4000000 in
theorem num_R {g : Nat} {c : Array Value} {hh : Hep} {l : List UInt8} (z : Int) (hl : l.length < 9223372036854775808) (w0 w : World) (hr : RdC w0 l c) (K : Kn w0 w ([(g, 72, c)] ++ hh)) : Calls Tryd.prog 28 #[.pointer (some ⟨g, 0, none⟩), .int .i64 z] w (fun rr w' => ∃ c' : Array Value, rr = .returned (.int .u64 (((numQ l z).1 : Nat) : Int)) ∧ RdC w0 (numQ l z).2 c' ∧ Kn w0 w' ([(g, 72, c')] ++ hh)) := by
  refine calls_kn (vs := [.pointer (some ⟨g, 0, none⟩), .int .i64 z]) 19 Tryd.func28 rfl Tryd.ntmps28 rfl K (fun a W H => ?_)
  replace H : St 19 w0 a W [(0, .pointer (some ⟨g, 0, none⟩)), (1, .int .i64 z)] ((g, 72, c) :: hh) := H
  refine sqR H gs0 fun Z_ z_ => rS 1 rfl <| rN0 z_ ?_
  try clear H a W
  intro a W H
  refine wp_seq_k (fun K2 hK2 => ?_)
  cases hq1 : gokQ (takeQ l z).1 with
  | true =>
    refine rgP H gs0 (rS 2 rfl <| rI0 ?_)
    try clear H a W
    intro a W H
    refine pl_callE rfl ⟨_, Tryd.func32, by kernel_rfl⟩ rfl (fun K_ => bytes_R (hh := hh) z w0 _ hr K_) rfl rfl rfl rfl H ?_
    try clear H a W
    rintro ⟨vq, cq⟩ a W ⟨hvq, hcq⟩ H
    replace H : St 19 w0 a W [(10, vq), (9, .int .i64 z), (8, .pointer (some ⟨g, 0, none⟩)), (4, .int .u64 0), (0, .pointer (some ⟨g, 0, none⟩)), (1, .int .i64 z)] ((g, 72, cq) :: hh) := H
    refine rgO H gs0 (rCV rfl rfl ⟨_, Tryd.func38, by kernel_rfl⟩ rfl (fun a W H _ => (by have h_ := get_any (bf_old hvq H) (by have := takeQ_small l z hl; omega); rw [gok_yes hq1] at h_; exact h_)) <| rS 5 rfl <| rK [1, 1, 0, 0, 0, 0, 0, 0, 0, 1, 1, 0] [] [] <| rZ0 ?_)
    try clear H a W
    intro a W H
    refine hK2 _ _ ?_
    clear hK2
    refine wp_seq_k (fun K3 hK3 => ?_)
    refine sqR H gs0 fun Z_ z_ => rS 1 rfl <| rV rfl (does_binOp rfl rfl rfl (er_neq (k := 0) (m := 0) (decide_eq_false (by decide)) _ _)) <| rK [1, 0, 0] [] [] <| rN0 z_ ?_
    try clear H a W
    intro a W H
    refine wp_cond_false (H.ev rfl) ?_
    refine wp_skip ?_
    refine hK3 _ _ ?_
    clear hK3
    refine sqR H gs0 fun Z_ z_ => rS 1 rfl <| rK [1, 1, 1, 0] [] [] <| rS 1 rfl <| rK [1, 0, 0, 0, 0] [] [] <| rN0 z_ ?_
    try clear H a W
    intro a W H
    refine wp_ret ?_
    repeat (first | (with_reducible refine then_ret ?_) | (with_reducible refine blk_ret ?_))
    refine end_tmp (p := 4) rfl rfl H (fun hb => ?_)
    refine ⟨cq, ?_, ?_, H.kn⟩
    · rw [show (numQ l z).1 = accD (takeQ l z).1 0 from by rw [num_yes hq1]]; rfl
    · rw [num_yes hq1]
      exact hcq
  | false =>
    refine rgP H gs0 (rS 2 rfl <| rI0 ?_)
    try clear H a W
    intro a W H
    refine pl_callE rfl ⟨_, Tryd.func32, by kernel_rfl⟩ rfl (fun K_ => bytes_R (hh := hh) z w0 _ hr K_) rfl rfl rfl rfl H ?_
    try clear H a W
    rintro ⟨vq, cq⟩ a W ⟨hvq, hcq⟩ H
    replace H : St 19 w0 a W [(10, vq), (9, .int .i64 z), (8, .pointer (some ⟨g, 0, none⟩)), (4, .int .u64 0), (0, .pointer (some ⟨g, 0, none⟩)), (1, .int .i64 z)] ((g, 72, cq) :: hh) := H
    refine rgO H gs0 (rCV rfl rfl ⟨_, Tryd.func38, by kernel_rfl⟩ rfl (fun a W H _ => (by have h_ := get_any (bf_old hvq H) (by have := takeQ_small l z hl; omega); rw [gok_no hq1] at h_; exact h_)) <| rS 5 rfl <| rK [1, 1, 0, 0, 0, 0, 0, 0, 0, 1, 1, 0] [] [] <| rZ0 ?_)
    try clear H a W
    intro a W H
    refine hK2 _ _ ?_
    clear hK2
    refine wp_seq_k (fun K6 hK6 => ?_)
    refine sqR H gs0 fun Z_ z_ => rS 1 rfl <| rV rfl (does_binOp rfl rfl rfl (er_neq (k := 2) (m := 0) (decide_eq_true (by decide)) _ _)) <| rK [1, 0, 0] [] [] <| rN0 z_ ?_
    try clear H a W
    intro a W H
    refine wp_cond_true (H.ev rfl) ?_
    refine rgP H gs0 (rS 1 rfl <| rI0 ?_)
    try clear H a W
    intro a W H
    refine pl_callE rfl ⟨_, Tryd.func39, by kernel_rfl⟩ rfl (fun K_ => fail_R (hh := hh) w0 _ hcq K_) rfl rfl rfl rfl H ?_
    try clear H a W
    rintro ⟨⟩ a W - H
    replace H : St 19 w0 a W [(17, .tuple #[]), (16, .pointer (some ⟨g, 0, none⟩)), (15, .bool true), (5, .int .u64 0), (4, .int .u64 0), (0, .pointer (some ⟨g, 0, none⟩))] ((g, 72, (rdC 2 none 0 0)) :: hh) := H
    refine rgO H gs0 (rK [0, 0, 0, 1, 1, 0] [] [] <| rZ0 ?_)
    try clear H a W
    intro a W H
    refine hK6 _ _ ?_
    clear hK6
    refine sqR H gs0 fun Z_ z_ => rS 1 rfl <| rK [1, 1, 0] [] [] <| rS 1 rfl <| rK [1, 0, 0] [] [] <| rN0 z_ ?_
    try clear H a W
    intro a W H
    refine wp_ret ?_
    repeat (first | (with_reducible refine then_ret ?_) | (with_reducible refine blk_ret ?_))
    refine end_tmp (p := 4) rfl rfl H (fun hb => ?_)
    refine ⟨rdC 2 none 0 0, ?_, ?_, H.kn⟩
    · rw [num_no hq1]; rfl
    · rw [num_no hq1]
      exact ⟨2, none, 0, 0, rfl, .inr rfl, BS.nil _ _, by decide⟩
set_option maxHeartbeats 4000000 in
theorem wread_any {Ab : Option Addr} {nb cb : Nat} {lb : List UInt8} (w : World) (hFb : BF lb (.slice Ab nb cb) w) (hlb : lb.length ≤ 900000) : Calls Tryd.prog 16 #[.slice Ab nb cb] w (fun rr w' => ∃ (wm : World) (g : Nat) (c : Array Value), rr = .returned (.pointer (some ⟨g, 0, none⟩)) ∧ Below w.heap.size w wm ∧ Kn wm w' [(g, 72, c)] ∧ RdC wm lb c) := by
  refine calls_st (vs := [.slice Ab nb cb]) 8 Tryd.func16 rfl Tryd.ntmps16 rfl (fun a W H => ?_)
  replace H : St 8 w a W [(0, .slice Ab nb cb)] [] := H
  refine sqR H gs0 fun Z_ z_ => rS 1 rfl <| rN0 z_ ?_
  try clear H a W
  intro a W H
  refine wp_seq_k (fun K2 hK2 => ?_)
  refine rgP H gs0 (rS 1 rfl <| rO rfl (fun a W H _ => ob_rows1S H (wanted_none rfl) rfl rfl (bf_old hFb H)) fun v4 => rI ?_)
  try clear H a W
  rintro a W H ⟨hv4, -⟩
  refine pl_R (R := SB) (F := OF w.heap.size [] lb) sb_st (ob_callS H (wanted_none rfl) rfl ⟨_, Tryd.func24, by kernel_rfl⟩ rfl (by have h_ := of_call H (join_any hv4.rf (by simp) (by simp only [List.flatten_cons, List.flatten_nil, List.length_append, List.length_nil]; omega)); rw [flat1] at h_; exact h_)) rfl rfl rfl H ?_
  try clear H a W
  rintro v1 a W hv1 hR_ H
  obtain ⟨A1, m1, c1, rfl, hb1⟩ := hv1.bf
  obtain ⟨wm, H, HKm, hbm⟩ : ∃ wm, St 8 wm a W [(5, .slice A1 m1 c1), (4, v4), (3, .slice Ab nb cb), (2, .pointer none), (0, .slice Ab nb cb)] [] ∧ Kn w wm [] ∧ BS wm wm.heap.size A1 m1 c1 lb := ⟨W, H.rebase, H.kn, hb1⟩
  refine rgO H gs0 (rV rfl (does_build rfl rfl bd_rdr) <| rB rfl rfl rfl bx_rdr fun g1 => rK [1, 1, 1, 1, 1, 0] [] [] <| rS 1 rfl <| rK [1, 0, 0, 0, 0, 0, 0] [] [] <| rZ0 ?_)
  try clear H a W
  intro a W H
  refine hK2 _ _ ?_
  clear hK2
  refine wp_ret ?_
  repeat (first | (with_reducible refine then_ret ?_) | (with_reducible refine blk_ret ?_))
  refine end_tmp (p := 2) rfl rfl H (fun hb => ?_)
  exact ⟨wm, g1, rdC 1 A1 m1 c1, rfl, HKm.below, H.kn, 1, A1, m1, c1, rfl, .inl rfl, hbm, by rw [← hbm.len]; omega⟩
end Go.Proofs.YtonhkclkddobhaaDoor
namespace Go.Proofs.YtonhkclkddobhaaDoor
set_option linter.unusedVariables false
set_option linter.unusedSimpArgs false
set_option maxRecDepth 100000
open Go Go.RowKit
theorem st_derF {g : Nat} {ty : TypeId} {x : DH} {u : Bool} (W : World) (h : Blk W g ty x.cs) : (Instr.storeAt 4 (.pointer (some ⟨g, 1, none⟩)) (.bool u)).run Tryd.prog W = .ok () (W.setCells g 1 [.bool u]) := by
  have hc : W.cell? ⟨g, 1, none⟩ = some (.bool x.f) := h.cell 1
  have hf := h.frozen 1
  have hs : (W.cell? ⟨g, 1, none⟩).isSome = true := by rw [hc]; rfl
  show _ = Result.ok () (W.setCell ⟨g, 1, none⟩ (.bool u))
  go_simp
theorem sv_derF {k m : Int} {f : Bool} {t : List UInt8} {b ar ks : SL} {u : Bool} : setV (DH.mk k f m b t ar ks).cs 1 [.bool u] = (DH.mk k u m b t ar ks).cs := rfl
theorem st_derN {g : Nat} {ty : TypeId} {x : DH} {u : Int} (W : World) (h : Blk W g ty x.cs) : (Instr.storeAt 2 (.pointer (some ⟨g, 2, none⟩)) (.int .i64 u)).run Tryd.prog W = .ok () (W.setCells g 2 [.int .i64 u]) := by
  have hc : W.cell? ⟨g, 2, none⟩ = some (.int .i64 x.n) := h.cell 2
  have hf := h.frozen 2
  have hs : (W.cell? ⟨g, 2, none⟩).isSome = true := by rw [hc]; rfl
  show _ = Result.ok () (W.setCell ⟨g, 2, none⟩ (.int .i64 u))
  go_simp
theorem sv_derN {k m : Int} {f : Bool} {t : List UInt8} {b ar ks : SL} {u : Int} : setV (DH.mk k f m b t ar ks).cs 2 [.int .i64 u] = (DH.mk k f u b t ar ks).cs := rfl
theorem st_derB {g : Nat} {ty : TypeId} {x : DH} {u : SL} (W : World) (h : Blk W g ty x.cs) : (Instr.storeAt 23 (.pointer (some ⟨g, 3, none⟩)) (.slice u.A u.n u.c)).run Tryd.prog W = .ok () (W.setCells g 3 [.slice u.A u.n u.c]) := by
  have hc : W.cell? ⟨g, 3, none⟩ = some (.slice x.b.A x.b.n x.b.c) := h.cell 3
  have hf := h.frozen 3
  have hs : (W.cell? ⟨g, 3, none⟩).isSome = true := by rw [hc]; rfl
  show _ = Result.ok () (W.setCell ⟨g, 3, none⟩ (.slice u.A u.n u.c))
  go_simp
theorem sv_derB {k m : Int} {f : Bool} {t : List UInt8} {b ar ks : SL} {u : SL} : setV (DH.mk k f m b t ar ks).cs 3 [.slice u.A u.n u.c] = (DH.mk k f m u t ar ks).cs := rfl
theorem st_derT {g : Nat} {ty : TypeId} {x : DH} {u : List UInt8} (W : World) (h : Blk W g ty x.cs) : (Instr.storeAt 9 (.pointer (some ⟨g, 4, none⟩)) (.string (strB u))).run Tryd.prog W = .ok () (W.setCells g 4 [.string (strB u)]) := by
  have hc : W.cell? ⟨g, 4, none⟩ = some (.string (strB x.t)) := h.cell 4
  have hf := h.frozen 4
  have hs : (W.cell? ⟨g, 4, none⟩).isSome = true := by rw [hc]; rfl
  show _ = Result.ok () (W.setCell ⟨g, 4, none⟩ (.string (strB u)))
  go_simp
theorem sv_derT {k m : Int} {f : Bool} {t : List UInt8} {b ar ks : SL} {u : List UInt8} : setV (DH.mk k f m b t ar ks).cs 4 [.string (strB u)] = (DH.mk k f m b u ar ks).cs := rfl
theorem st_derA {g : Nat} {ty : TypeId} {x : DH} {u : SL} (W : World) (h : Blk W g ty x.cs) : (Instr.storeAt 24 (.pointer (some ⟨g, 5, none⟩)) (.slice u.A u.n u.c)).run Tryd.prog W = .ok () (W.setCells g 5 [.slice u.A u.n u.c]) := by
  have hc : W.cell? ⟨g, 5, none⟩ = some (.slice x.a.A x.a.n x.a.c) := h.cell 5
  have hf := h.frozen 5
  have hs : (W.cell? ⟨g, 5, none⟩).isSome = true := by rw [hc]; rfl
  show _ = Result.ok () (W.setCell ⟨g, 5, none⟩ (.slice u.A u.n u.c))
  go_simp
theorem sv_derA {k m : Int} {f : Bool} {t : List UInt8} {b ar ks : SL} {u : SL} : setV (DH.mk k f m b t ar ks).cs 5 [.slice u.A u.n u.c] = (DH.mk k f m b t u ks).cs := rfl
theorem st_derS {g : Nat} {ty : TypeId} {x : DH} {u : SL} (W : World) (h : Blk W g ty x.cs) : (Instr.storeAt 25 (.pointer (some ⟨g, 6, none⟩)) (.slice u.A u.n u.c)).run Tryd.prog W = .ok () (W.setCells g 6 [.slice u.A u.n u.c]) := by
  have hc : W.cell? ⟨g, 6, none⟩ = some (.slice x.ks.A x.ks.n x.ks.c) := h.cell 6
  have hf := h.frozen 6
  have hs : (W.cell? ⟨g, 6, none⟩).isSome = true := by rw [hc]; rfl
  show _ = Result.ok () (W.setCell ⟨g, 6, none⟩ (.slice u.A u.n u.c))
  go_simp
theorem sv_derS {k m : Int} {f : Bool} {t : List UInt8} {b ar ks : SL} {u : SL} : setV (DH.mk k f m b t ar ks).cs 6 [.slice u.A u.n u.c] = (DH.mk k f m b t ar u).cs := rfl
theorem bd_der0 (W : World) : (Instr.build 27 #[]).run Tryd.prog W = .ok (.agg (DH.mk 0 false 0 SL.no [] SL.no SL.no).cs) W := by kernel_rfl
theorem bd_derK (k : Int) (W : World) : (Instr.build 27 [(0, .int .i64 k)].toArray).run Tryd.prog W = .ok (.agg (DH.mk k false 0 SL.no [] SL.no SL.no).cs) W := by kernel_rfl
theorem numD_in (l : List UInt8) : -9223372036854775808 ≤ numD l ∧ numD l < 9223372036854775808 := by
  have key : ∀ x : Nat, x < 18446744073709551616 → -9223372036854775808 ≤ s64 x ∧ s64 x < 9223372036854775808 := fun x h => by
    unfold s64
    split <;> omega
  exact key _ (accD_lt (l.take 8) (if 128 ≤ (l.getD 0 0).toNat then 72057594037927935 else 0) (by split <;> omega))
attribute [local irreducible] tagD kindD numD arcsD readD
end Go.Proofs.YtonhkclkddobhaaDoor
