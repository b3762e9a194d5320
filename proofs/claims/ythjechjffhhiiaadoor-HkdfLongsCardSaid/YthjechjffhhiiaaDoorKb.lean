/- Slices of the call's own that are told as the last of the known blocks (none yet, or one): appends of bytes and of keys; a slice of keys that a call answers. -/
import Derived.Test.YthjechjffhhiiaaDoorKa
import Derived.Test.YthjechjffhhiiaaDoorZd
import Derived.Test.YthjechjffhhiiaaDoorIc
import Derived.Test.YthjechjffhhiiaaDoorQe
import Derived.Maps.AppendAt
namespace Go.Proofs.YthjechjffhhiiaaDoor
set_option linter.unusedVariables false
set_option linter.unusedSimpArgs false
set_option maxRecDepth 100000
open Go Go.RowKit

/-- None yet, or a block that is known. -/
def OutV (E : TypeId) (sz : Nat) (t : Hep) (v : Value) (k : Nat) (xs : List Value) : Prop :=
  (t = [] ∧ v = .slice none 0 0 ∧ k = 0 ∧ xs = []) ∨ ∃ g cap cur, t = [(g, E, cur)] ∧ v = .slice (some ⟨g, 0, none⟩) k cap ∧ k ≤ cap ∧ cap ≤ maxLen ∧ cur.size = cap * sz ∧ cur.toList.take (k * sz) = xs
theorem OutV.nil (E : TypeId) (sz : Nat) : OutV E sz [] (.slice none 0 0) 0 [] := .inl ⟨rfl, rfl, rfl, rfl⟩
section
variable {P : Program} {n : Nat} {w0 w w' : World} {a : Act} {e : Env} {h t t2 : Hep} {Q : Exit → Act → World → Prop} {ops : Array Oper} {rest : List Oper} {o : Oper} {E : TypeId} {sz k : Nat} {v : Value} {xs : List Value}
theorem St.perm {h' : Hep} (H : St n w0 a w e h) (hp : h.Perm h') : St n w0 a w e h' := H.sub (fun _ h => h) (fun p hx => hp.mem_iff.2 hx) (hp.pairwise H.apart (fun h1 h2 => h1 h2.symm))
theorem OutV.owns (hv : OutV E sz t v k xs) (H : St n w0 a w e (h ++ t)) : w.ownsRow w0.heap.size E sz v k xs := by
  rcases hv with ⟨rfl, rfl, rfl, rfl⟩ | ⟨g, cap, cur, rfl, rfl, h1, h2, h3, h4⟩
  · exact World.ownsRow_nil _ _ _ _
  · have hb : Blk w g E cur := H.heap (g, E, cur) (by simp)
    have ho : w0.heap.size ≤ g := H.own (g, E, cur) (by simp)
    refine ⟨?_, .inr ⟨g, cap, cur, rfl, ho, hb, h1, h2, h3, h4⟩⟩
    have hle : k * sz ≤ cap * sz := Nat.mul_le_mul_right _ h1
    rw [← h4, List.length_take, Array.length_toList, h3, Nat.min_eq_left hle]
theorem St.app (H : St n w0 a w e (h ++ t)) (hv : OutV E sz t v k xs) {v' : Value} {k' : Nat} {xs' : List Value} (ho : w'.ownsRow w0.heap.size E sz v' k' xs') (hg : w.grownBy w' v.ownBlock) (hb : v'.ownBlock = v.ownBlock ∨ v'.ownBlock = some w.heap.size) (hk : 0 < k') :
    ∃ t', OutV E sz t' v' k' xs' ∧ St n w0 a w' e (h ++ t') := by
  have hap := List.pairwise_append.1 H.apart
  have hown : ∀ g, v.ownBlock = some g → w0.heap.size ≤ g ∧ ∀ p ∈ h, p.1 ≠ g := fun g hg' => by
    rcases hv with ⟨rfl, rfl, _, _⟩ | ⟨g2, cap, cur, rfl, rfl, _⟩
    · cases hg'
    · injection hg' with hg'
      subst hg'
      exact ⟨H.own (g2, E, cur) (by simp), fun p hp => hap.2.2 p hp (g2, E, cur) (by simp)⟩
  rcases ho.2 with ⟨_, h0⟩ | ⟨g, cap, cur, rfl, hB, hcur, h1, h2, h3, h4⟩
  · omega
  · refine ⟨[(g, E, cur)], .inr ⟨g, cap, cur, rfl, rfl, h1, h2, h3, h4⟩, ?_⟩
    have hfar : ∀ p ∈ h, p.1 ≠ g := fun p hp => by
      rcases hb with hb | hb
      · exact (hown g hb.symm).2 p hp
      · injection hb with hb
        have hb : g = w.heap.size := hb
        rw [hb]
        exact Nat.ne_of_lt (H.heap p (List.mem_append.2 (.inl hp))).lt
    have hold : ∀ p ∈ h, Blk w' p.1 p.2.1 p.2.2 := fun p hp => by
      have hbl := H.heap p (List.mem_append.2 (.inl hp))
      exact (hg.block p.1 hbl.lt (fun e1 => (hown p.1 e1.symm).2 p hp rfl)).trans hbl
    refine ⟨H.size, H.defers, H.env, H.below.grown hg H.below.size (fun g' hg' => (hown g' hg').1), fun p hp => ?_, fun p hp => ?_, List.pairwise_append.2 ⟨hap.1, List.pairwise_singleton _ _, fun p hp q hq => ?_⟩⟩
    · rcases List.mem_append.1 hp with hp | hp
      · exact hold p hp
      · rw [List.mem_singleton.1 hp]
        exact hcur
    · rcases List.mem_append.1 hp with hp | hp
      · exact H.own p (List.mem_append.2 (.inl hp))
      · rw [List.mem_singleton.1 hp]
        exact hB
    · rw [List.mem_singleton.1 hq]
      exact hfar p hp
end
/-! Bytes. -/
def OutB (t : Hep) (v : Value) (l : List UInt8) : Prop := OutV 5 1 t v l.length (l.map bv)
theorem OutB.nil : OutB [] (.slice none 0 0) [] := OutV.nil _ _
/-! Keys. -/
def keysV (fs : List (Nat → UInt8)) : List Value := fs.flatMap fun f => (rb 32 f).map bv
def OutK (t : Hep) (v : Value) (fs : List (Nat → UInt8)) : Prop := OutV 25 32 t v fs.length (keysV fs)
theorem OutK.nil : OutK [] (.slice none 0 0) [] := OutV.nil _ _
theorem keysV_len (fs : List (Nat → UInt8)) : (keysV fs).length = 32 * fs.length := by
  induction fs with
  | nil => rfl
  | cons f r ih =>
    show ((rb 32 f).map bv ++ keysV r).length = _
    rw [List.length_append, ih, List.length_map, rb_len, List.length_cons]
    omega
theorem keysV_get : ∀ {fs : List (Nat → UInt8)} {i j : Nat} {f : Nat → UInt8}, fs[i]? = some f → j < 32 → (keysV fs)[32 * i + j]? = some (bv (f j))
  | g :: r, 0, j, f, hf, hj => by
    injection hf with hf
    subst hf
    show ((rb 32 g).map bv ++ keysV r)[32 * 0 + j]? = _
    rw [List.getElem?_append_left (by rw [List.length_map, rb_len]; omega), List.getElem?_map, show 32 * 0 + j = j by omega, rb_get hj]
    rfl
  | g :: r, i + 1, j, f, hf, hj => by
    show ((rb 32 g).map bv ++ keysV r)[32 * (i + 1) + j]? = _
    rw [List.getElem?_append_right (by rw [List.length_map, rb_len]; omega), List.length_map, rb_len, show 32 * (i + 1) + j - 32 = 32 * i + j by omega]
    exact keysV_get (fs := r) hf hj
theorem keysV_snoc (fs : List (Nat → UInt8)) (f : Nat → UInt8) : keysV (fs ++ [f]) = keysV fs ++ (rb 32 f).map bv := by simp [keysV]
section
variable {n : Nat} {w0 w w' : World} {a : Act} {e : Env} {h t t2 : Hep} {Q : Exit → Act → World → Prop} {ops : Array Oper} {rest : List Oper} {o : Oper} {v : Value}
theorem OutB.bf {l : List UInt8} (hv : OutB t v l) (H : St n w0 a w e (h ++ t)) : BF l v w := by
  have ho : OwnB w w0.heap.size 5 v l := OutV.owns hv H
  obtain ⟨A, k, c, e, hb, _⟩ := ho.form
  exact ⟨A, k, c, e, hb⟩
theorem pl_outB {d : Nat} {x y : Operand} {u : Value} {l m : List UInt8} (ho : o.op = .call { callee := .builtin .append, args := #[x, y], argTypes := #[22, 22] }) (hx : sev e x = some v) (hy : sev e y = some u)
    (hv : OutB t v l) (hu : BF m u w) (hm : 0 < l.length + m.length) (hs : l.length + m.length ≤ 1000000) (hg : o.guard = none) (hdst : o.dst = some d) (hl : Nat.blt d n = true) (hf : e.all (fun p => !Nat.beq p.1 d) = true) (H : St n w0 a w e (h ++ t))
    (next : ∀ v' t' a w', OutB t' v' (l ++ m) → St n w0 a w' ((d, v') :: e) (h ++ t') → wpList Tryd.prog ops Q rest a w') : wpList Tryd.prog ops Q (o :: rest) a w :=
  wpList_plain hg fun K hK => by
    obtain ⟨A, k, c, rfl, hr⟩ := hu
    have hk := hr.len
    have hown : OwnB w w0.heap.size 5 v l := OutV.owns hv H
    obtain ⟨v', w', h1, h2, h3, h4⟩ := run_app_own (P := Tryd.prog) (w := w) 22 o.type 5 Tryd.underlying22 u8_info w0.heap.size v l hown _ k c A m hr (by omega) H.below.size
    obtain ⟨t', hv', H'⟩ := H.app hv h2 h3 h4 (by rw [List.length_append]; exact hm)
    unfold Oper.wp
    simp [execOp, ho, resolve, invoke, builtin, H.ev hx, H.ev hy, h1, Result.andThen]
    refine hK _ _ (next v' t' _ _ hv' ?_)
    rw [hdst]
    exact H'.put _ hl hf
/-- .. where another one stands behind it. -/
theorem pl_outB1 {d : Nat} {x y : Operand} {u : Value} {l m : List UInt8} (ho : o.op = .call { callee := .builtin .append, args := #[x, y], argTypes := #[22, 22] }) (hx : sev e x = some v) (hy : sev e y = some u)
    (hv : OutB t v l) (hu : BF m u w) (hm : 0 < l.length + m.length) (hs : l.length + m.length ≤ 1000000) (hg : o.guard = none) (hdst : o.dst = some d) (hl : Nat.blt d n = true) (hf : e.all (fun p => !Nat.beq p.1 d) = true) (H : St n w0 a w e (h ++ (t ++ t2)))
    (next : ∀ v' t' a w', OutB t' v' (l ++ m) → St n w0 a w' ((d, v') :: e) (h ++ (t' ++ t2)) → wpList Tryd.prog ops Q rest a w') : wpList Tryd.prog ops Q (o :: rest) a w := by
  have hp : ∀ s : Hep, (h ++ (s ++ t2)).Perm ((h ++ t2) ++ s) := fun s => by
    rw [List.append_assoc]
    exact List.Perm.append_left _ List.perm_append_comm
  exact pl_outB (h := h ++ t2) ho hx hy hv hu hm hs hg hdst hl hf (H.perm (hp t)) fun v' t' a w' hv' H' => next v' t' a w' hv' (H'.perm (hp t').symm)
theorem pl_outB2 {d : Nat} {x y : Operand} {u : Value} {l m : List UInt8} (ho : o.op = .call { callee := .builtin .append, args := #[x, y], argTypes := #[22, 22] }) (hx : sev e x = some v) (hy : sev e y = some u)
    (hv : OutB t v l) (hu : BF m u w) (hm : 0 < l.length + m.length) (hs : l.length + m.length ≤ 1000000) (hg : o.guard = none) (hdst : o.dst = some d) (hl : Nat.blt d n = true) (hf : e.all (fun p => !Nat.beq p.1 d) = true) (H : St n w0 a w e (h ++ (t2 ++ t)))
    (next : ∀ v' t' a w', OutB t' v' (l ++ m) → St n w0 a w' ((d, v') :: e) (h ++ (t2 ++ t')) → wpList Tryd.prog ops Q rest a w') : wpList Tryd.prog ops Q (o :: rest) a w := by
  refine pl_outB (h := h ++ t2) ho hx hy hv hu hm hs hg hdst hl hf (by rw [List.append_assoc]; exact H) fun v' t' a w' hv' H' => next v' t' a w' hv' ?_
  rw [List.append_assoc] at H'
  exact H'
theorem OutB.bf1 {l : List UInt8} (hv : OutB t v l) (H : St n w0 a w e (h ++ (t ++ t2))) : BF l v w := by
  have hp : (h ++ (t ++ t2)).Perm ((h ++ t2) ++ t) := by
    rw [List.append_assoc]
    exact List.Perm.append_left _ List.perm_append_comm
  exact OutB.bf hv (H.perm hp)
theorem OutB.bf2 {l : List UInt8} (hv : OutB t v l) (H : St n w0 a w e (h ++ (t2 ++ t))) : BF l v w := OutB.bf (h := h ++ t2) hv (by rw [List.append_assoc]; exact H)
theorem key_infoK : (Tryd.prog.info? 25).map (fun i => (i.zero.map (·.cells.size), i.size, i.bytes)) = some (some 32, 32, 32) := by kernel_rfl
/-- A key that lies behind an address. -/
theorem pl_outK {d : Nat} {x y : Operand} {g c : Nat} {fs : List (Nat → UInt8)} {f : Nat → UInt8} (ho : o.op = .call { callee := .builtin .append, args := #[x, y], argTypes := #[29, 29] }) (hx : sev e x = some v) (hy : sev e y = some (.slice (some ⟨g, 0, none⟩) 1 c))
    (hv : OutK t v fs) (hc : ∀ j, j < 32 → w.cell? ⟨g, j, none⟩ = some (bv (f j))) (hs : fs.length ≤ 1000) (hg : o.guard = none) (hdst : o.dst = some d) (hl : Nat.blt d n = true) (hf : e.all (fun p => !Nat.beq p.1 d) = true) (H : St n w0 a w e (h ++ t))
    (next : ∀ v' t' a w', OutK t' v' (fs ++ [f]) → St n w0 a w' ((d, v') :: e) (h ++ t') → wpList Tryd.prog ops Q rest a w') : wpList Tryd.prog ops Q (o :: rest) a w :=
  wpList_plain hg fun K hK => by
    have hi := key_infoK
    cases hq : Tryd.prog.info? 25 with
    | none => rw [hq] at hi; cases hi
    | some i =>
      rw [hq] at hi
      simp only [Option.map_some, Option.some.injEq, Prod.mk.injEq] at hi
      obtain ⟨hz, hsz, hby⟩ := hi
      cases hz0 : i.zero with
      | none => rw [hz0] at hz; cases hz
      | some z =>
        rw [hz0] at hz
        simp only [Option.map_some, Option.some.injEq] at hz
        obtain ⟨v', w', h1, h2, h3, _, h4⟩ := run_append_own_at (P := Tryd.prog) w w0.heap.size 29 o.type 25 i z 32 32 Tryd.underlying29 hq hz0 hsz hby hz (by omega) v fs.length (keysV fs) (OutV.owns hv H) ⟨g, 0, none⟩ 1 c ((rb 32 f).map bv) (by rw [List.length_map, rb_len]) (fun j u hu => by
          rw [List.getElem?_map] at hu
          obtain ⟨b, hb, rfl⟩ := Option.map_eq_some_iff.1 hu
          have hj : j < 32 := by have := (List.getElem?_eq_some_iff.1 hb).1; rwa [rb_len] at this
          rw [rb_get hj] at hb
          injection hb with hb
          subst hb
          rw [Addr.add_lit, Nat.zero_add]
          exact hc j hj) (fun u hu => by
          obtain ⟨b, _, rfl⟩ := List.mem_map.1 hu
          rfl) (by simp only [maxLen]; omega) (by omega) H.below.size
        obtain ⟨t', hv', H'⟩ := H.app hv h2 h3 h4 (by omega)
        unfold Oper.wp
        simp [execOp, ho, resolve, invoke, builtin, H.ev hx, H.ev hy, h1, Result.andThen]
        refine hK _ _ (next v' t' _ _ ?_ ?_)
        · unfold OutK
          rw [List.length_append, keysV_snoc]
          exact hv'
        · rw [hdst]
          exact H'.put _ hl hf
end
/-- Keys that a call answers: a block of its own. -/
def KF (B : Nat) (h : Hep) (fs : List (Nat → UInt8)) (v : Value) (w : World) : Prop := ∃ g cap cur, v = .slice (some ⟨g, 0, none⟩) fs.length cap ∧ Blk w g 25 cur ∧ B ≤ g ∧ (∀ p ∈ h, p.1 ≠ g) ∧ ∀ (i : Nat) (f : Nat → UInt8), fs[i]? = some f → ∀ j, j < 32 → cur[32 * i + j]? = some (bv (f j))
instance {B : Nat} {h : Hep} {fs : List (Nat → UInt8)} {v : Value} : Lasts (KF B h fs v) := ⟨fun w w' ⟨g, cap, cur, e, hb, h1, h2, h3⟩ hbel => ⟨g, cap, cur, e, hb.below hbel hb.lt, h1, h2, h3⟩⟩
theorem out_cells {t : Hep} {v : Value} {fs : List (Nat → UInt8)} (hv : OutK t v fs) (h0 : 0 < fs.length) : ∃ g cap cur, t = [(g, 25, cur)] ∧ v = .slice (some ⟨g, 0, none⟩) fs.length cap ∧ ∀ (i : Nat) (f : Nat → UInt8), fs[i]? = some f → ∀ j, j < 32 → cur[32 * i + j]? = some (bv (f j)) := by
  rcases hv with ⟨_, _, h1, _⟩ | ⟨g, cap, cur, rfl, rfl, h1, h2, h3, h4⟩
  · omega
  · refine ⟨g, cap, cur, rfl, rfl, fun i f hf j hj => ?_⟩
    have := keysV_get hf hj
    rw [← h4, List.getElem?_take] at this
    split at this
    · rw [← Array.getElem?_toList]
      exact this
    · cases this
theorem ld_keyOf {g i : Nat} {t : TypeId} {cur : Array Value} {f : Nat → UInt8} (hc : ∀ j, j < 32 → cur[32 * i + j]? = some (bv (f j))) (W : World) (hb : Blk W g t cur) : (Instr.loadAt 25 (.pointer (some ⟨g, 32 * i, none⟩))).run Tryd.prog W = .ok (.agg (bvs (rb 32 f))) W := by
  have hr : W.rangeAt g (32 * i) ((rb 32 f).map bv) := fun j v hv => by
    have hj : j < 32 := by have := (List.getElem?_eq_some_iff.1 hv).1; rwa [List.length_map, rb_len] at this
    rw [List.getElem?_map, rb_get hj] at hv
    rw [hb.cell, hc j hj]
    exact hv
  exact run_loadAt_mid (P := Tryd.prog) W g (32 * i) 25 ((rb 32 f).map bv) _ hr Tryd.underlying25 rfl (by rw [List.length_map, rb_len]; kernel_rfl)
end Go.Proofs.YthjechjffhhiiaaDoor
