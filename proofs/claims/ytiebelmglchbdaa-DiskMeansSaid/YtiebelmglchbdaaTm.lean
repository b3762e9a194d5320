/- Maps that are keyed by whole numbers, at a block that is told (over Tid). -/
import Derived.Test.YtiebelmglchbdaaTd
import Derived.MapKept
import Derived.ChangeMaps5
namespace Go.Proofs.Ytiebelmglchbdaa
set_option linter.unusedVariables false
set_option linter.unusedSimpArgs false
set_option maxRecDepth 100000
open Go Go.RowKit

/-- Entries: the key, the value, when it was born. -/
abbrev EntI := Int × Value × Nat
def entI (x : EntI) : MapEntry := { key := .int .i64 x.1, val := x.2.1, born := x.2.2 }
def entsI (l : List EntI) : Array MapEntry := (l.map entI).toArray
/-- Where a key stands, and its value. -/
def findI (n : Int) : List EntI → Nat → Option (Nat × Value)
  | [], _ => none
  | x :: r, i => if n = x.1 then some (i, x.2.1) else findI n r (i + 1)
def lookI (l : List EntI) (n : Int) : Option Value := (findI n l 0).map (·.2)
def setI (n : Int) (v : Value) (c : Nat) : List EntI → List EntI
  | [] => [(n, v, c)]
  | x :: r => if n = x.1 then (n, v, x.2.2) :: r else x :: setI n v c r
/-- The clock behind a store. -/
def clockI (l : List EntI) (n : Int) (c : Nat) : Nat := if (findI n l 0).isSome then c else c + 1
theorem find_shift (n : Int) : ∀ (l : List EntI) (i : Nat), findI n l i = (findI n l 0).map fun p => (p.1 + i, p.2)
  | [], _ => rfl
  | x :: r, i => by
    unfold findI
    split
    · simp
    · rw [find_shift n r (i + 1), find_shift n r (0 + 1), Option.map_map]
      congr 1
      funext p
      simp
      omega
theorem look_nil (n : Int) : lookI [] n = none := rfl
theorem look_cons (x : EntI) (r : List EntI) (n : Int) : lookI (x :: r) n = if n = x.1 then some x.2.1 else lookI r n := by
  unfold lookI
  rw [findI]
  split
  · rfl
  · rw [find_shift, Option.map_map]
    rfl
theorem look_set (n m : Int) (v : Value) (c : Nat) : ∀ l : List EntI, lookI (setI n v c l) m = if m = n then some v else lookI l m
  | [] => by
    show lookI [(n, v, c)] m = _
    rw [look_cons]
  | x :: r => by
    have ih := look_set n m v c r
    rw [setI]
    split
    · rename_i h
      rw [look_cons, look_cons]
      by_cases hm : m = n
      · rw [if_pos hm, if_pos hm]
      · rw [if_neg hm, if_neg hm, if_neg (by rw [← h]; exact hm)]
    · rename_i h
      rw [look_cons, look_cons, ih]
      by_cases hx : m = x.1
      · rw [if_pos hx, if_pos hx, if_neg (by rw [hx]; exact fun e => h e.symm)]
      · rw [if_neg hx, if_neg hx]
theorem findNow_int (n : Int) : ∀ (l : List EntI) (i : Nat), Instr.findNow (.int .i64) (.int .i64 n) (l.map entI) i = some (findI n l i)
  | [], _ => rfl
  | x :: r, i => by
    rw [List.map_cons]
    unfold Instr.findNow findI
    have e : Instr.sameNow (.int .i64) (.int .i64 n) (entI x).key = some (n == x.1) := by
      unfold entI Instr.sameNow
      simp
    rw [e]
    by_cases h : n = x.1
    · rw [if_pos h, beq_iff_eq.2 h]
      rfl
    · rw [if_neg h, beq_eq_false_iff_ne.2 h]
      exact findNow_int n r (i + 1)
theorem setI_some {n : Int} {v : Value} {c : Nat} : ∀ {l : List EntI} {i k : Nat} {u : Value}, findI n l k = some (i + k, u) → (entsI l).modify i (fun e => { e with key := .int .i64 n, val := v }) = entsI (setI n v c l) ∧ ((entsI l)[i]?).map (·.key) = some (.int .i64 n)
  | [], _, _, _, h => by cases h
  | x :: r, i, k, u, h => by
    unfold findI at h
    unfold setI
    split at h
    · rename_i hx
      injection h with h
      injection h with h1 h2
      obtain rfl : i = 0 := by omega
      rw [if_pos hx]
      refine ⟨?_, ?_⟩
      · apply Array.toList_inj.1
        simp [entsI, entI, Array.toList_modify]
      · simp [entsI, entI, hx]
    · rename_i hx
      rw [if_neg hx]
      cases i with
      | zero =>
        rw [find_shift] at h
        cases hf : findI n r 0 with
        | none => rw [hf] at h; cases h
        | some p =>
          rw [hf] at h
          injection h with h
          injection h with h1 h2
          omega
      | succ i =>
        obtain ⟨h1, h2⟩ := setI_some (v := v) (c := c) (l := r) (i := i) (k := k + 1) (u := u) (by rw [h]; congr 2; omega)
        refine ⟨?_, ?_⟩
        · have h1' := congrArg Array.toList h1
          apply Array.toList_inj.1
          simp only [entsI, Array.toList_modify, List.map_cons] at h1' ⊢
          rw [List.modify_succ_cons, h1']
        · simpa [entsI] using h2
theorem setI_none {n : Int} {v : Value} {c : Nat} : ∀ {l : List EntI} {k : Nat}, findI n l k = none → (entsI l).push { key := .int .i64 n, val := v, born := c } = entsI (setI n v c l)
  | [], _, _ => rfl
  | x :: r, k, h => by
    unfold findI at h
    unfold setI
    split at h
    · cases h
    · rename_i hx
      rw [if_neg hx]
      have h1 := congrArg Array.toList (setI_none (v := v) (c := c) h)
      apply Array.toList_inj.1
      simp only [entsI, Array.toList_push, List.map_cons, List.cons_append] at h1 ⊢
      rw [h1]
section
variable {P : Program} {w : World} {mt kt et : TypeId} {b c : Nat} {l : List EntI}
theorem run_lookI (hm : P.underlying mt = some (.map kt et)) (hk : P.underlying kt = some (.int .i64)) (hb : Blk w b (.map (entsI l) c) #[]) {z : Value} (hz : (zeroValue et).run P w = .ok z w) (n : Int) :
    (Instr.lookup mt (.map (some b)) (.int .i64 n) false).run P w = .ok ((lookI l n).getD z) w := by
  have hf : (Instr.findKey kt (.int .i64 n) (entsI l).toList).run P w = .ok (findI n l 0) w := MapKept.run_findKey hk (findNow_int n l 0)
  have hc : ∀ e m, (Instr.checkKey e (m + 1) kt (.int .i64 n)).run P w = .ok () w := fun e m => MapKept.run_checkKey hk (by simp [MapKept.IsKey]) e m
  unfold Instr.lookup lookI
  simp only [Sem.run_bind, run_underlying hm, Result.andThen_ok, MapKept.run_getObj_map hb.2, Sem.run_pure]
  rw [hc _ 9999]
  simp only [Result.andThen_ok, hf]
  cases findI n l 0 with
  | none => simp [hz, Result.andThen]
  | some p => simp [Result.andThen]
theorem run_setI (hm : P.underlying mt = some (.map kt et)) (hk : P.underlying kt = some (.int .i64)) (hb : Blk w b (.map (entsI l) c) #[]) (n : Int) (v : Value) :
    (Instr.mapUpdate mt (.map (some b)) (.int .i64 n) v).run P w = .ok () { w with heap := w.heap.setIfInBounds b (.map (entsI (setI n v c l)) (clockI l n c)) } := by
  have hf : (Instr.findKey kt (.int .i64 n) (entsI l).toList).run P w = .ok (findI n l 0) w := MapKept.run_findKey hk (findNow_int n l 0)
  have hc : ∀ e m, (Instr.checkKey e (m + 1) kt (.int .i64 n)).run P w = .ok () w := fun e m => MapKept.run_checkKey hk (by simp [MapKept.IsKey]) e m
  unfold Instr.mapUpdate clockI
  simp only [Sem.run_bind, run_underlying hm, Result.andThen_ok, MapKept.run_getObj_map hb.2, Sem.run_pure]
  rw [hc _ 9999]
  simp only [Result.andThen_ok, hf]
  cases hq : findI n l 0 with
  | none =>
    simp only [Option.isSome_none, Bool.false_eq_true, if_false]
    rw [setI_none hq, MapKept.run_setObj_map _ hb.2]
  | some p =>
    obtain ⟨i, u⟩ := p
    obtain ⟨h1, h2⟩ := setI_some (v := v) (c := c) (i := i) (k := 0) hq
    simp only [Option.isSome_some, if_true]
    rw [h2]
    have hs : (Instr.keyThatStays (.int .i64 n) (.int .i64 n)).run P w = .ok (.int .i64 n) w := by
      unfold Instr.keyThatStays
      rw [if_pos (by unfold Instr.sameBits; simp)]
      rfl
    simp only [Option.getD_some, Sem.run_bind, hs, Result.andThen_ok]
    rw [h1, MapKept.run_setObj_map _ hb.2]
end
section
variable {P : Program} {n : Nat} {w0 w w' : World} {a : Act} {e : Env} {h : Hep} {Q : Exit → Act → World → Prop} {ops : Array Oper} {rest : List Oper} {o : Oper}
/-- A block becomes another one. -/
theorem St.writeT (H : St n w0 a w e h) {k g : Nat} {t s : Tid} {cs c : Array Value} (hk : h[k]? = some (g, t, cs)) (hs : Blk w' g s c) (hb : Below w0.heap.size w0 w') (ho : ∀ (b : Nat) (t' : Tid) (d : Array Value), b ≠ g → Blk w b t' d → Blk w' b t' d) :
    St n w0 a w' e (h.set k (g, s, c)) := by
  refine ⟨H.size, H.defers, H.env, hb, fun p hp => ?_, fun p hp => ?_, pw_of fun i j x y hl hx hy => ?_⟩
  · rcases setAt_mem hp with rfl | ⟨j, hj, hp⟩
    · exact hs
    · exact ho _ _ _ (pw_ne H.apart hj hp hk) (H.heap p (List.mem_iff_getElem?.2 ⟨j, hp⟩))
  · rcases setAt_mem hp with rfl | ⟨j, hj, hp⟩
    · exact H.own (g, t, cs) (List.mem_iff_getElem?.2 ⟨k, hk⟩)
    · exact H.own p (List.mem_iff_getElem?.2 ⟨j, hp⟩)
  · have fst : ∀ (m : Nat) (z : Nat × Tid × Array Value), (h.set k (g, s, c))[m]? = some z → ∃ u : Nat × Tid × Array Value, h[m]? = some u ∧ u.1 = z.1 := by
      intro m z hz
      by_cases e1 : m = k
      · subst e1
        have hl : m < h.length := (List.getElem?_eq_some_iff.1 hk).1
        rw [List.getElem?_set_self hl] at hz
        exact ⟨_, hk, by rw [← Option.some.inj hz]⟩
      · rw [List.getElem?_set_ne (Ne.symm e1)] at hz
        exact ⟨_, hz, rfl⟩
    obtain ⟨u, hu, eu⟩ := fst i x hx
    obtain ⟨v, hv, ev⟩ := fst j y hy
    rw [← eu, ← ev]
    exact pw_ne H.apart (by omega) hu hv
/-- What a map at a told block holds. -/
theorem does_lookI {mt kt et : TypeId} {x y : Operand} {b c k : Nat} {l : List EntI} {i : Int} {z : Value} (ho : o.op = .lookup mt x y false) (hx : sev e x = some (.map (some b))) (hy : sev e y = some (.int .i64 i)) (hk : h[k]? = some (b, .map (entsI l) c, #[])) (hm : P.underlying mt = some (.map kt et)) (hkt : P.underlying kt = some (.int .i64)) (hz : ∀ W, (zeroValue et).run P W = .ok z W) : Does P Q n w0 e h o ((lookI l i).getD z) := does_run fun a w H => by
  have hb : Blk w b (.map (entsI l) c) #[] := H.heap _ (List.mem_iff_getElem?.2 ⟨k, hk⟩)
  simp [execOp, ho, H.ev hx, H.ev hy, run_lookI hm hkt hb (hz w), Result.andThen]
/-- A store into a map at a told block. -/
theorem pl_setI {mt kt et : TypeId} {x y u : Operand} {b c k : Nat} {l : List EntI} {i : Int} {v : Value} (ho : o.op = .mapUpdate mt x y u) (hx : sev e x = some (.map (some b))) (hy : sev e y = some (.int .i64 i)) (hu : sev e u = some v) (hk : h[k]? = some (b, .map (entsI l) c, #[])) (hm : P.underlying mt = some (.map kt et)) (hkt : P.underlying kt = some (.int .i64)) (hg : o.guard = none) (hdst : o.dst = none)
    (H : St n w0 a w e h) (next : ∀ a w, St n w0 a w e (h.set k (b, .map (entsI (setI i v c l)) (clockI l i c), #[])) → wpList P ops Q rest a w) : wpList P ops Q (o :: rest) a w :=
  wpList_plain hg fun K hK => by
    have hmem := List.mem_iff_getElem?.2 ⟨k, hk⟩
    have hb : Blk w b (.map (entsI l) c) #[] := H.heap _ hmem
    have hown : w0.heap.size ≤ b := H.own _ hmem
    have hset := MapKept.heap_set (o' := Obj.map (entsI (setI i v c l)) (clockI l i c)) hb.2
    have hgrow : w.grownBy { w with heap := w.heap.setIfInBounds b (.map (entsI (setI i v c l)) (clockI l i c)) } (some b) := ⟨rfl, rfl, rfl, by simp, fun j _ hj => hset.2 j (fun e => hj (by rw [e]))⟩
    unfold Oper.wp
    simp [execOp, ho, H.ev hx, H.ev hy, H.ev hu, run_setI hm hkt hb, Result.andThen]
    refine hK _ _ (next _ _ ?_)
    rw [hdst]
    exact H.writeT hk ⟨rfl, hset.1⟩ (H.below.grown hgrow H.below.size (fun j hj => by injection hj with hj; rw [← hj]; exact hown)) (fun b' t' d hne hB => hB.as (hset.2 b' hne))
/-- A new map. -/
theorem pl_makeMap {d : Nat} {mt : TypeId} (ho : o.op = .makeMap mt none) (hg : o.guard = none) (hdst : o.dst = some d) (hl : Nat.blt d n = true) (hf : e.all (fun p => !Nat.beq p.1 d) = true) (H : St n w0 a w e h)
    (next : ∀ (b : Nat) a w, St n w0 a w ((d, .map (some b)) :: e) ((b, .map (entsI []) 0, #[]) :: h) → wpList P ops Q rest a w) : wpList P ops Q (o :: rest) a w :=
  wpList_plain hg fun K hK => by
    have e1 : (execOp a.eval o).run P w = .ok (.value (.map (some w.heap.size))) (w.alloc (.map #[] 0)) := by
      simp [execOp, ho, Instr.makeMap, Result.andThen]
    unfold Oper.wp
    rw [e1]
    refine hK _ _ (next w.heap.size _ _ ?_)
    rw [hdst]
    have hA := MapKept.heap_alloc w (.map #[] 0)
    have hbel : Below w.heap.size w (w.alloc (.map #[] 0)) := (Below.refl _ _).alloc (Nat.le_refl _) _
    have H' := H.news (t := [(w.heap.size, .map (entsI []) 0, #[])]) hbel ⟨fun p hp => by rw [List.mem_singleton.1 hp]; exact ⟨rfl, hA.1⟩, fun p hp => by rw [List.mem_singleton.1 hp]; exact Nat.le_refl _, List.pairwise_singleton _ _⟩
    exact (H'.perm' List.perm_append_comm).put _ hl hf
end
end Go.Proofs.Ytiebelmglchbdaa
