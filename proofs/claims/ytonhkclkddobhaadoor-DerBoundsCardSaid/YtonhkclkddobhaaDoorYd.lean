/- Words, contracts and walks (Xl, Xm, Xn, Xo, Xp, Xq, Xr, Lr, Ls, Lu, Lv, Xs, Oe, Ua, Ub, Uc, Ud, Pj, Ue), laid together. No condition. -/
import Derived.Test.YtonhkclkddobhaaDoorYc
import Derived.LaidEql
import Derived.WideKeyRuns
import Derived.Laws.StructEq
import Derived.Shelf.Unicode.ValidAny
import Derived.Lib.LaidU8T
import Derived.MakeChecks
import Derived.LaidMore
import Derived.Lay
import Derived.ProofKit
import Derived.Stop.Joined
import Derived.OpenShut
import Derived.ChangeOld
import Derived.ChangeArms
import Derived.Below
import Derived.Test.YtonhkclkddobhaaDoorRows
namespace Go.Proofs.YtonhkclkddobhaaDoor
set_option linter.unusedVariables false
set_option linter.unusedSimpArgs false
set_option maxRecDepth 100000
open Go Go.RowKit
/-- Where a list stands, and how long it is. -/
abbrev Key := Option (Nat × Nat) × Nat
def keyP (κ : Key) : Option Addr := κ.1.map fun p => ⟨p.1, p.2, none⟩
def keyC (κ : Key) : Array Value := #[.pointer (keyP κ), .int .i64 (κ.2 : Int)]
def keyV (κ : Key) : Value := .agg (keyC κ)
/-- It stands in a plain row. -/
def okK (w : World) (κ : Key) : Prop := ∀ p, κ.1 = some p → Plain w p.1
theorem okK.below {w w' : World} {κ : Key} (h : okK w κ) (hb : Below w.heap.size w w') : okK w' κ := fun p hp => (h p hp).below (h p hp).lt hb
set_option maxHeartbeats 4000000 in
theorem run_eqK {w : World} {κ κ' : Key} (h : okK w κ) (h' : okK w κ') : (Op.equal 51 (keyV κ) (keyV κ')).run Tryd.prog w = .ok (decide (κ = κ')) w := by
  have ht : Tryd.prog.underlying 51 = some (.struct (Tryd.prog.fieldsOf 51)) := by kernel_rfl
  have hp : Tryd.prog.stoodInHeld 51 = false := by kernel_rfl
  have hup : Tryd.prog.underlying 49 = some (.pointer 27) := by kernel_rfl
  have hui : Tryd.prog.underlying 3 = some (.int .i64) := by kernel_rfl
  have hptr : ∀ d, (Op.equalIn (d + 1) 49 (.pointer (keyP κ)) (.pointer (keyP κ'))).run Tryd.prog w = .ok (decide (κ.1 = κ'.1)) w := fun d => by
    obtain ⟨A, n⟩ := κ
    obtain ⟨B, m⟩ := κ'
    unfold keyP
    cases A with
    | none =>
      cases B with
      | none => simp [Op.equalIn, run_underlying hup]
      | some q => simp [Op.equalIn, run_underlying hup]
    | some p =>
      cases B with
      | none => simp [Op.equalIn, run_underlying hup]
      | some q =>
        obtain ⟨ca, ta, ha⟩ := h p rfl
        obtain ⟨cb, tb, hb⟩ := h' q rfl
        have hsz : (sizeOf 27).run Tryd.prog w = .ok 7 w := by
          have hi : (Tryd.prog.info? 27).map (·.size) = some 7 := by kernel_rfl
          cases hq : Tryd.prog.info? 27 with
          | none => rw [hq] at hi; cases hi
          | some i =>
            rw [hq] at hi
            injection hi with hi
            simp [sizeOf, typeInfo, hq, hi]
        have hs : (sameAddr ⟨p.1, p.2, none⟩ ⟨q.1, q.2, none⟩).run Tryd.prog w = .ok (decide ((some p : Option (Nat × Nat)) = some q)) w := by
          by_cases e : p = q
          · subst e
            rw [decide_eq_true rfl]
            exact run_sameAddr_same w _
          · rw [decide_eq_false (fun e2 => e (Option.some.inj e2))]
            refine run_sameAddr_other w (a := ⟨p.1, p.2, none⟩) (b := ⟨q.1, q.2, none⟩) (fun e2 => e ?_) ha hb
            injection e2 with e2 e3
            exact Prod.ext e2 e3
        simp only [Option.map_some, Op.equalIn, Sem.run_bind, run_underlying hup, Result.andThen_ok, hsz]
        simp only [ne_eq, Nat.reduceEqDiff, not_false_eq_true, if_true]
        exact hs
  have hint : (Op.equalIn 9999 3 (.int .i64 (κ.2 : Int)) (.int .i64 (κ'.2 : Int))).run Tryd.prog w = .ok (decide (κ.2 = κ'.2)) w := by
    rw [run_equalIn_int w 9998 3 .i64 .i64 _ _ hui]
    congr 1
    rw [Bool.eq_iff_iff, beq_iff_eq, decide_eq_true_eq]
    omega
  have hfs : (Tryd.prog.fieldsOf 51).toList.map (fun f => (f.name, f.type, f.offset)) = [("first", 49, 0), ("n", 3, 1)] := by kernel_rfl
  unfold keyV Op.equal
  rw [show Op.maxDepth = 9999 + 1 from rfl, run_equalIn_struct w 9999 51 (keyC κ) (keyC κ') ht hp]
  generalize (Tryd.prog.fieldsOf 51).toList = fs at hfs
  rcases fs with _ | ⟨f1, _ | ⟨f2, _ | ⟨f3, r⟩⟩⟩
  · simp at hfs
  · simp at hfs
  · simp only [List.map_cons, List.map_nil, List.cons.injEq, Prod.mk.injEq, and_true] at hfs
    obtain ⟨⟨e1, e2, e3⟩, e4, e5, e6⟩ := hfs
    have hag1 : ∀ cs : Array Value, ∀ v, cs[0]? = some v → (part 49 cs 0).run Tryd.prog w = .ok v w := fun cs v hv => by
      have ha : (isAgg 49).run Tryd.prog w = .ok false w := by
        simp [isAgg, run_underlying hup]
      simp [part, ha, hv]
    have hag2 : ∀ cs : Array Value, ∀ v, cs[1]? = some v → (part 3 cs 1).run Tryd.prog w = .ok v w := fun cs v hv => by
      have ha : (isAgg 3).run Tryd.prog w = .ok false w := by
        simp [isAgg, run_underlying hui]
      simp [part, ha, hv]
    simp only [Op.eqFields, e1, e2, e3, e4, e5, e6, Sem.run_ite, Sem.run_bind]
    rw [hag1 (keyC κ) (.pointer (keyP κ)) rfl]
    simp only [Result.andThen_ok]
    rw [hag1 (keyC κ') (.pointer (keyP κ')) rfl]
    simp only [Result.andThen_ok]
    rw [hptr 9998]
    simp only [Result.andThen_ok]
    by_cases h1 : κ.1 = κ'.1
    · simp only [decide_eq_true h1]
      rw [hag2 (keyC κ) (.int .i64 (κ.2 : Int)) rfl]
      simp only [Result.andThen_ok]
      rw [hag2 (keyC κ') (.int .i64 (κ'.2 : Int)) rfl]
      simp only [Result.andThen_ok]
      rw [hint]
      by_cases h2 : κ.2 = κ'.2
      · have e : κ = κ' := Prod.ext h1 h2
        simp [h2, e]
      · have e : ¬ κ = κ' := fun e => h2 (by rw [e])
        simp [h2, e]
    · have e : ¬ κ = κ' := fun e => h1 (by rw [e])
      simp [h1, e]
  · simp at hfs
/-- A key, and how often it was met. -/
abbrev EntK := Key × Nat
def entK (i : Nat) (x : EntK) : MapEntry := { key := keyV x.1, val := .int .i64 (x.2 : Int), born := i }
def entsFrom : Nat → List EntK → List MapEntry
  | _, [] => []
  | i, x :: r => entK i x :: entsFrom (i + 1) r
def entsK (E : List EntK) : Array MapEntry := (entsFrom 0 E).toArray
def findK (κ : Key) : List EntK → Nat → Option (Nat × Nat)
  | [], _ => none
  | x :: r, i => if κ = x.1 then some (i, x.2) else findK κ r (i + 1)
def cntK (κ : Key) (E : List EntK) : Nat := match findK κ E 0 with | some p => p.2 | none => 0
def posK (κ : Key) (E : List EntK) : Nat := match findK κ E 0 with | some p => p.1 | none => E.length
def touchK (κ : Key) (E : List EntK) : List EntK := match findK κ E 0 with | some _ => E | none => E ++ [(κ, 0)]
def bumpK (κ : Key) (E : List EntK) : List EntK := (touchK κ E).set (posK κ E) (κ, cntK κ E + 1)
theorem run_findK {w : World} {κ : Key} (h : okK w κ) : ∀ (E : List EntK) (j i : Nat), (∀ x ∈ E, okK w x.1) → (Instr.findAsking 51 (keyV κ) (entsFrom j E) i).run Tryd.prog w = .ok ((findK κ E i).map fun p => (p.1, .int .i64 (p.2 : Int))) w
  | [], j, i, _ => rfl
  | x :: r, j, i, hE => by
    have hx := run_eqK h (hE x List.mem_cons_self)
    have hr := run_findK h r (j + 1) (i + 1) fun y hy => hE y (List.mem_cons_of_mem _ hy)
    unfold entsFrom Instr.findAsking findK
    simp only [Sem.run_bind]
    rw [show (entK j x).key = keyV x.1 from rfl, hx]
    simp only [Result.andThen_ok]
    by_cases e : κ = x.1
    · rw [if_pos e, decide_eq_true e]
      simp [entK]
    · rw [if_neg e, decide_eq_false e]
      simpa using hr
theorem findK_at {κ : Key} : ∀ {E : List EntK} {i : Nat} {p : Nat × Nat}, findK κ E i = some p → i ≤ p.1 ∧ E[p.1 - i]? = some (κ, p.2)
  | [], i, p, h => by cases h
  | x :: r, i, p, h => by
    unfold findK at h
    split at h
    · rename_i e
      injection h with h
      subst h
      subst e
      simp
    · obtain ⟨h1, h2⟩ := findK_at h
      refine ⟨by omega, ?_⟩
      rw [show p.1 - i = p.1 - (i + 1) + 1 by omega, List.getElem?_cons_succ]
      exact h2
theorem findK_none {κ : Key} : ∀ {E : List EntK} {i : Nat}, findK κ E i = none → ∀ x ∈ E, x.1 ≠ κ
  | [], i, h => fun x hx => by cases hx
  | y :: r, i, h => fun x hx => by
    unfold findK at h
    split at h
    · cases h
    · rename_i e
      rcases List.mem_cons.1 hx with rfl | hx
      · exact fun e2 => e e2.symm
      · exact findK_none h x hx
theorem findK_app {κ : Key} {c : Nat} : ∀ {E : List EntK} {i : Nat}, findK κ E i = none → findK κ (E ++ [(κ, c)]) i = some (i + E.length, c)
  | [], i, h => by simp [findK]
  | y :: r, i, h => by
    unfold findK at h
    split at h
    · cases h
    · rename_i e
      rw [List.cons_append, findK, if_neg e, findK_app h]
      simp
      omega
theorem entsFrom_app : ∀ (E F : List EntK) (i : Nat), entsFrom i (E ++ F) = entsFrom i E ++ entsFrom (i + E.length) F
  | [], F, i => by simp [entsFrom]
  | x :: r, F, i => by
    rw [List.cons_append, entsFrom, entsFrom, entsFrom_app r F (i + 1), List.cons_append]
    congr 3
    simp
    omega
theorem entsFrom_len : ∀ (E : List EntK) (i : Nat), (entsFrom i E).length = E.length
  | [], _ => rfl
  | x :: r, i => by rw [entsFrom, List.length_cons, List.length_cons, entsFrom_len r]
theorem entsFrom_get : ∀ (E : List EntK) (i k : Nat), (entsFrom i E)[k]? = E[k]?.map (entK (i + k))
  | [], i, k => by simp [entsFrom]
  | x :: r, i, 0 => by simp [entsFrom]
  | x :: r, i, k + 1 => by
    rw [entsFrom, List.getElem?_cons_succ, List.getElem?_cons_succ, entsFrom_get r (i + 1) k]
    congr 2
    omega
theorem entsFrom_set : ∀ (E : List EntK) (i k : Nat) (x : EntK), entsFrom i (E.set k x) = (entsFrom i E).set k (entK (i + k) x)
  | [], i, k, x => by simp [entsFrom]
  | y :: r, i, 0, x => by simp [entsFrom]
  | y :: r, i, k + 1, x => by
    rw [List.set_cons_succ, entsFrom, entsFrom, List.set_cons_succ, entsFrom_set r (i + 1) k x]
    congr 3
    omega
theorem born_at : ∀ (E : List EntK) (i k : Nat), k < E.length → (entsFrom i E).findIdx? (fun e => ((e.born : Nat) : Int) == ((i + k : Nat) : Int)) = some k
  | [], i, k, h => absurd h (Nat.not_lt_zero _)
  | x :: r, i, 0, h => by
    rw [entsFrom, List.findIdx?_cons]
    simp [entK]
  | x :: r, i, k + 1, h => by
    have ih := born_at r (i + 1) k (by simpa using h)
    rw [entsFrom, List.findIdx?_cons]
    have e : ((((entK i x).born : Nat) : Int) == ((i + (k + 1) : Nat) : Int)) = false := by
      rw [show (entK i x).born = i from rfl]
      simp only [beq_eq_false_iff_ne, ne_eq, Int.natCast_inj]
      omega
    rw [show ((((entK i x).born : Nat) : Int) == ((i + (k + 1) : Nat) : Int)) = false from e]
    rw [show i + (k + 1) = i + 1 + k by omega, ih]
    rfl
theorem posK_touch {κ : Key} {E : List EntK} : posK κ E < (touchK κ E).length ∧ (touchK κ E)[posK κ E]? = some (κ, cntK κ E) := by
  unfold posK touchK cntK
  cases h : findK κ E 0 with
  | none => simp
  | some p =>
    obtain ⟨h1, h2⟩ := findK_at h
    rw [Nat.sub_zero] at h2
    exact ⟨(List.getElem?_eq_some_iff.1 h2).1, h2⟩
theorem cnt_touch (κ : Key) (E : List EntK) : cntK κ (touchK κ E) = cntK κ E := by
  unfold touchK
  cases h : findK κ E 0 with
  | none =>
    unfold cntK
    dsimp only
    rw [findK_app h, h]
  | some p => rfl
theorem touch_mem {κ : Key} {E : List EntK} : ∀ x ∈ touchK κ E, x ∈ E ∨ x.1 = κ := by
  unfold touchK
  cases findK κ E 0 with
  | none =>
    intro x hx
    rcases List.mem_append.1 hx with h | h
    · exact .inl h
    · exact .inr (by rw [List.mem_singleton.1 h])
  | some p => exact fun x hx => .inl hx
theorem bump_mem {κ : Key} {E : List EntK} : ∀ x ∈ bumpK κ E, x ∈ E ∨ x = (κ, cntK κ E + 1) ∨ x.1 = κ := by
  intro x hx
  rcases List.mem_or_eq_of_mem_set hx with h | h
  · rcases touch_mem x h with h | h
    · exact .inl h
    · exact .inr (.inr h)
  · exact .inr (.inl h)
theorem same_key (κ : Key) : Instr.sameBits 10000 (keyV κ) (keyV κ) = true := by
  unfold keyV keyC Instr.sameBits
  simp [Instr.sameBits]
section
variable {w : World} {b : Nat} {κ : Key} {E : List EntK}
theorem key_runs (h : okK w κ) (hE : ∀ x ∈ E, okK w x.1) : (∀ e m, (Instr.checkKey e (m + 2) 51 (keyV κ)).run Tryd.prog w = .ok () w) ∧ (Instr.findKey 51 (keyV κ) (entsFrom 0 E)).run Tryd.prog w = .ok ((findK κ E 0).map fun p => (p.1, .int .i64 (p.2 : Int))) w := by
  have ht : Tryd.prog.underlying 51 = some (.struct (Tryd.prog.fieldsOf 51)) := by kernel_rfl
  refine ⟨fun e m => ?_, ?_⟩
  · have hup : Tryd.prog.underlying 49 = some (.pointer 27) := by kernel_rfl
    have hui : Tryd.prog.underlying 3 = some (.int .i64) := by kernel_rfl
    have hfs : (Tryd.prog.fieldsOf 51).toList.map (fun f => (f.name, f.type, f.offset)) = [("first", 49, 0), ("n", 3, 1)] := by kernel_rfl
    unfold keyV Instr.checkKey
    simp only [Sem.run_bind, run_underlying ht, Result.andThen_ok]
    rw [← Array.forIn_toList]
    generalize (Tryd.prog.fieldsOf 51).toList = fs at hfs
    rcases fs with _ | ⟨f1, _ | ⟨f2, _ | ⟨f3, r⟩⟩⟩
    · simp at hfs
    · simp at hfs
    · simp only [List.map_cons, List.map_nil, List.cons.injEq, Prod.mk.injEq, and_true] at hfs
      obtain ⟨⟨e1, e2, e3⟩, e4, e5, e6⟩ := hfs
      have hag1 : (part 49 (keyC κ) 0).run Tryd.prog w = .ok (.pointer (keyP κ)) w := by
        have ha : (isAgg 49).run Tryd.prog w = .ok false w := by simp [isAgg, run_underlying hup]
        simp [part, ha, keyC]
      have hag2 : (part 3 (keyC κ) 1).run Tryd.prog w = .ok (.int .i64 (κ.2 : Int)) w := by
        have ha : (isAgg 3).run Tryd.prog w = .ok false w := by simp [isAgg, run_underlying hui]
        simp [part, ha, keyC]
      have hc1 : (Instr.checkKey e (m + 1) 49 (.pointer (keyP κ))).run Tryd.prog w = .ok () w := by
        simp [Instr.checkKey, run_underlying hup]
      have hc2 : (Instr.checkKey e (m + 1) 3 (.int .i64 (κ.2 : Int))).run Tryd.prog w = .ok () w := by
        simp [Instr.checkKey, run_underlying hui]
      simp [e1, e2, e3, e4, e5, e6, hag1, hag2, hc1, hc2]
    · simp at hfs
  · rw [run_findKey_eq w (by kernel_rfl)]
    exact run_findK h E 0 0 hE
theorem run_lookK (hb : Blk w b (.map (entsK E) E.length) #[]) (h : okK w κ) (hE : ∀ x ∈ E, okK w x.1) : (Instr.lookup 73 (.map (some b)) (keyV κ) false).run Tryd.prog w = .ok (.int .i64 ((cntK κ E : Nat) : Int)) w := by
  have hm : Tryd.prog.underlying 73 = some (.map 51 3) := by kernel_rfl
  obtain ⟨hc, hf⟩ := key_runs h hE
  unfold Instr.lookup
  simp only [Sem.run_bind, run_underlying hm, Result.andThen_ok, MapKept.run_getObj_map hb.2, Sem.run_pure]
  rw [hc _ 9998]
  simp only [Result.andThen_ok]
  rw [show (entsK E).toList = entsFrom 0 E from rfl, hf]
  unfold cntK
  cases findK κ E 0 with
  | none =>
    have hz : (zeroValue 3).run Tryd.prog w = .ok (.int .i64 0) w := by kernel_rfl
    simp [hz, Result.andThen]
  | some p => simp [Result.andThen]
theorem run_entryK (hb : Blk w b (.map (entsK E) E.length) #[]) (h : okK w κ) (hE : ∀ x ∈ E, okK w x.1) :
    (Instr.mapEntry 73 (.map (some b)) (keyV κ)).run Tryd.prog w = .ok (.tuple #[.int .i64 ((cntK κ E : Nat) : Int), .int .i64 ((posK κ E : Nat) : Int)]) { w with heap := w.heap.setIfInBounds b (.map (entsK (touchK κ E)) (touchK κ E).length) } := by
  have hm : Tryd.prog.underlying 73 = some (.map 51 3) := by kernel_rfl
  obtain ⟨hc, hf⟩ := key_runs h hE
  unfold Instr.mapEntry
  simp only [Sem.run_bind, run_underlying hm, Result.andThen_ok, MapKept.run_getObj_map hb.2]
  rw [hc _ 9998]
  simp only [Result.andThen_ok]
  rw [show (entsK E).toList = entsFrom 0 E from rfl, hf]
  unfold cntK posK touchK
  cases hq : findK κ E 0 with
  | none =>
    have hz : (zeroValue 3).run Tryd.prog w = .ok (.int .i64 0) w := by kernel_rfl
    have e : (entsK E).push { key := keyV κ, val := .int .i64 0, born := E.length } = entsK (E ++ [(κ, 0)]) := by
      apply Array.toList_inj.1
      rw [Array.toList_push]
      show entsFrom 0 E ++ [_] = entsFrom 0 (E ++ [(κ, 0)])
      rw [entsFrom_app]
      simp [entsFrom, entK]
    simp only [Option.map_none, Result.andThen_ok, Sem.run_bind, hz, e, MapKept.run_setObj_map _ hb.2, Sem.run_pure, goInt, List.length_append, List.length_singleton]
    rfl
  | some p =>
    obtain ⟨_, h2⟩ := findK_at hq
    rw [Nat.sub_zero] at h2
    have h3 : (entsK E)[p.1]? = some (entK p.1 (κ, p.2)) := by
      show (entsFrom 0 E).toArray[p.1]? = _
      rw [List.getElem?_toArray, entsFrom_get, h2, Nat.zero_add]
      rfl
    have hk : (Instr.keyThatStays (keyV κ) (keyV κ)).run Tryd.prog w = .ok (keyV κ) w := by
      unfold Instr.keyThatStays
      rw [if_pos (same_key κ)]
      rfl
    have e : (entsK E).modify p.1 (fun e => { e with key := keyV κ }) = entsK E := by
      apply Array.toList_inj.1
      rw [Array.toList_modify]
      refine List.ext_getElem? fun k => ?_
      rw [List.getElem?_modify]
      by_cases hk : p.1 = k
      · subst hk
        have : (entsK E).toList[p.1]? = some (entK p.1 (κ, p.2)) := by rw [Array.getElem?_toList]; exact h3
        rw [this]
        simp [entK]
      · simp [hk]
    simp only [Option.map_some, Result.andThen_ok, Sem.run_bind, h3, Option.getD_some, show (entK p.1 (κ, p.2)).key = keyV κ from rfl, hk, e, MapKept.run_setObj_map _ hb.2, Sem.run_pure, goInt, show (entK p.1 (κ, p.2)).born = p.1 from rfl]
theorem run_storeK {w2 : World} (hb : Blk w2 b (.map (entsK (touchK κ E)) (touchK κ E).length) #[]) :
    (Instr.entryStore 73 (.map (some b)) (.int .i64 ((posK κ E : Nat) : Int)) (.int .i64 ((cntK κ E + 1 : Nat) : Int))).run Tryd.prog w2 = .ok () { w2 with heap := w2.heap.setIfInBounds b (.map (entsK (bumpK κ E)) (bumpK κ E).length) } := by
  obtain ⟨h1, h2⟩ := posK_touch (κ := κ) (E := E)
  have hidx : (entsK (touchK κ E)).findIdx? (fun e => ((e.born : Nat) : Int) == ((posK κ E : Nat) : Int)) = some (posK κ E) := by
    have := born_at (touchK κ E) 0 (posK κ E) h1
    rw [Nat.zero_add] at this
    simpa [entsK] using this
  have e : (entsK (touchK κ E)).modify (posK κ E) (fun e => { e with val := .int .i64 ((cntK κ E + 1 : Nat) : Int) }) = entsK (bumpK κ E) := by
    apply Array.toList_inj.1
    rw [Array.toList_modify]
    show (entsFrom 0 (touchK κ E)).modify _ _ = entsFrom 0 (bumpK κ E)
    unfold bumpK
    rw [entsFrom_set]
    refine List.ext_getElem? fun k => ?_
    rw [List.getElem?_modify]
    by_cases hk : posK κ E = k
    · subst hk
      rw [List.getElem?_set_self (by rw [entsFrom_len]; exact h1), entsFrom_get, h2]
      simp [entK]
    · rw [List.getElem?_set_ne hk]
      simp [hk]
  unfold Instr.entryStore
  simp only [Sem.run_bind, MapKept.run_getObj_map hb.2, Result.andThen_ok, asInt, asIntOf, Sem.run_pure]
  simp only [hidx, e, MapKept.run_setObj_map _ hb.2]
  simp [bumpK]
end
end Go.Proofs.YtonhkclkddobhaaDoor
namespace Go.Proofs.YtonhkclkddobhaaDoor
set_option linter.unusedVariables false
set_option linter.unusedSimpArgs false
set_option maxRecDepth 100000
open Go Go.RowKit
def ops12 : Array Oper := #[{ dst := some 30, op := Go.Op.move (Go.Operand.tmp 5), type := 73, pos := "values.go:64", after := #[], guard := none }, { dst := some 31, op := Go.Op.load 51 (Go.Operand.tmp 10), type := 51, pos := "values.go:64", after := #[], guard := none }, { dst := some 32, op := Go.Op.lookup 73 (Go.Operand.tmp 30) (Go.Operand.tmp 31) false, type := 3, pos := "values.go:64", after := #[{ on := 0, ground := Go.Ground.data }, { on := 1, ground := Go.Ground.data }], guard := none }, { dst := some 33, op := Go.Op.binOp Go.BinOp.add 3 (Go.Operand.tmp 32) (Go.Operand.const (Go.Value.int Go.IntKind.i64 1)) 3, type := 3, pos := "values.go:64", after := #[{ on := 2, ground := Go.Ground.data }], guard := none }, { dst := some 34, op := Go.Op.mapEntry 73 (Go.Operand.tmp 30) (Go.Operand.tmp 31), type := 0, pos := "values.go:64", after := #[{ on := 0, ground := Go.Ground.data }, { on := 1, ground := Go.Ground.data }, { on := 0, ground := Go.Ground.phase }, { on := 1, ground := Go.Ground.phase }, { on := 2, ground := Go.Ground.textOnly Go.Departure.mapOpAssignEntry }, { on := 3, ground := Go.Ground.textOnly Go.Departure.mapOpAssignEntry }], guard := none }, { dst := some 35, op := Go.Op.extract (Go.Operand.tmp 34) 1, type := 3, pos := "values.go:64", after := #[{ on := 4, ground := Go.Ground.data }], guard := none }, { dst := none, op := Go.Op.entryStore 73 (Go.Operand.tmp 30) (Go.Operand.tmp 35) (Go.Operand.tmp 33), type := 0, pos := "values.go:64", after := #[{ on := 0, ground := Go.Ground.data }, { on := 5, ground := Go.Ground.data }, { on := 3, ground := Go.Ground.data }, { on := 4, ground := Go.Ground.chain }, { on := 0, ground := Go.Ground.phase }, { on := 1, ground := Go.Ground.phase }, { on := 2, ground := Go.Ground.phase }, { on := 3, ground := Go.Ground.phase }, { on := 4, ground := Go.Ground.phase }, { on := 5, ground := Go.Ground.phase }], guard := none }]
theorem zd_addI {k m c : Int} (hc : k + m = c) (h : -9223372036854775808 ≤ c ∧ c < 9223372036854775808) (p q : Operand) (W : World) : (do eqGuard .add 3 p q (.int .i64 k) (.int .i64 m); binOp .add 3 (.int .i64 k) (.int .i64 m) : Sem Value).run Tryd.prog W = .ok (.int .i64 c) W := by
  subst hc
  have e : IntKind.i64.wrap (k + m) = k + m := IntWalk.i64_in _ (by omega)
  go_simp
theorem info_list (κ : Key) : (Tryd.prog.info? 51).map (·.size) = some (keyC κ).size := by
  rw [show (keyC κ).size = 2 from rfl]
  kernel_rfl
section
variable {P : Program} {n : Nat} {w0 w : World} {a : Act} {e e' : Env} {h : Hep} {Q : Exit → Act → World → Prop} {ops : Array Oper} {o : Oper}
/-- What an operation comes to, wherever in a region. -/
theorem does_any {v : Value} {d : Nat} {K K' : Act → World → Prop} (hy : Does P Q n w0 e h o v) (hg : o.guard = none) (hdst : o.dst = some d) (hl : Nat.blt d n = true) (hf : e.all (fun p => !Nat.beq p.1 d) = true) (H : St n w0 a w e h) (hK : ∀ a w, K a w → K' a w) (next : ∀ a w, St n w0 a w ((d, v) :: e) h → K a w) :
    if Region.wanted o (yielded ops a.tmps) = true then Oper.wp P o a w K' Q else K' (a.put o.dst undef) w := by
  rw [if_pos (wanted_none (ops := ops) hg a w H)]
  refine Oper.wp_mono (fun a' w' ⟨e1, hb⟩ => ?_) (hy a w H)
  subst e1
  rw [hdst]
  exact hK _ _ (next _ _ ((H.call hb).put _ hl hf))
theorem run_any {v : Value} {w' : World} {K K' : Act → World → Prop} (hy : (execOp a.eval o).run P w = .ok (.value v) w') (hg : o.guard = none) (hw : Region.wanted o (yielded ops a.tmps) = true) (hK : ∀ a w, K a w → K' a w) (next : K (a.put o.dst v) w') :
    if Region.wanted o (yielded ops a.tmps) = true then Oper.wp P o a w K' Q else K' (a.put o.dst undef) w := by
  rw [if_pos hw]
  unfold Oper.wp
  rw [hy]
  exact hK _ _ next
theorem skip_any {w' : World} {K K' : Act → World → Prop} (hy : (execOp a.eval o).run P w = .ok .skip w') (hw : Region.wanted o (yielded ops a.tmps) = true) (hK : ∀ a w, K a w → K' a w) (next : K (a.put o.dst undef) w') :
    if Region.wanted o (yielded ops a.tmps) = true then Oper.wp P o a w K' Q else K' (a.put o.dst undef) w := by
  rw [if_pos hw]
  unfold Oper.wp
  rw [hy]
  exact hK _ _ next
/-- A told map becomes another one. -/
theorem St.mapT {b : Nat} {es es' : Array MapEntry} {c c' : Nat} (H : St n w0 a w e ((b, .map es c, #[]) :: h)) : St n w0 a { w with heap := w.heap.setIfInBounds b (.map es' c') } e ((b, .map es' c', #[]) :: h) := by
  have hmem : (b, Tid.map es c, (#[] : Array Value)) ∈ (b, Tid.map es c, (#[] : Array Value)) :: h := List.mem_cons_self
  have hb : Blk w b (.map es c) #[] := H.heap _ hmem
  have hown : w0.heap.size ≤ b := H.own _ hmem
  have hset := MapKept.heap_set (o' := Obj.map es' c') hb.2
  have hgrow : w.grownBy { w with heap := w.heap.setIfInBounds b (.map es' c') } (some b) := ⟨rfl, rfl, rfl, by simp, fun j _ hj => hset.2 j (fun e => hj (by rw [e]))⟩
  exact H.writeT (k := 0) rfl ⟨rfl, hset.1⟩ (H.below.grown hgrow H.below.size (fun j hj => by injection hj with hj; rw [← hj]; exact hown)) (fun b' t' d hne hB => hB.as (hset.2 b' hne))
end
section
variable {w0 w : World} {a : Act} {e : Env} {h : Hep} {Q : Exit → Act → World → Prop} {b gl : Nat} {κ : Key} {E : List EntK}
set_option maxHeartbeats 4000000 in
theorem reg12 (H : St 53 w0 a w e ((b, .map (entsK E) E.length, #[]) :: (gl, .ty 51, keyC κ) :: h)) (h5 : sev e (.tmp 5) = some (.map (some b))) (h10 : sev e (.tmp 10) = some (.pointer (some ⟨gl, 0, none⟩))) (hfr : ∀ d, 30 ≤ d → d ≤ 35 → e.all (fun p => !Nat.beq p.1 d) = true) (hc : cntK κ E < 1000000000) (hκ : okK w0 κ) (hE : ∀ x ∈ E, okK w0 x.1)
    (next : ∀ a w, St 53 w0 a w e ((b, .map (entsK (bumpK κ E)) (bumpK κ E).length, #[]) :: (gl, .ty 51, keyC κ) :: h) → Q .normal a w) : (Code.region 12 ops12 true).wp Tryd.prog Q a w := by
  have hf1 : ∀ d, 30 ≤ d → d ≤ 35 → e.all (fun p => !Nat.beq p.1 d) = true := hfr
  have hT : ∀ x ∈ touchK κ E, okK w0 x.1 := fun x hx => by
    rcases touch_mem x hx with h | h
    · exact hE x h
    · rw [h]; exact hκ
  have s22 : ∀ a w, St 53 w0 a w ([(35, .int .i64 ((posK κ E : Nat) : Int)), (34, .tuple #[.int .i64 ((cntK κ E : Nat) : Int), .int .i64 ((posK κ E : Nat) : Int)])] ++ ([(33, .int .i64 ((cntK κ E + 1 : Nat) : Int)), (32, .int .i64 ((cntK κ E : Nat) : Int))] ++ ((31, keyV κ) :: (30, .map (some b)) :: e))) ((b, .map (entsK (touchK κ E)) (touchK κ E).length, #[]) :: (gl, .ty 51, keyC κ) :: h) → wpAny Tryd.prog .any ops12 Q 1 #[true, true, true, true, true, true, false] a w := fun a w H => by
    refine wpAny_ready (rs := [6]) (by kernel_rfl) (by simp) (AllReady.cons (o := ops12[6]) rfl (fun K' hK => ?_) AllReady.nil)
    have hb : Blk w b (.map (entsK (touchK κ E)) (touchK κ E).length) #[] := H.heap _ List.mem_cons_self
    have e1 : (execOp a.eval ops12[6]).run Tryd.prog w = .ok .skip { w with heap := w.heap.setIfInBounds b (.map (entsK (bumpK κ E)) (bumpK κ E).length) } := by
      have x1 : a.eval (.tmp 30) = .map (some b) := H.ev rfl
      have x2 : a.eval (.tmp 35) = .int .i64 ((posK κ E : Nat) : Int) := H.ev rfl
      have x3 : a.eval (.tmp 33) = .int .i64 ((cntK κ E + 1 : Nat) : Int) := H.ev rfl
      have hs := run_storeK hb
      generalize cntK κ E + 1 = m at hs x3
      simp only [ops12, execOp, List.getElem_toArray, List.getElem_cons_succ, List.getElem_cons_zero, x1, x2, x3]
      simp [hs, Result.andThen]
    refine skip_any (w' := { w with heap := w.heap.setIfInBounds b (.map (entsK (bumpK κ E)) (bumpK κ E).length) }) e1 (wanted_none (ops := ops12) rfl a w H) hK (wpAny_done (by kernel_rfl) (next _ _ ?_) _)
    exact (St.mapT (es' := entsK (bumpK κ E)) (c' := (bumpK κ E).length) H).sub (fun p hp => List.mem_append.2 (.inr (List.mem_append.2 (.inr (List.mem_cons_of_mem _ (List.mem_cons_of_mem _ hp)))))) (fun _ h => h) (St.mapT (es' := entsK (bumpK κ E)) (c' := (bumpK κ E).length) H).apart
  have s21 : ∀ a w, St 53 w0 a w ([(34, .tuple #[.int .i64 ((cntK κ E : Nat) : Int), .int .i64 ((posK κ E : Nat) : Int)])] ++ ([(33, .int .i64 ((cntK κ E + 1 : Nat) : Int)), (32, .int .i64 ((cntK κ E : Nat) : Int))] ++ ((31, keyV κ) :: (30, .map (some b)) :: e))) ((b, .map (entsK (touchK κ E)) (touchK κ E).length, #[]) :: (gl, .ty 51, keyC κ) :: h) → wpAny Tryd.prog .any ops12 Q 2 #[true, true, true, true, true, false, false] a w := fun a w H => by
    refine wpAny_ready (rs := [5]) (by kernel_rfl) (by simp) (AllReady.cons (o := ops12[5]) rfl (fun K' hK => ?_) AllReady.nil)
    all_goals have hb : Blk w b (.map (entsK (touchK κ E)) (touchK κ E).length) #[] := H.heap _ List.mem_cons_self
    · refine does_any (d := 35) (does_run (v := .int .i64 ((posK κ E : Nat) : Int)) fun a w H => by
        have x1 : a.eval (.tmp 34) = .tuple #[.int .i64 ((cntK κ E : Nat) : Int), .int .i64 ((posK κ E : Nat) : Int)] := H.ev rfl
        simp only [ops12, execOp, List.getElem_toArray, List.getElem_cons_succ, List.getElem_cons_zero, x1]
        simp [Instr.extract, Result.andThen]) rfl rfl rfl (by simp [List.all_append, hf1 35 (by decide) (by decide)] <;> decide) H hK (fun a w H2 => ?_)
      exact s22 a w H2
  have s12 : ∀ a w, St 53 w0 a w ([(35, .int .i64 ((posK κ E : Nat) : Int)), (34, .tuple #[.int .i64 ((cntK κ E : Nat) : Int), .int .i64 ((posK κ E : Nat) : Int)])] ++ ([(32, .int .i64 ((cntK κ E : Nat) : Int))] ++ ((31, keyV κ) :: (30, .map (some b)) :: e))) ((b, .map (entsK (touchK κ E)) (touchK κ E).length, #[]) :: (gl, .ty 51, keyC κ) :: h) → wpAny Tryd.prog .any ops12 Q 2 #[true, true, true, false, true, true, false] a w := fun a w H => by
    refine wpAny_ready (rs := [3]) (by kernel_rfl) (by simp) (AllReady.cons (o := ops12[3]) rfl (fun K' hK => ?_) AllReady.nil)
    all_goals have hb : Blk w b (.map (entsK (touchK κ E)) (touchK κ E).length) #[] := H.heap _ List.mem_cons_self
    · refine does_any (d := 33) (does_binOp (v := .int .i64 ((cntK κ E + 1 : Nat) : Int)) rfl rfl rfl (zd_addI (by omega) (by omega) _ _)) rfl rfl rfl (by simp [List.all_append, hf1 33 (by decide) (by decide)] <;> decide) H hK (fun a w H2 => ?_)
      exact s22 a w (H2.sub (fun p hp => List.perm_middle.mem_iff.1 hp) (fun _ h => h) H2.apart)
  have s11 : ∀ a w, St 53 w0 a w ([(34, .tuple #[.int .i64 ((cntK κ E : Nat) : Int), .int .i64 ((posK κ E : Nat) : Int)])] ++ ([(32, .int .i64 ((cntK κ E : Nat) : Int))] ++ ((31, keyV κ) :: (30, .map (some b)) :: e))) ((b, .map (entsK (touchK κ E)) (touchK κ E).length, #[]) :: (gl, .ty 51, keyC κ) :: h) → wpAny Tryd.prog .any ops12 Q 3 #[true, true, true, false, true, false, false] a w := fun a w H => by
    refine wpAny_ready (rs := [3, 5]) (by kernel_rfl) (by simp) (AllReady.cons (o := ops12[3]) rfl (fun K' hK => ?_) (AllReady.cons (o := ops12[5]) rfl (fun K' hK => ?_) AllReady.nil))
    all_goals have hb : Blk w b (.map (entsK (touchK κ E)) (touchK κ E).length) #[] := H.heap _ List.mem_cons_self
    · refine does_any (d := 33) (does_binOp (v := .int .i64 ((cntK κ E + 1 : Nat) : Int)) rfl rfl rfl (zd_addI (by omega) (by omega) _ _)) rfl rfl rfl (by simp [List.all_append, hf1 33 (by decide) (by decide)] <;> decide) H hK (fun a w H2 => ?_)
      exact s21 a w (H2.sub (fun p hp => List.perm_middle.mem_iff.1 hp) (fun _ h => h) H2.apart)
    · refine does_any (d := 35) (does_run (v := .int .i64 ((posK κ E : Nat) : Int)) fun a w H => by
        have x1 : a.eval (.tmp 34) = .tuple #[.int .i64 ((cntK κ E : Nat) : Int), .int .i64 ((posK κ E : Nat) : Int)] := H.ev rfl
        simp only [ops12, execOp, List.getElem_toArray, List.getElem_cons_succ, List.getElem_cons_zero, x1]
        simp [Instr.extract, Result.andThen]) rfl rfl rfl (by simp [List.all_append, hf1 35 (by decide) (by decide)] <;> decide) H hK (fun a w H2 => ?_)
      exact s12 a w H2
  have s20 : ∀ a w, St 53 w0 a w (([] : Env) ++ ([(33, .int .i64 ((cntK κ E + 1 : Nat) : Int)), (32, .int .i64 ((cntK κ E : Nat) : Int))] ++ ((31, keyV κ) :: (30, .map (some b)) :: e))) ((b, .map (entsK E) E.length, #[]) :: (gl, .ty 51, keyC κ) :: h) → wpAny Tryd.prog .any ops12 Q 3 #[true, true, true, true, false, false, false] a w := fun a w H => by
    refine wpAny_ready (rs := [4]) (by kernel_rfl) (by simp) (AllReady.cons (o := ops12[4]) rfl (fun K' hK => ?_) AllReady.nil)
    all_goals have hb : Blk w b (.map (entsK E) E.length) #[] := H.heap _ List.mem_cons_self
    · have e1 : (execOp a.eval ops12[4]).run Tryd.prog w = .ok (.value (.tuple #[.int .i64 ((cntK κ E : Nat) : Int), .int .i64 ((posK κ E : Nat) : Int)])) { w with heap := w.heap.setIfInBounds b (.map (entsK (touchK κ E)) (touchK κ E).length) } := by
        have x1 : a.eval (.tmp 30) = .map (some b) := H.ev rfl
        have x2 : a.eval (.tmp 31) = keyV κ := H.ev rfl
        have hl := run_entryK hb (hκ.below H.below) (fun x hx => (hE x hx).below H.below)
        simp only [ops12, execOp, List.getElem_toArray, List.getElem_cons_succ, List.getElem_cons_zero, x1, x2]
        simp [hl, Result.andThen]
      refine run_any e1 rfl (wanted_none (ops := ops12) rfl a w H) hK (s21 _ _ ?_)
      exact (St.mapT (es' := entsK (touchK κ E)) (c' := (touchK κ E).length) H).put (d := 34) _ rfl (by simp [List.all_append, hf1 34 (by decide) (by decide)] <;> decide)
  have s02 : ∀ a w, St 53 w0 a w ([(35, .int .i64 ((posK κ E : Nat) : Int)), (34, .tuple #[.int .i64 ((cntK κ E : Nat) : Int), .int .i64 ((posK κ E : Nat) : Int)])] ++ (([] : Env) ++ ((31, keyV κ) :: (30, .map (some b)) :: e))) ((b, .map (entsK (touchK κ E)) (touchK κ E).length, #[]) :: (gl, .ty 51, keyC κ) :: h) → wpAny Tryd.prog .any ops12 Q 3 #[true, true, false, false, true, true, false] a w := fun a w H => by
    refine wpAny_ready (rs := [2]) (by kernel_rfl) (by simp) (AllReady.cons (o := ops12[2]) rfl (fun K' hK => ?_) AllReady.nil)
    all_goals have hb : Blk w b (.map (entsK (touchK κ E)) (touchK κ E).length) #[] := H.heap _ List.mem_cons_self
    · refine does_any (d := 32) (does_run (v := .int .i64 ((cntK κ E : Nat) : Int)) fun a w H => by
        have hb : Blk w b (.map (entsK (touchK κ E)) (touchK κ E).length) #[] := H.heap _ List.mem_cons_self
        have x1 : a.eval (.tmp 30) = .map (some b) := H.ev rfl
        have x2 : a.eval (.tmp 31) = keyV κ := H.ev rfl
        have hl : (Instr.lookup 73 (.map (some b)) (keyV κ) false).run Tryd.prog w = .ok (.int .i64 ((cntK κ E : Nat) : Int)) w := (by have h_ := run_lookK hb (hκ.below H.below) (fun x hx => (hT x hx).below H.below); rw [cnt_touch] at h_; exact h_)
        simp only [ops12, execOp, List.getElem_toArray, List.getElem_cons_succ, List.getElem_cons_zero, x1, x2]
        simp [hl, Result.andThen]) rfl rfl rfl (by simp [List.all_append, hf1 32 (by decide) (by decide)] <;> decide) H hK (fun a w H2 => ?_)
      exact s12 a w (H2.sub (fun p hp => List.perm_middle.mem_iff.1 hp) (fun _ h => h) H2.apart)
  have s10 : ∀ a w, St 53 w0 a w (([] : Env) ++ ([(32, .int .i64 ((cntK κ E : Nat) : Int))] ++ ((31, keyV κ) :: (30, .map (some b)) :: e))) ((b, .map (entsK E) E.length, #[]) :: (gl, .ty 51, keyC κ) :: h) → wpAny Tryd.prog .any ops12 Q 4 #[true, true, true, false, false, false, false] a w := fun a w H => by
    refine wpAny_ready (rs := [3, 4]) (by kernel_rfl) (by simp) (AllReady.cons (o := ops12[3]) rfl (fun K' hK => ?_) (AllReady.cons (o := ops12[4]) rfl (fun K' hK => ?_) AllReady.nil))
    all_goals have hb : Blk w b (.map (entsK E) E.length) #[] := H.heap _ List.mem_cons_self
    · refine does_any (d := 33) (does_binOp (v := .int .i64 ((cntK κ E + 1 : Nat) : Int)) rfl rfl rfl (zd_addI (by omega) (by omega) _ _)) rfl rfl rfl (by simp [List.all_append, hf1 33 (by decide) (by decide)] <;> decide) H hK (fun a w H2 => ?_)
      exact s20 a w (H2)
    · have e1 : (execOp a.eval ops12[4]).run Tryd.prog w = .ok (.value (.tuple #[.int .i64 ((cntK κ E : Nat) : Int), .int .i64 ((posK κ E : Nat) : Int)])) { w with heap := w.heap.setIfInBounds b (.map (entsK (touchK κ E)) (touchK κ E).length) } := by
        have x1 : a.eval (.tmp 30) = .map (some b) := H.ev rfl
        have x2 : a.eval (.tmp 31) = keyV κ := H.ev rfl
        have hl := run_entryK hb (hκ.below H.below) (fun x hx => (hE x hx).below H.below)
        simp only [ops12, execOp, List.getElem_toArray, List.getElem_cons_succ, List.getElem_cons_zero, x1, x2]
        simp [hl, Result.andThen]
      refine run_any e1 rfl (wanted_none (ops := ops12) rfl a w H) hK (s11 _ _ ?_)
      exact (St.mapT (es' := entsK (touchK κ E)) (c' := (touchK κ E).length) H).put (d := 34) _ rfl (by simp [List.all_append, hf1 34 (by decide) (by decide)] <;> decide)
  have s01 : ∀ a w, St 53 w0 a w ([(34, .tuple #[.int .i64 ((cntK κ E : Nat) : Int), .int .i64 ((posK κ E : Nat) : Int)])] ++ (([] : Env) ++ ((31, keyV κ) :: (30, .map (some b)) :: e))) ((b, .map (entsK (touchK κ E)) (touchK κ E).length, #[]) :: (gl, .ty 51, keyC κ) :: h) → wpAny Tryd.prog .any ops12 Q 4 #[true, true, false, false, true, false, false] a w := fun a w H => by
    refine wpAny_ready (rs := [2, 5]) (by kernel_rfl) (by simp) (AllReady.cons (o := ops12[2]) rfl (fun K' hK => ?_) (AllReady.cons (o := ops12[5]) rfl (fun K' hK => ?_) AllReady.nil))
    all_goals have hb : Blk w b (.map (entsK (touchK κ E)) (touchK κ E).length) #[] := H.heap _ List.mem_cons_self
    · refine does_any (d := 32) (does_run (v := .int .i64 ((cntK κ E : Nat) : Int)) fun a w H => by
        have hb : Blk w b (.map (entsK (touchK κ E)) (touchK κ E).length) #[] := H.heap _ List.mem_cons_self
        have x1 : a.eval (.tmp 30) = .map (some b) := H.ev rfl
        have x2 : a.eval (.tmp 31) = keyV κ := H.ev rfl
        have hl : (Instr.lookup 73 (.map (some b)) (keyV κ) false).run Tryd.prog w = .ok (.int .i64 ((cntK κ E : Nat) : Int)) w := (by have h_ := run_lookK hb (hκ.below H.below) (fun x hx => (hT x hx).below H.below); rw [cnt_touch] at h_; exact h_)
        simp only [ops12, execOp, List.getElem_toArray, List.getElem_cons_succ, List.getElem_cons_zero, x1, x2]
        simp [hl, Result.andThen]) rfl rfl rfl (by simp [List.all_append, hf1 32 (by decide) (by decide)] <;> decide) H hK (fun a w H2 => ?_)
      exact s11 a w (H2.sub (fun p hp => List.perm_middle.mem_iff.1 hp) (fun _ h => h) H2.apart)
    · refine does_any (d := 35) (does_run (v := .int .i64 ((posK κ E : Nat) : Int)) fun a w H => by
        have x1 : a.eval (.tmp 34) = .tuple #[.int .i64 ((cntK κ E : Nat) : Int), .int .i64 ((posK κ E : Nat) : Int)] := H.ev rfl
        simp only [ops12, execOp, List.getElem_toArray, List.getElem_cons_succ, List.getElem_cons_zero, x1]
        simp [Instr.extract, Result.andThen]) rfl rfl rfl (by simp [List.all_append, hf1 35 (by decide) (by decide)] <;> decide) H hK (fun a w H2 => ?_)
      exact s02 a w H2
  have s00 : ∀ a w, St 53 w0 a w (([] : Env) ++ (([] : Env) ++ ((31, keyV κ) :: (30, .map (some b)) :: e))) ((b, .map (entsK E) E.length, #[]) :: (gl, .ty 51, keyC κ) :: h) → wpAny Tryd.prog .any ops12 Q 5 #[true, true, false, false, false, false, false] a w := fun a w H => by
    refine wpAny_ready (rs := [2, 4]) (by kernel_rfl) (by simp) (AllReady.cons (o := ops12[2]) rfl (fun K' hK => ?_) (AllReady.cons (o := ops12[4]) rfl (fun K' hK => ?_) AllReady.nil))
    all_goals have hb : Blk w b (.map (entsK E) E.length) #[] := H.heap _ List.mem_cons_self
    · refine does_any (d := 32) (does_run (v := .int .i64 ((cntK κ E : Nat) : Int)) fun a w H => by
        have hb : Blk w b (.map (entsK E) E.length) #[] := H.heap _ List.mem_cons_self
        have x1 : a.eval (.tmp 30) = .map (some b) := H.ev rfl
        have x2 : a.eval (.tmp 31) = keyV κ := H.ev rfl
        have hl : (Instr.lookup 73 (.map (some b)) (keyV κ) false).run Tryd.prog w = .ok (.int .i64 ((cntK κ E : Nat) : Int)) w := run_lookK hb (hκ.below H.below) (fun x hx => (hE x hx).below H.below)
        simp only [ops12, execOp, List.getElem_toArray, List.getElem_cons_succ, List.getElem_cons_zero, x1, x2]
        simp [hl, Result.andThen]) rfl rfl rfl (by simp [List.all_append, hf1 32 (by decide) (by decide)] <;> decide) H hK (fun a w H2 => ?_)
      exact s10 a w (H2)
    · have e1 : (execOp a.eval ops12[4]).run Tryd.prog w = .ok (.value (.tuple #[.int .i64 ((cntK κ E : Nat) : Int), .int .i64 ((posK κ E : Nat) : Int)])) { w with heap := w.heap.setIfInBounds b (.map (entsK (touchK κ E)) (touchK κ E).length) } := by
        have x1 : a.eval (.tmp 30) = .map (some b) := H.ev rfl
        have x2 : a.eval (.tmp 31) = keyV κ := H.ev rfl
        have hl := run_entryK hb (hκ.below H.below) (fun x hx => (hE x hx).below H.below)
        simp only [ops12, execOp, List.getElem_toArray, List.getElem_cons_succ, List.getElem_cons_zero, x1, x2]
        simp [hl, Result.andThen]
      refine run_any e1 rfl (wanted_none (ops := ops12) rfl a w H) hK (s01 _ _ ?_)
      exact (St.mapT (es' := entsK (touchK κ E)) (c' := (touchK κ E).length) H).put (d := 34) _ rfl (by simp [List.all_append, hf1 34 (by decide) (by decide)] <;> decide)
  have t10 : ∀ a w, St 53 w0 a w ((30, .map (some b)) :: e) ((b, .map (entsK E) E.length, #[]) :: (gl, .ty 51, keyC κ) :: h) → wpAny Tryd.prog .any ops12 Q 6 #[true, false, false, false, false, false, false] a w := fun a w H => by
    refine wpAny_ready (rs := [1]) (by kernel_rfl) (by simp) (AllReady.cons (o := ops12[1]) rfl (fun K' hK => ?_) AllReady.nil)
    exact does_any (d := 31) (does_load (t := 51) (d := (Tryd.prog.underlying 51).getD default) rfl (show sev ((30, .map (some b)) :: e) (.tmp 10) = some (.pointer (some ⟨gl, 0, none⟩)) from h10) (k := 1) rfl (by kernel_rfl) (by kernel_rfl) (info_list κ)) rfl rfl rfl (by simp [hf1 31 (by decide) (by decide)] <;> decide) H hK (fun a w H2 => s00 a w H2)
  have t01 : ∀ a w, St 53 w0 a w ((31, keyV κ) :: e) ((b, .map (entsK E) E.length, #[]) :: (gl, .ty 51, keyC κ) :: h) → wpAny Tryd.prog .any ops12 Q 6 #[false, true, false, false, false, false, false] a w := fun a w H => by
    refine wpAny_ready (rs := [0]) (by kernel_rfl) (by simp) (AllReady.cons (o := ops12[0]) rfl (fun K' hK => ?_) AllReady.nil)
    exact does_any (d := 30) (runs_move (x := .tmp 5) rfl (show sev ((31, keyV κ) :: e) (.tmp 5) = some (.map (some b)) from h5)).does rfl rfl rfl (by simp [hf1 30 (by decide) (by decide)] <;> decide) H hK (fun a w H2 => s00 a w (H2.sub (fun p hp => (List.Perm.swap _ _ _).mem_iff.1 hp) (fun _ h => h) H2.apart))
  refine wp_region_any (by kernel_rfl) ?_
  have H1 := H.drew
  refine wpAny_ready (fuel := 6) (rs := [0, 1]) (by kernel_rfl) (by simp) (AllReady.cons (o := ops12[0]) rfl (fun K' hK => ?_) (AllReady.cons (o := ops12[1]) rfl (fun K' hK => ?_) AllReady.nil))
  · exact does_any (d := 30) (runs_move rfl h5).does rfl rfl rfl (hf1 30 (by decide) (by decide)) H1 hK (fun a w H2 => t10 a w H2)
  · exact does_any (d := 31) (does_load (t := 51) (d := (Tryd.prog.underlying 51).getD default) rfl h10 (k := 1) rfl (by kernel_rfl) (by kernel_rfl) (info_list κ)) rfl rfl rfl (hf1 31 (by decide) (by decide)) H1 hK (fun a w H2 => t01 a w H2)
end
end Go.Proofs.YtonhkclkddobhaaDoor
namespace Go.Proofs.YtonhkclkddobhaaDoor
set_option linter.unusedVariables false
set_option linter.unusedSimpArgs false
set_option maxRecDepth 100000
open Go Go.RowKit
def nodesD : DT → Nat
  | .mk _ _ _ _ _ _ ks => 1 + (ks.map nodesD).sum
def nodesL (Ts : List DT) : Nat := (Ts.map nodesD).sum
theorem nodes_eq (T : DT) : nodesD T = 1 + nodesL (kidsOf T) := by
  cases T with
  | mk k f n b t a ks =>
    rw [nodesD]
    rfl
theorem nodesL_nil : nodesL [] = 0 := rfl
theorem nodesL_app (a b : List DT) : nodesL (a ++ b) = nodesL a + nodesL b := by
  unfold nodesL
  rw [List.map_append, List.sum_append]
theorem nodesL_one (T : DT) : nodesL [T] = nodesD T := by
  unfold nodesL
  simp
theorem nodesL_len (Ts : List DT) : Ts.length ≤ nodesL Ts := by
  induction Ts with
  | nil => exact Nat.le_refl _
  | cons T r ih =>
    have h := nodes_eq T
    have e : nodesL (T :: r) = nodesD T + nodesL r := rfl
    rw [e, List.length_cons]
    omega
theorem BS.det {w : World} {B B' n c c' : Nat} {A : Option Addr} {l m : List UInt8} (h : BS w B A n c l) (h' : BS w B' A n c' m) : l = m := by
  refine List.ext_getElem (by rw [h.len, h'.len]) fun i h1 h2 => ?_
  have hn : 0 < n := by rw [← h.len]; omega
  obtain ⟨g, o, e, _, hc⟩ := h.at_ hn
  obtain ⟨g', o', e', _, hc'⟩ := h'.at_ hn
  rw [e] at e'
  injection e' with e'
  injection e' with e1 e2
  subst e1 e2
  have x1 := hc i _ (List.getElem?_eq_getElem h1)
  have x2 := hc' i _ (List.getElem?_eq_getElem h2)
  rw [x1] at x2
  injection x2 with x2
  injection x2 with _ x2
  exact UInt8.toNat_inj.1 (by omega)
theorem NS.det {w : World} {B B' n c c' : Nat} {A : Option Addr} {l m : List Nat} (h : NS w B A n c l) (h' : NS w B' A n c' m) : l = m := by
  refine List.ext_getElem (by rw [h.len, h'.len]) fun i h1 h2 => ?_
  have hn : 0 < n := by rw [← h.len]; omega
  obtain ⟨g, o, e, _, hc⟩ := h.at_ hn
  obtain ⟨g', o', e', _, hc'⟩ := h'.at_ hn
  rw [e] at e'
  injection e' with e'
  injection e' with e1 e2
  subst e1 e2
  have x1 := hc i _ (List.getElem?_eq_getElem h1)
  have x2 := hc' i _ (List.getElem?_eq_getElem h2)
  rw [x1] at x2
  injection x2 with x2
  injection x2 with _ x2
  omega
theorem strB_inj {l m : List UInt8} (h : strB l = strB m) : l = m := by
  have := congrArg ByteArray.toList h
  rwa [strB_toList, strB_toList] at this
theorem DH.inj {x y : DH} (h : ∀ (j : Nat) (v : Value), x.cs[j]? = some v → y.cs[j]? = some v) : x = y := by
  have g : ∀ (j : Nat) (v u : Value), x.cs[j]? = some v → y.cs[j]? = some u → v = u := fun j v u hv hu => by
    have := h j v hv
    rw [hu] at this
    injection this with this
    exact this.symm
  have e0 := g 0 _ _ rfl rfl
  have e1 := g 1 _ _ rfl rfl
  have e2 := g 2 _ _ rfl rfl
  have e3 := g 3 _ _ rfl rfl
  have e4 := g 4 _ _ rfl rfl
  have e5 := g 5 _ _ rfl rfl
  have e6 := g 6 _ _ rfl rfl
  obtain ⟨xk, xf, xn, ⟨x1, x2, x3⟩, xt, ⟨x4, x5, x6⟩, ⟨x7, x8, x9⟩⟩ := x
  obtain ⟨yk, yf, yn, ⟨y1, y2, y3⟩, yt, ⟨y4, y5, y6⟩, ⟨y7, y8, y9⟩⟩ := y
  injection e0 with _ e0
  injection e1 with e1
  injection e2 with _ e2
  injection e3 with a1 a2 a3
  injection e4 with e4
  injection e5 with b1 b2 b3
  injection e6 with c1 c2 c3
  replace e4 : xt = yt := strB_inj e4
  dsimp only at e0 e1 e2 a1 a2 a3 b1 b2 b3 c1 c2 c3
  subst e0 e1 e2 a1 a2 a3 e4 b1 b2 b3 c1 c2 c3
  rfl
theorem DY.det {w : World} {T : DT} {x : DH} (h : DY w T x) : ∀ {U : DT}, DY w U x → T = U := by
  induction h with
  | @mk x b a ks sub h1 h2 h3 h4 h5 h6 h7 h8 h9 ih =>
    intro U hU
    cases hU with
    | @mk _ b' a' ks' sub' g1 g2 g3 g4 g5 g6 g7 g8 g9 =>
      obtain rfl := h4.det g4
      obtain rfl := h5.det g5
      congr 1
      refine List.ext_getElem (by rw [h6, g6]) fun i hi hi' => ?_
      have hn : 0 < x.ks.n := by omega
      have hin : i < x.ks.n := by omega
      obtain ⟨g, o, e, _, hc⟩ := h8 hn
      obtain ⟨g', o', e', _, hc'⟩ := g8 hn
      rw [e] at e'
      injection e' with e'
      injection e' with e1 e2
      subst e1 e2
      have hs : sub i = sub' i := DH.inj fun j v hv => by
        have hj : j < 7 := by
          have := (Array.getElem?_eq_some_iff.1 hv).1
          rwa [DH.size] at this
        have x1 := hc i hin j v hv
        have hu : (sub' i).cs[j]? = some ((sub' i).cs[j]'(by rw [DH.size]; exact hj)) := Array.getElem?_eq_getElem _
        have x2 := hc' i hin j _ hu
        rw [x1] at x2
        rw [hu]
        exact x2.symm
      have hT := List.getElem?_eq_getElem hi
      have hT' := List.getElem?_eq_getElem hi'
      exact ih i _ hT (by rw [hs]; exact g9 i _ hT')
/-- A list of values, as a world holds it: kids in a plain row. -/
structure LV (w : World) (x : SL) (Ts : List DT) : Prop where
  len : Ts.length = x.n
  cap : x.n ≤ x.c
  max : x.n < 9223372036854775808
  at_ : ∃ sub : Nat → DH, (0 < x.n → ∃ g o, x.A = some ⟨g, o, none⟩ ∧ Plain w g ∧ ∀ i, i < x.n → ∀ (j : Nat) (v : Value), (sub i).cs[j]? = some v → w.cell? ⟨g, o + i * 7 + j, none⟩ = some v) ∧ ∀ (i : Nat) (T : DT), Ts[i]? = some T → DY w T (sub i)
theorem DY.lv {w : World} {T : DT} {x : DH} (h : DY w T x) : LV w x.ks (kidsOf T) := by
  cases h with
  | mk sub h1 h2 h3 h4 h5 h6 h7 h8 h9 => exact ⟨h6, h7, h3.2.2.2, sub, h8, h9⟩
theorem LV.lasts {w w' : World} {x : SL} {Ts : List DT} (h : LV w x Ts) (hb : Below w.heap.size w w') : LV w' x Ts := by
  obtain ⟨sub, h1, h2⟩ := h.at_
  refine ⟨h.len, h.cap, h.max, sub, fun hn => ?_, fun i T hT => (h2 i T hT).lasts hb⟩
  obtain ⟨g, o, e, hg, hc⟩ := h1 hn
  exact ⟨g, o, e, hg.below hg.lt hb, fun i hi j v hv => (hb.cell (p := ⟨g, o + i * 7 + j, none⟩) hg.lt).trans (hc i hi j v hv)⟩
def keyOf (x : SL) : Key := (if x.n = 0 then none else x.A.map fun a => (a.block, a.off), x.n)
theorem LV.okK {w : World} {x : SL} {Ts : List DT} (h : LV w x Ts) : okK w (keyOf x) := fun p hp => by
  unfold keyOf at hp
  dsimp only at hp
  split at hp
  · cases hp
  · rename_i hn
    obtain ⟨sub, h1, _⟩ := h.at_
    obtain ⟨g, o, e, hg, _⟩ := h1 (by omega)
    rw [e] at hp
    injection hp with hp
    subst hp
    exact hg
theorem LV.det {w : World} {x y : SL} {Ts Us : List DT} (h : LV w x Ts) (h' : LV w y Us) (hk : keyOf x = keyOf y) : Ts = Us := by
  have hn : x.n = y.n := congrArg Prod.snd hk
  refine List.ext_getElem (by rw [h.len, h'.len, hn]) fun i hi hi' => ?_
  have h0 : 0 < x.n := by rw [← h.len]; omega
  have hin : i < x.n := by rw [← h.len]; exact hi
  obtain ⟨sub, h1, h2⟩ := h.at_
  obtain ⟨sub', h1', h2'⟩ := h'.at_
  obtain ⟨g, o, e, _, hc⟩ := h1 h0
  obtain ⟨g', o', e', _, hc'⟩ := h1' (by omega)
  have hA := congrArg Prod.fst hk
  unfold keyOf at hA
  dsimp only at hA
  rw [if_neg (by omega), if_neg (by omega), e, e'] at hA
  injection hA with hA
  injection hA with e1 e2
  dsimp only at e1 e2
  subst e1 e2
  have hs : sub i = sub' i := DH.inj fun j v hv => by
    have hj : j < 7 := by
      have := (Array.getElem?_eq_some_iff.1 hv).1
      rwa [DH.size] at this
    have x1 := hc i hin j v hv
    have hu : (sub' i).cs[j]? = some ((sub' i).cs[j]'(by rw [DH.size]; exact hj)) := Array.getElem?_eq_getElem _
    have x2 := hc' i (by omega) j _ hu
    rw [x1] at x2
    rw [hu]
    exact x2.symm
  exact (h2 i _ (List.getElem?_eq_getElem hi)).det (by rw [hs]; exact h2' i _ (List.getElem?_eq_getElem hi'))
theorem find_set {κ κ' : Key} {c : Nat} : ∀ {E : List EntK} {i : Nat}, (∃ x, E[i]? = some x ∧ x.1 = κ) → (∀ k, k < i → ∀ x, E[k]? = some x → x.1 ≠ κ) → ∀ s, (findK κ' (E.set i (κ, c)) s).map (·.2) = if κ' = κ then some c else (findK κ' E s).map (·.2)
  | [], i, h, _, s => by
    obtain ⟨x, h, _⟩ := h
    simp at h
  | y :: r, 0, h, _, s => by
    obtain ⟨x, h, hx⟩ := h
    simp at h
    subst h
    rw [List.set_cons_zero, findK, findK]
    dsimp only
    rw [hx]
    by_cases e : κ' = κ
    · rw [if_pos e, if_pos e]
      rfl
    · rw [if_neg e, if_neg e, if_neg e]
  | y :: r, i + 1, h, hn, s => by
    have ih := find_set (κ' := κ') (c := c) (E := r) (i := i) (by simpa using h) (fun k hk x hx => hn (k + 1) (by omega) x (by simpa using hx)) (s + 1)
    have hy := hn 0 (by omega) y rfl
    rw [List.set_cons_succ, findK, findK]
    by_cases e : κ' = y.1
    · rw [if_pos e, if_pos e, if_neg (fun e2 => hy (by rw [← e, e2]))]
    · rw [if_neg e, if_neg e]
      exact ih
theorem cnt_map (κ : Key) (E : List EntK) : cntK κ E = ((findK κ E 0).map (·.2)).getD 0 := by
  unfold cntK
  cases findK κ E 0 <;> rfl
theorem find_app_other {κ κ' : Key} {c : Nat} (h : κ' ≠ κ) : ∀ (E : List EntK) (s : Nat), (findK κ' (E ++ [(κ, c)]) s).map (·.2) = (findK κ' E s).map (·.2)
  | [], s => by
    simp [findK, h]
  | y :: r, s => by
    rw [List.cons_append, findK, findK]
    split
    · rfl
    · exact find_app_other h r (s + 1)
theorem findK_first {κ : Key} : ∀ {E : List EntK} {s : Nat} {p : Nat × Nat}, findK κ E s = some p → ∀ k, k < p.1 - s → ∀ x, E[k]? = some x → x.1 ≠ κ
  | [], s, p, h => by cases h
  | y :: r, s, p, h => by
    unfold findK at h
    split at h
    · injection h with h
      subst h
      intro k hk
      dsimp only at hk
      omega
    · rename_i e
      have hp := (findK_at h).1
      intro k hk x hx
      cases k with
      | zero =>
        injection hx with hx
        subst hx
        exact fun e2 => e e2.symm
      | succ k => exact findK_first h k (by omega) x hx
theorem cnt_bump (κ κ' : Key) (E : List EntK) : cntK κ' (bumpK κ E) = if κ' = κ then cntK κ E + 1 else cntK κ' E := by
  obtain ⟨h1, h2⟩ := posK_touch (κ := κ) (E := E)
  have hfirst : ∀ k, k < posK κ E → ∀ x, (touchK κ E)[k]? = some x → x.1 ≠ κ := by
    unfold posK touchK
    cases h : findK κ E 0 with
    | none =>
      intro k hk x hx
      dsimp only at hk hx
      rw [List.getElem?_append_left hk] at hx
      exact findK_none h x (List.mem_of_getElem? hx)
    | some p => exact fun k hk x hx => findK_first h k (by simpa using hk) x hx
  rw [cnt_map]
  unfold bumpK
  rw [find_set ⟨_, h2, rfl⟩ hfirst 0]
  by_cases e : κ' = κ
  · rw [if_pos e, if_pos e]
    rfl
  · rw [if_neg e, if_neg e, cnt_map κ' E]
    unfold touchK
    cases h : findK κ E 0 with
    | none =>
      dsimp only
      rw [find_app_other e]
    | some p => rfl
/-- What was gone through; the counts; what is below, each list once. -/
structure SN (u8 : List UInt8 → Bool) (w : World) (V : List DT) (E : List EntK) (N : List (SL × List DT)) : Prop where
  own : ∀ T ∈ V, ownD u8 T = true
  keys : ∀ x ∈ E, okK w x.1
  lv : ∀ p ∈ N, LV w p.1 p.2 ∧ 0 < p.1.n
  from_ : ∀ p ∈ N, ∃ T ∈ V, kidsOf T = p.2
  has : ∀ T ∈ V, kidsOf T ≠ [] → ∃ p ∈ N, p.2 = kidsOf T
  seen : ∀ κ, 0 < cntK κ E → 0 < κ.2 → ∃ p ∈ N, keyOf p.1 = κ
  cnt : ∀ κ, cntK κ E ≤ V.length
  sum : (N.map fun p => nodesL p.2).sum + V.length ≤ nodesL V
theorem SN.nil (u8 : List UInt8 → Bool) (w : World) : SN u8 w [] [] [] :=
  ⟨(fun T h => by cases h), (fun x h => by cases h), (fun p h => by cases h), (fun p h => by cases h), (fun T h => by cases h), (fun κ h => absurd h (Nat.not_lt_zero _)), (fun κ => Nat.le_refl _), Nat.le_refl _⟩
def nextN (N : List (SL × List DT)) (E : List EntK) (x : SL) (Ts : List DT) : List (SL × List DT) := if cntK (keyOf x) E = 0 ∧ 0 < x.n then N ++ [(x, Ts)] else N
theorem SN.step {u8 : List UInt8 → Bool} {w : World} {V : List DT} {E : List EntK} {N : List (SL × List DT)} {T : DT} {x : SL} (h : SN u8 w V E N) (ho : ownD u8 T = true) (hx : LV w x (kidsOf T)) : SN u8 w (V ++ [T]) (bumpK (keyOf x) E) (nextN N E x (kidsOf T)) := by
  have hsub : ∀ p ∈ N, p ∈ nextN N E x (kidsOf T) := fun p hp => by
    unfold nextN
    split
    · exact List.mem_append.2 (.inl hp)
    · exact hp
  have hmem : ∀ p ∈ nextN N E x (kidsOf T), p ∈ N ∨ (p = (x, kidsOf T) ∧ 0 < x.n) := fun p hp => by
    unfold nextN at hp
    split at hp
    · rename_i hc
      rcases List.mem_append.1 hp with hp | hp
      · exact .inl hp
      · exact .inr ⟨List.mem_singleton.1 hp, hc.2⟩
    · exact .inl hp
  have hnew : 0 < x.n → ∃ p ∈ nextN N E x (kidsOf T), keyOf p.1 = keyOf x ∧ p.2 = kidsOf T := fun hn => by
    by_cases hc : cntK (keyOf x) E = 0
    · refine ⟨(x, kidsOf T), ?_, rfl, rfl⟩
      unfold nextN
      rw [if_pos ⟨hc, hn⟩]
      simp
    · obtain ⟨p, hp, hk⟩ := h.seen (keyOf x) (by omega) hn
      exact ⟨p, hsub p hp, hk, ((h.lv p hp).1.det hx hk)⟩
  refine ⟨fun S hS => ?_, fun y hy => ?_, fun p hp => ?_, fun p hp => ?_, fun S hS hne => ?_, fun κ hc hn => ?_, fun κ => ?_, ?_⟩
  · rcases List.mem_append.1 hS with hS | hS
    · exact h.own S hS
    · rw [List.mem_singleton.1 hS]
      exact ho
  · rcases bump_mem y hy with hy | hy | hy
    · exact h.keys y hy
    · rw [hy]
      exact hx.okK
    · rw [hy]
      exact hx.okK
  · rcases hmem p hp with hp | ⟨rfl, hn⟩
    · exact h.lv p hp
    · exact ⟨hx, hn⟩
  · rcases hmem p hp with hp | ⟨rfl, hn⟩
    · obtain ⟨S, hS, e⟩ := h.from_ p hp
      exact ⟨S, List.mem_append.2 (.inl hS), e⟩
    · exact ⟨T, by simp, rfl⟩
  · rcases List.mem_append.1 hS with hS | hS
    · obtain ⟨p, hp, e⟩ := h.has S hS hne
      exact ⟨p, hsub p hp, e⟩
    · rw [List.mem_singleton.1 hS] at hne ⊢
      have hn : 0 < x.n := by
        rw [← hx.len]
        exact List.length_pos_iff.2 hne
      obtain ⟨p, hp, _, e⟩ := hnew hn
      exact ⟨p, hp, e⟩
  · rw [cnt_bump] at hc
    split at hc
    · rename_i e
      subst e
      obtain ⟨p, hp, e, _⟩ := hnew hn
      exact ⟨p, hp, e⟩
    · obtain ⟨p, hp, e⟩ := h.seen κ hc hn
      exact ⟨p, hsub p hp, e⟩
  · rw [cnt_bump, List.length_append, List.length_singleton]
    have h1 := h.cnt κ
    have h2 := h.cnt (keyOf x)
    split <;> omega
  · have hs := h.sum
    have hT := nodes_eq T
    rw [nodesL_app, nodesL_one, List.length_append, List.length_singleton]
    unfold nextN
    split
    · rw [List.map_append, List.sum_append]
      simp only [List.map_cons, List.map_nil, List.sum_cons, List.sum_nil]
      omega
    · omega
/-- All values of a level may be, so many deep. -/
def mayL (u8 : List UInt8 → Bool) (d : Nat) (L : List (SL × List DT)) : Prop := ∀ p ∈ L, ∀ T ∈ p.2, mayD u8 d T = true
/-- What is below a level. -/
structure NX (u8 : List UInt8 → Bool) (L L' : List (SL × List DT)) : Prop where
  own : ∀ p ∈ L, ∀ T ∈ p.2, ownD u8 T = true
  from_ : ∀ q ∈ L', ∃ p ∈ L, ∃ T ∈ p.2, kidsOf T = q.2
  has : ∀ p ∈ L, ∀ T ∈ p.2, kidsOf T ≠ [] → ∃ q ∈ L', q.2 = kidsOf T
  pos : ∀ q ∈ L', q.2 ≠ []
theorem NX.may {u8 : List UInt8 → Bool} {L L' : List (SL × List DT)} (h : NX u8 L L') (d : Nat) : mayL u8 (d + 1) L ↔ mayL u8 d L' := by
  constructor
  · intro hm q hq K hK
    obtain ⟨p, hp, T, hT, e⟩ := h.from_ q hq
    have := hm p hp T hT
    unfold mayD at this
    rw [Bool.and_eq_true] at this
    exact List.all_eq_true.1 this.2 K (by rw [e]; exact hK)
  · intro hm p hp T hT
    unfold mayD
    rw [Bool.and_eq_true]
    refine ⟨h.own p hp T hT, List.all_eq_true.2 fun K hK => ?_⟩
    obtain ⟨q, hq, e⟩ := h.has p hp T hT (List.ne_nil_of_mem hK)
    exact hm q hq K (by rw [e]; exact hK)
theorem may_end {u8 : List UInt8 → Bool} {L : List (SL × List DT)} (h : ∀ q ∈ L, q.2 ≠ []) : mayL u8 0 L ↔ L = [] := by
  constructor
  · intro hm
    cases L with
    | nil => rfl
    | cons q r =>
      have hq := h q List.mem_cons_self
      cases hT : q.2 with
      | nil => exact absurd hT hq
      | cons T s =>
        have := hm q List.mem_cons_self T (by rw [hT]; exact List.mem_cons_self)
        cases this
  · rintro rfl q hq
    cases hq
theorem mayL_not {u8 : List UInt8 → Bool} {L : List (SL × List DT)} {p : SL × List DT} {T : DT} (hp : p ∈ L) (hT : T ∈ p.2) (ho : ownD u8 T = false) (d : Nat) : ¬ mayL u8 d L := fun hm => by
  have := hm p hp T hT
  cases d with
  | zero => cases this
  | succ d =>
    unfold mayD at this
    rw [ho, Bool.false_and] at this
    cases this
end Go.Proofs.YtonhkclkddobhaaDoor
namespace Go.Proofs.YtonhkclkddobhaaDoor
set_option linter.unusedVariables false
set_option linter.unusedSimpArgs false
set_option maxRecDepth 100000
open Go Go.RowKit
theorem al_list (W : World) : (Instr.alloc 51 true (.tuple #[])).run Tryd.prog W = .ok (.pointer (some ⟨W.heap.size, 0, none⟩)) (W.alloc (.cells (keyC (none, 0)) 51)) := by kernel_rfl
theorem size_list (κ κ' : Key) : (keyC κ).size = (keyC κ').size := rfl
theorem keyC_one (κ : Key) : (keyC κ).all (·.oneCell') = true := by simp [keyC, Value.oneCell']
theorem bd_list0 (W : World) : (Instr.build 51 #[]).run Tryd.prog W = .ok (.agg (keyC (none, 0))) W := by kernel_rfl
theorem bd_listA {g o m : Nat} (W : World) : (Instr.build 51 [(0, .pointer (some ⟨g, o, none⟩)), (1, .int .i64 (m : Int))].toArray).run Tryd.prog W = .ok (.agg (keyC (some (g, o), m))) W := by kernel_rfl
theorem fa_list1 {g : Nat} (W : World) : (Instr.fieldAt 51 (.pointer (some ⟨g, 0, none⟩)) 1).run Tryd.prog W = .ok (.pointer (some ⟨g, 1, none⟩)) W := by kernel_rfl
theorem ld_listN {g : Nat} {κ : Key} (W : World) (h : Blk W g 51 (keyC κ)) : (Instr.loadAt 3 (.pointer (some ⟨g, 1, none⟩))).run Tryd.prog W = .ok (.int .i64 (κ.2 : Int)) W := by
  have hc : W.cell? ⟨g, 1, none⟩ = some (.int .i64 (κ.2 : Int)) := h.cell 1
  go_simp
theorem ia_first {A : Option Addr} {n c g o : Nat} (hA : A = some ⟨g, o, none⟩) (h : 0 < n) (W : World) : (Instr.indexAt 25 (.slice A n c) (.int .i64 0)).run Tryd.prog W = .ok (.pointer (some ⟨g, o, none⟩)) W := by
  subst hA
  have := ia_ders (g := g) (o := o) (c := c) h W
  simpa using this
theorem ld_listX {g : Nat} {x : SL} (W : World) (h : Blk W g 51 (keyC (keyOf x))) : (Instr.loadAt 3 (.pointer (some ⟨g, 1, none⟩))).run Tryd.prog W = .ok (.int .i64 (x.n : Int)) W := ld_listN W h
def slV (p : SL × List DT) : Value := .slice p.1.A p.1.n p.1.c
theorem ia_derss {A : Option Addr} {j n c g o : Nat} (hA : A = some ⟨g, o, none⟩) (hj : j < n) (W : World) : (Instr.indexAt 59 (.slice A n c) (.int .i64 (j : Int))).run Tryd.prog W = .ok (.pointer (some ⟨g, o + j, none⟩)) W := by
  subst hA
  have h1 : (0 : Int) ≤ (j : Int) := by omega
  have h2 : (j : Int) < (n : Int) := by omega
  go_simp
theorem ld_ders {g f : Nat} {A : Option Addr} {n c : Nat} (W : World) (hc : W.cell? ⟨g, f, none⟩ = some (.slice A n c)) : (Instr.loadAt 25 (.pointer (some ⟨g, f, none⟩))).run Tryd.prog W = .ok (.slice A n c) W := by go_simp
theorem ders_infoD : (Tryd.prog.info? 25).map (fun i => (i.zero, i.size, i.bytes)) = some (some (.slice none 0 0), 1, 24) := by kernel_rfl
theorem may_dy {w : World} {T : DT} {x : DH} (u8 : List UInt8 → Bool) (h : DY w T x) (hu8 : UV u8 w) : Calls Tryd.prog 33 #[.agg x.cs] w (fun r W' => r = .returned (.bool (ownD u8 T)) ∧ Below w.heap.size w W') := by
  cases h with
  | @mk x b a ks sub h1 h2 h3 h4 h5 h6 h7 h8 h9 =>
    obtain ⟨xk, xf, xn, ⟨x1, x2, x3⟩, xt, ⟨x4, x5, x6⟩, ⟨x7, x8, x9⟩⟩ := x
    obtain ⟨gx, ox, hax⟩ := h5.nat (Nat.le_refl _)
    exact may_alone u8 w hu8 h2 h3.2.1 ⟨_, _, _, rfl, h4⟩ h3.2.2.1 h6 h5.len hax
/-- A level, as a world holds it. -/
def LVF (L : List (SL × List DT)) (v : Value) (w : World) : Prop := ∃ (A : Option Addr) (c : Nat), v = .slice A L.length c ∧ L.length < 9223372036854775808 ∧ (0 < L.length → ∃ g o, A = some ⟨g, o, none⟩ ∧ g < w.heap.size ∧ ∀ (i : Nat) (p : SL × List DT), L[i]? = some p → w.cell? ⟨g, o + i, none⟩ = some (slV p)) ∧ ∀ p ∈ L, LV w p.1 p.2
instance {L : List (SL × List DT)} {v : Value} : Lasts (LVF L v) := ⟨fun w w' ⟨A, c, e, h1, h2, h3⟩ hb => ⟨A, c, e, h1, fun hn => by
  obtain ⟨g, o, e, hg, hc⟩ := h2 hn
  exact ⟨g, o, e, Nat.lt_of_lt_of_le hg hb.size, fun i p hp => (hb.cell (p := ⟨g, o + i, none⟩) hg).trans (hc i p hp)⟩, fun p hp => (h3 p hp).lasts hb⟩⟩
/-- A new row of one list. -/
def LR (x : SL) (v : Value) (w : World) : Prop := ∃ g, v = .slice (some ⟨g, 0, none⟩) 1 1 ∧ Blk w g 25 #[.slice x.A x.n x.c]
instance {x : SL} {v : Value} : Lasts (LR x v) := ⟨fun w w' ⟨g, e, h⟩ hb => ⟨g, e, h.below hb h.lt⟩⟩
theorem run_lst1 {A : Option Addr} {n c : Nat} (W : World) : (Instr.buildSlice 59 1 #[(0, .slice A n c)]).run Tryd.prog W = .ok (.slice (some ⟨W.heap.size, 0, none⟩) 1 1) (W.alloc (.cells #[.slice A n c] 25)) := by kernel_rfl
theorem vis_take {L : List (SL × List DT)} {p : Nat} {q : SL × List DT} (h : L[p]? = some q) : (L.take (p + 1)).flatMap (·.2) = (L.take p).flatMap (·.2) ++ q.2 := by
  rw [List.take_add_one, h, Option.toList_some, List.flatMap_append]
  simp
theorem vis_le {L : List (SL × List DT)} {p k : Nat} {q : SL × List DT} (h : L[p]? = some q) : nodesL ((L.take p).flatMap (·.2) ++ q.2.take k) ≤ nodesL (L.flatMap (·.2)) := by
  have e1 : nodesL (L.flatMap (·.2)) = nodesL ((L.take (p + 1)).flatMap (·.2)) + nodesL ((L.drop (p + 1)).flatMap (·.2)) := by
    rw [← nodesL_app, ← List.flatMap_append, List.take_append_drop]
  have e2 : nodesL q.2 = nodesL (q.2.take k) + nodesL (q.2.drop k) := by
    rw [← nodesL_app, List.take_append_drop]
  rw [e1, vis_take h, nodesL_app, nodesL_app]
  omega
theorem SN.few {u8 : List UInt8 → Bool} {w : World} {V : List DT} {E : List EntK} {N : List (SL × List DT)} (h : SN u8 w V E N) : N.length ≤ (N.map fun p => nodesL p.2).sum := by
  have key : ∀ M : List (SL × List DT), (∀ p ∈ M, p ∈ N) → M.length ≤ (M.map fun p => nodesL p.2).sum := by
    intro M
    induction M with
    | nil => exact fun _ => Nat.le_refl _
    | cons p r ih =>
      intro hM
      have h1 := ih fun q hq => hM q (List.mem_cons_of_mem _ hq)
      have h2 := h.lv p (hM p List.mem_cons_self)
      have h3 := nodesL_len p.2
      have h4 := h2.1.len
      simp only [List.length_cons, List.map_cons, List.sum_cons]
      omega
  exact key N fun p hp => hp
theorem nodes_flat (N : List (SL × List DT)) : nodesL (N.flatMap (·.2)) = (N.map fun p => nodesL p.2).sum := by
  induction N with
  | nil => rfl
  | cons p r ih => rw [List.flatMap_cons, nodesL_app, ih, List.map_cons, List.sum_cons]
section
variable {n : Nat} {w0 w w' : World} {a : Act} {e : Env} {h t t2 : Hep} {Q : Exit → Act → World → Prop} {ops : Array Oper} {rest : List Oper} {o : Oper}
theorem ob_list1 {y : Operand} {x : SL} (H : St n w0 a w e h) (hw : ∀ a w, St n w0 a w e h → Region.wanted o (yielded ops a.tmps) = true) (ho : o.op = .buildSlice 59 1 #[(0, y)]) (hy : sev e y = some (.slice x.A x.n x.c)) : ObS Tryd.prog ops Q o a w (LR x) := by
  refine ob_runR H hw ⟨_, _, ?_, (Below.refl _ _).alloc (Nat.le_refl _) _, w.heap.size, rfl, Blk.new _ _ _⟩
  simp [execOp, ho, H.ev hy, run_lst1, Result.andThen]
/-- One list more. -/
theorem pl_list {d : Nat} {x y : Operand} {v z : Value} {N : List (SL × List DT)} {q : SL × List DT} (ho : o.op = .call { callee := .builtin .append, args := #[x, y], argTypes := #[59, 59] }) (hx : sev e x = some v) (hy : sev e y = some z)
    (hv : OutD 25 1 t v N.length (N.map slV)) (hz : LR q.1 z w) (hs : N.length ≤ 1000000) (hg : o.guard = none) (hdst : o.dst = some d) (hl : Nat.blt d n = true) (hf : e.all (fun p => !Nat.beq p.1 d) = true) (H : St n w0 a w e (h ++ t))
    (next : ∀ v' t' a w', OutD 25 1 t' v' (N ++ [q]).length ((N ++ [q]).map slV) → St n w0 a w' ((d, v') :: e) (h ++ t') → wpList Tryd.prog ops Q rest a w') : wpList Tryd.prog ops Q (o :: rest) a w :=
  wpList_plain hg fun K_ hK => by
    obtain ⟨g, rfl, hb⟩ := hz
    have hi := ders_infoD
    cases hq : Tryd.prog.info? 25 with
    | none => rw [hq] at hi; cases hi
    | some i =>
      rw [hq] at hi
      simp only [Option.map_some, Option.some.injEq, Prod.mk.injEq] at hi
      obtain ⟨hz0, hsz, hby⟩ := hi
      have hown := hv.owns H
      obtain ⟨v', w', h1, h2, h3, _, h4⟩ := run_append_own_at (P := Tryd.prog) w w0.heap.size 59 o.type 25 i _ 1 24 (by kernel_rfl) hq hz0 hsz hby rfl (by omega) v N.length (N.map slV) hown ⟨g, 0, none⟩ 1 1 [slV q] rfl (fun j y hy => by
        rw [Addr.add_lit, Nat.zero_add, hb.cell]
        cases j with
        | zero => exact hy
        | succ j => simp at hy) (fun y hy => by
        rw [List.mem_singleton.1 hy]
        rfl) (by simp only [maxLen]; omega) (by omega) H.below.size
      obtain ⟨t', hv', H', _⟩ := H.appD hv h2 h3 h4 (by omega)
      unfold Oper.wp
      simp [execOp, ho, resolve, invoke, builtin, H.ev hx, H.ev hy, h1, Result.andThen]
      refine hK _ _ (next v' t' _ _ ?_ ?_)
      · rw [List.length_append, List.map_append]
        exact hv'
      · rw [hdst]
        exact H'.put _ hl hf
theorem does_lookB {x y : Operand} {b k : Nat} {κ : Key} {E : List EntK} (ho : o.op = .lookup 73 x y false) (hx : sev e x = some (.map (some b))) (hy : sev e y = some (keyV κ)) (hk : h[k]? = some (b, .map (entsK (bumpK κ E)) (bumpK κ E).length, #[])) (hκ : okK w0 κ) (hE : ∀ x ∈ E, okK w0 x.1) : Does Tryd.prog Q n w0 e h o (.int .i64 ((cntK κ E + 1 : Nat) : Int)) := does_run fun a w H => by
  have hb : Blk w b (.map (entsK (bumpK κ E)) (bumpK κ E).length) #[] := H.heap _ (List.mem_iff_getElem?.2 ⟨k, hk⟩)
  have hl := run_lookK hb (hκ.below H.below) (fun x hx => by
    rcases bump_mem x hx with h | h | h
    · exact (hE x h).below H.below
    · rw [h]; exact hκ.below H.below
    · rw [h]; exact hκ.below H.below)
  rw [cnt_bump, if_pos rfl] at hl
  generalize cntK κ E + 1 = m at hl
  simp [execOp, ho, H.ev hx, H.ev hy, hl, Result.andThen]
theorem lf_of {A : Option Addr} {c : Nat} {N : List (SL × List DT)} (hO : OutD 25 1 t (.slice A N.length c) N.length (N.map slV)) (H : St n w0 a w e (h ++ t)) (hN : N.length < 9223372036854775808) (hl : ∀ p ∈ N, LV w0 p.1 p.2) : LVF N (.slice A N.length c) w := by
  refine ⟨A, c, rfl, hN, fun hn => ?_, fun p hp => (hl p hp).lasts H.below⟩
  obtain ⟨g, cur, rfl, rfl, hc⟩ := hO.at_ hn
  have hb : Blk w g 25 cur := H.heap (g, .ty 25, cur) (by simp)
  refine ⟨g, 0, rfl, hb.lt, fun i p hp => ?_⟩
  rw [Nat.zero_add, hb.cell]
  exact hc i _ (by rw [List.getElem?_map, hp]; rfl)
end
theorem ents_nil : (Tid.map (entsI []) 0) = Tid.map (entsK []) ([] : List EntK).length := rfl
attribute [local irreducible] bvs byteD rb nodesL ownD cntK bumpK entsK keyC keyOf
set_option maxHeartbeats 4000000 in
theorem list_walk {Ak : Option Addr} {nk ck g0 o0 : Nat} (w : World) (hA : 0 < nk → Ak = some ⟨g0, o0, none⟩) : Calls Tryd.prog 21 #[.slice Ak nk ck] w (fun rr w' => rr = .returned (.agg (keyC (keyOf ⟨Ak, nk, ck⟩))) ∧ Below w.heap.size w w') := by
  refine calls_st (vs := [.slice Ak nk ck]) 12 Tryd.func21 rfl Tryd.ntmps21 rfl (fun a W H => ?_)
  replace H : St 12 w a W [(0, .slice Ak nk ck)] [] := H
  refine sqR H gs0 fun Z_ z_ => rA rfl rfl al_list fun g1 => rN0 z_ ?_
  try clear H a W
  intro a W H
  refine wp_seq_k (fun K2 hK2 => ?_)
  refine sqR H gs0 fun Z_ z_ => rS 1 rfl <| rV rfl (does_len Tryd.underlying25 rfl rfl) <| rV rfl (does_binOp rfl rfl rfl (z_cmp.2.2.1 rfl _ _)) <| rK [1, 0, 0] [] [] <| rN0 z_ ?_
  try clear H a W
  intro a W H
  cases hq1 : decide (((nk : Nat) : Int) = 0) with
  | true =>
    rw [hq1] at H
    have hq1p := of_decide_eq_true hq1
    refine wp_cond_true (H.ev rfl) ?_
    refine sqR H gs0 fun Z_ z_ => rV rfl (does_build (ps := []) rfl rfl bd_list0) <| rW [1] ⟨rfl, rfl⟩ rfl rfl rfl (info_list (none, 0)) (size_list _ _) (keyC_one _) <| rK [0, 0] [] [] <| rN0 z_ ?_
    try clear H a W
    intro a W H
    refine wp_ret ?_
    repeat (first | (with_reducible refine then_ret ?_) | (with_reducible refine blk_ret ?_))
    refine end_cell (p := 2) rfl rfl (k := 0) rfl Tryd.underlying51 rfl (info_list (none, 0)) H (fun hb => ?_)
    refine ⟨?_, hb⟩
    rw [show keyOf ⟨Ak, nk, ck⟩ = (none, 0) from by unfold keyOf; dsimp only; rw [if_pos (by omega), show nk = 0 by omega]]
  | false =>
    rw [hq1] at H
    have hq1p := of_decide_eq_false hq1
    refine wp_cond_false (H.ev rfl) ?_
    refine wp_skip ?_
    refine hK2 _ _ ?_
    clear hK2
    refine sqR H gs0 fun Z_ z_ => rS 1 rfl <| rV rfl (does_indexAddr rfl rfl rfl (ia_first (hA (by omega)) (by omega))) <| rS 1 rfl <| rV rfl (does_len Tryd.underlying25 rfl rfl) <| rV rfl (does_build rfl rfl bd_listA) <| rW [1] ⟨rfl, rfl⟩ rfl rfl rfl (info_list (some (g0, o0), nk)) (size_list _ _) (keyC_one _) <| rK [0, 0, 0, 0, 0, 0, 1, 0] [] [] <| rN0 z_ ?_
    try clear H a W
    intro a W H
    refine wp_ret ?_
    repeat (first | (with_reducible refine then_ret ?_) | (with_reducible refine blk_ret ?_))
    refine end_cell (p := 2) rfl rfl (k := 0) rfl Tryd.underlying51 rfl (info_list (some (g0, o0), nk)) H (fun hb => ?_)
    refine ⟨?_, hb⟩
    rw [show keyOf ⟨Ak, nk, ck⟩ = (some (g0, o0), nk) from by unfold keyOf; dsimp only; rw [if_neg (by omega), hA (by omega)]; rfl]
theorem list_of {w : World} {x : SL} {Ts : List DT} (h : LV w x Ts) : Calls Tryd.prog 21 #[.slice x.A x.n x.c] w (fun r W' => r = .returned (.agg (keyC (keyOf x))) ∧ Below w.heap.size w W') := by
  obtain ⟨A, n, c⟩ := x
  obtain ⟨sub, h1, _⟩ := h.at_
  by_cases h0 : 0 < n
  · obtain ⟨g, o, e, _⟩ := h1 h0
    exact list_walk (g0 := g) (o0 := o) w fun _ => e
  · exact list_walk (g0 := 0) (o0 := 0) w fun h => absurd h h0
set_option maxHeartbeats 4000000 in
theorem below_walk {Al : Option Addr} {nl cl gl ol : Nat} {L : List (SL × List DT)} (u8 : List UInt8 → Bool) (w : World) (hu8 : UV u8 w) (hLn : L.length = nl) (hnl : nl < 9223372036854775808) (hal : 0 < nl → Al = some ⟨gl, ol, none⟩ ∧ gl < w.heap.size ∧ ∀ (i : Nat) (p : SL × List DT), L[i]? = some p → w.cell? ⟨gl, ol + i, none⟩ = some (slV p)) (hLv : ∀ p ∈ L, LV w p.1 p.2) (hN : nodesL (L.flatMap (·.2)) ≤ 1000000) : Calls Tryd.prog 22 #[.slice Al nl cl] w (fun rr w' => ∃ v' ok, rr = .returned (.tuple #[v', .bool ok]) ∧ Below w.heap.size w w' ∧ (ok = false → ∃ p ∈ L, ∃ T ∈ p.2, ownD u8 T = false) ∧ (ok = true → ∃ L', LVF L' v' w' ∧ NX u8 L L' ∧ nodesL (L'.flatMap (·.2)) ≤ nodesL (L.flatMap (·.2)))) := by
  refine calls_st (vs := [.slice Al nl cl]) 53 Tryd.func22 rfl Tryd.ntmps22 rfl (fun a W H => ?_)
  replace H : St 53 w a W [(0, .slice Al nl cl)] [] := H
  refine sqR H gs0 fun Z_ z_ => rS 2 rfl <| rN0 z_ ?_
  try clear H a W
  intro a W H
  refine sqR H gs0 fun Z_ z_ => rS 1 rfl <| rN0 z_ ?_
  try clear H a W
  intro a W H
  refine wp_seq_k (fun K3 hK3 => ?_)
  refine rg_plain ?_
  refine pl_makeMap rfl rfl rfl rfl rfl H ?_
  try clear H a W
  intro b a W H
  rw [ents_nil] at H
  replace H : St 53 w a W [(11, .map (some b)), (4, .slice none 0 0), (3, .bool false), (2, .slice none 0 0), (0, .slice Al nl cl)] [(b, .map (entsK []) ([] : List EntK).length, #[])] := H
  refine rgO H gs0 (rS 1 rfl <| rK [1, 0] [] [] <| rZ0 ?_)
  try clear H a W
  intro a W H
  refine hK3 _ _ ?_
  clear hK3
  refine wp_seq_k (fun K4 hK4 => ?_)
  refine sqR H gs0 fun Z_ z_ => rS 1 rfl <| rV rfl (does_len Tryd.underlying59 rfl rfl) <| rS 1 rfl <| rK [1, 1, 1, 1, 1, 1, 1, 0] [] [] <| rN0 z_ ?_
  try clear H a W
  intro a W H
  refine wp_block ?_
  refine wp_rounds nl (fun p a W => ∃ (E : List EntK) (N : List (SL × List DT)) (A3 : Option Addr) (c3 : Nat) (t3 : Hep), SN u8 w ((L.take p).flatMap (·.2)) E N ∧ OutD 25 1 t3 (.slice A3 N.length c3) N.length (N.map slV) ∧ St 53 w a W [(4, .slice A3 N.length c3), (14, .int .i64 ((p : Nat) : Int)), (13, .int .i64 ((nl : Nat) : Int)), (12, .slice Al nl cl), (5, .map (some b)), (3, .bool false), (2, .slice none 0 0)] ((b, .map (entsK E) E.length, #[]) :: t3)) (k0 := 0) (show ∃ (E : List EntK) (N : List (SL × List DT)) (A3 : Option Addr) (c3 : Nat) (t3 : Hep), SN u8 w ((L.take 0).flatMap (·.2)) E N ∧ OutD 25 1 t3 (.slice A3 N.length c3) N.length (N.map slV) ∧ St 53 w a W [(4, .slice A3 N.length c3), (14, .int .i64 ((0 : Nat) : Int)), (13, .int .i64 ((nl : Nat) : Int)), (12, .slice Al nl cl), (5, .map (some b)), (3, .bool false), (2, .slice none 0 0)] ((b, .map (entsK E) E.length, #[]) :: t3) from ⟨[], [], none, 0, [], SN.nil u8 w, OutD.nil _ _, H.pick [4, 0, 1, 2, 3, 5, 6] [0] rfl⟩) (by omega) ?_
  try clear H a W
  rintro p a W hp ⟨E, N, A3, c3, t3, hSN, hOD, H⟩
  by_cases hp2 : p < nl
  · obtain ⟨⟨px, pTs⟩, hpp⟩ : ∃ q, L[p]? = some q := ⟨_, List.getElem?_eq_getElem (by omega)⟩
    have hpm := List.mem_of_getElem? hpp
    have hlv : LV w px pTs := hLv _ hpm
    have hpn : pTs.length = px.n := hlv.len
    have hpmx := hlv.max
    obtain ⟨sub, hc1, hc2⟩ := hlv.at_
    obtain ⟨g, o, hA⟩ : ∃ g o, 0 < px.n → px.A = some ⟨g, o, none⟩ ∧ g < w.heap.size ∧ ∀ i, i < px.n → ∀ (j : Nat) (v : Value), (sub i).cs[j]? = some v → w.cell? ⟨g, o + i * 7 + j, none⟩ = some v := by
      by_cases h0 : 0 < px.n
      · obtain ⟨g, o, e, hg, hc⟩ := hc1 h0
        exact ⟨g, o, fun _ => ⟨e, hg.lt, hc⟩⟩
      · exact ⟨0, 0, fun h => absurd h h0⟩
    refine sqR H gs0 fun Z_ z_ => rV rfl (does_binOp rfl rfl rfl (z_cmp.1 (decide_eq_true (by omega)) _ _)) <| rN0 z_ ?_
    try clear H a W
    intro a W H
    refine cdT H rfl ?_
    refine wp_seq_k (fun K7 hK7 => ?_)
    refine wp_block ?_
    refine sqR H gs0 fun Z_ z_ => rV rfl (does_indexAddr rfl rfl rfl (ia_derss (j := p) (hal (by omega)).1 (by omega))) <| rV rfl (does_loadCell (v := .slice px.A px.n px.c) rfl rfl ((hal (by omega)).2.2 p _ hpp) (hal (by omega)).2.1 ld_ders) <| rS 1 rfl <| rN0 z_ ?_
    try clear H a W
    intro a W H
    refine sqR H gs0 fun Z_ z_ => rS 1 rfl <| rV rfl (does_len Tryd.underlying25 rfl rfl) <| rS 1 rfl <| rN0 z_ ?_
    try clear H a W
    intro a W H
    refine wp_block ?_
    refine wp_rounds px.n (fun q a W => ∃ (E : List EntK) (N : List (SL × List DT)) (A3 : Option Addr) (c3 : Nat) (t3 : Hep), SN u8 w ((L.take p).flatMap (·.2) ++ pTs.take q) E N ∧ OutD 25 1 t3 (.slice A3 N.length c3) N.length (N.map slV) ∧ St 53 w a W [(4, .slice A3 N.length c3), (20, .int .i64 ((q : Nat) : Int)), (19, .int .i64 ((px.n : Nat) : Int)), (18, .slice px.A px.n px.c), (14, .int .i64 ((p : Nat) : Int)), (13, .int .i64 ((nl : Nat) : Int)), (12, .slice Al nl cl), (5, .map (some b)), (3, .bool false), (2, .slice none 0 0)] ((b, .map (entsK E) E.length, #[]) :: t3)) (k0 := 0) (show ∃ (E : List EntK) (N : List (SL × List DT)) (A3 : Option Addr) (c3 : Nat) (t3 : Hep), SN u8 w ((L.take p).flatMap (·.2) ++ pTs.take 0) E N ∧ OutD 25 1 t3 (.slice A3 N.length c3) N.length (N.map slV) ∧ St 53 w a W [(4, .slice A3 N.length c3), (20, .int .i64 ((0 : Nat) : Int)), (19, .int .i64 ((px.n : Nat) : Int)), (18, .slice px.A px.n px.c), (14, .int .i64 ((p : Nat) : Int)), (13, .int .i64 ((nl : Nat) : Int)), (12, .slice Al nl cl), (5, .map (some b)), (3, .bool false), (2, .slice none 0 0)] ((b, .map (entsK E) E.length, #[]) :: t3) from ⟨E, N, A3, c3, t3, by rw [List.take_zero, List.append_nil]; exact hSN, hOD, H.pickF (h := [(b, .map (entsK E) E.length, #[])]) (t := t3) [7, 0, 1, 2, 8, 9, 10, 11, 12, 13] [0] rfl⟩) (by omega) ?_
    clear H a W hOD hSN
    clear A3 c3 t3 E N
    rintro q a W hq ⟨E, N, A3, c3, t3, hSN, hOD, H⟩
    have hvl_ : nodesL ((L.take p).flatMap (·.2) ++ pTs.take q) ≤ nodesL (L.flatMap (·.2)) := vis_le (k := q) hpp
    have hsm_ := hSN.sum
    have hfw_ := hSN.few
    by_cases hq2 : q < px.n
    · obtain ⟨T, hT⟩ : ∃ T, pTs[q]? = some T := ⟨_, List.getElem?_eq_getElem (by omega)⟩
      have hdy : DY w T (sub q) := hc2 q T hT
      refine sqR H gs0 fun Z_ z_ => rV rfl (does_binOp rfl rfl rfl (z_cmp.1 (decide_eq_true (by omega)) _ _)) <| rN0 z_ ?_
      try clear H a W
      intro a W H
      refine cdT H rfl ?_
      refine wp_seq_k (fun K11 hK11 => ?_)
      refine wp_block ?_
      refine sqR H gs0 fun Z_ z_ => rV rfl (does_indexAddr rfl rfl rfl (ia_kids (j := q) (hA (by omega)).1 (by omega))) <| rV rfl (does_kid (y := sub q) rfl rfl (hA (by omega)).2.1 ((hA (by omega)).2.2 q (by omega))) <| rA rfl rfl al_der fun g1 => rW [1] ⟨rfl, rfl⟩ rfl rfl rfl (info_der (sub q)) (size_der DH.no (sub q)) (sub q).one <| rN0 z_ ?_
      try clear H a W
      intro a W H
      refine wp_seq_k (fun K13 hK13 => ?_)
      refine wp_seq_k (fun K14 hK14 => ?_)
      cases hq1 : ownD u8 T with
      | true =>
        refine rgP H gs0 (rV rfl (does_load rfl rfl (k := 0) rfl Tryd.underlying27 rfl (info_der (sub q))) <| rV rfl (does_call rfl ⟨_, Tryd.func33, by kernel_rfl⟩ rfl (fun W hb => by have h_ := may_dy u8 (hdy.lasts hb) (hu8.ext hb); rw [hq1] at h_; exact h_)) <| rS 1 rfl <| rZ0 ?_)
        try clear H a W
        intro a W H
        refine hK14 _ _ ?_
        clear hK14
        refine wp_cond_false (H.ev rfl) ?_
        refine wp_skip ?_
        refine hK13 _ _ ?_
        clear hK13
        refine sqR H gs0 fun Z_ z_ => rV rfl (does_fieldAddr rfl rfl fa_der6) <| rV rfl (does_loadAt (v := .slice (sub q).ks.A (sub q).ks.n (sub q).ks.c) rfl rfl (k := 0) rfl ld_derS) <| rV rfl (does_call rfl ⟨_, Tryd.func21, by kernel_rfl⟩ rfl (fun W hb => list_of (hdy.lv.lasts hb))) <| rA rfl rfl al_list fun g2 => rW [1] ⟨rfl, rfl⟩ rfl rfl rfl (info_list (keyOf (sub q).ks)) (size_list _ _) (keyC_one _) <| rN0 z_ ?_
        try clear H a W
        intro a W H
        refine wp_seq_k (fun K16 hK16 => ?_)
        replace H : St 53 w a W [(10, .pointer (some ⟨g2, 0, none⟩)), (29, .agg ((keyC (keyOf (sub q).ks)))), (28, .slice (sub q).ks.A (sub q).ks.n (sub q).ks.c), (27, .pointer (some ⟨g1, 6, none⟩)), (26, .bool false), (25, .bool true), (24, .agg ((sub q).cs)), (9, .pointer (some ⟨g1, 0, none⟩)), (23, .agg ((sub q).cs)), (22, .pointer (some ⟨g, o + q * 7, none⟩)), (21, .bool true), (4, .slice A3 N.length c3), (20, .int .i64 ((q : Nat) : Int)), (19, .int .i64 ((px.n : Nat) : Int)), (18, .slice px.A px.n px.c), (14, .int .i64 ((p : Nat) : Int)), (13, .int .i64 ((nl : Nat) : Int)), (12, .slice Al nl cl), (5, .map (some b)), (3, .bool false), (2, .slice none 0 0)] ((b, .map (entsK E) E.length, #[]) :: (g2, 51, (keyC (keyOf (sub q).ks))) :: (g1, 27, (sub q).cs) :: t3) := H.perm' (@List.perm_middle (Nat × Tid × Array Value) (b, .map (entsK E) E.length, #[]) [(g2, .ty 51, (keyC (keyOf (sub q).ks))), (g1, .ty 27, (sub q).cs)] t3)
        have hkk : okK w (keyOf (sub q).ks) := hdy.lv.okK
        have hcn_ := hSN.cnt (keyOf (sub q).ks)
        refine reg12 (κ := keyOf (sub q).ks) (E := E) H rfl rfl (fun d_ h1_ h2_ => by obtain rfl | rfl | rfl | rfl | rfl | rfl : d_ = 30 ∨ d_ = 31 ∨ d_ = 32 ∨ d_ = 33 ∨ d_ = 34 ∨ d_ = 35 := (by omega); all_goals rfl) (by omega) hkk hSN.keys ?_
        try clear H a W
        intro a W H
        replace H : St 53 w a W [(10, .pointer (some ⟨g2, 0, none⟩)), (29, .agg ((keyC (keyOf (sub q).ks)))), (28, .slice (sub q).ks.A (sub q).ks.n (sub q).ks.c), (27, .pointer (some ⟨g1, 6, none⟩)), (26, .bool false), (25, .bool true), (24, .agg ((sub q).cs)), (9, .pointer (some ⟨g1, 0, none⟩)), (23, .agg ((sub q).cs)), (22, .pointer (some ⟨g, o + q * 7, none⟩)), (21, .bool true), (4, .slice A3 N.length c3), (20, .int .i64 ((q : Nat) : Int)), (19, .int .i64 ((px.n : Nat) : Int)), (18, .slice px.A px.n px.c), (14, .int .i64 ((p : Nat) : Int)), (13, .int .i64 ((nl : Nat) : Int)), (12, .slice Al nl cl), (5, .map (some b)), (3, .bool false), (2, .slice none 0 0)] ((b, .map (entsK (bumpK (keyOf (sub q).ks) E)) (bumpK (keyOf (sub q).ks) E).length, #[]) :: (g2, 51, (keyC (keyOf (sub q).ks))) :: (g1, 27, (sub q).cs) :: t3) := H
        refine hK16 _ _ ?_
        clear hK16
        refine wp_seq_k (fun K17 hK17 => ?_)
        cases hq2 : decide ((((cntK (keyOf (sub q).ks) E + 1) : Nat) : Int) = 1) with
        | true =>
          have hq2p := of_decide_eq_true hq2
          refine rgP H gs0 (rS 1 rfl <| rV rfl (does_load rfl rfl (k := 1) rfl Tryd.underlying51 rfl (info_list (keyOf (sub q).ks))) <| rV rfl (does_lookB (κ := keyOf (sub q).ks) (k := 0) rfl rfl rfl rfl hkk hSN.keys) <| rV rfl (does_binOp rfl rfl rfl (z_cmp.2.2.1 hq2 _ _)) <| rS 1 rfl <| rV rfl (does_fieldAddr rfl rfl fa_list1) <| rV rfl (does_loadAt (v := .int .i64 (((sub q).ks.n : Nat) : Int)) rfl rfl (k := 1) rfl (ld_listX (x := (sub q).ks))) <| rV rfl (does_binOp rfl rfl rfl (z_cmp.2.1 rfl _ _)) <| rS 1 rfl <| rZ0 ?_)
          try clear H a W
          intro a W H
          refine hK17 _ _ ?_
          clear hK17
          cases hq3 : decide (0 < (((sub q).ks.n : Nat) : Int)) with
          | true =>
            rw [hq3] at H
            have hq3p := of_decide_eq_true hq3
            refine wp_cond_true (H.ev rfl) ?_
            refine rgP H gs0 (rS 1 rfl <| rV rfl (does_fieldAddr rfl rfl fa_der6) <| rV rfl (does_loadAt (v := .slice (sub q).ks.A (sub q).ks.n (sub q).ks.c) rfl rfl (k := 2) rfl ld_derS) <| rO rfl (fun a W H _ => ob_list1 (x := (sub q).ks) H (wanted_none rfl) rfl rfl) fun v48 => rI ?_)
            try clear H a W
            rintro a W H ⟨hv48, -⟩
            refine pl_list (h := [(b, .map (entsK (bumpK (keyOf (sub q).ks) E)) (bumpK (keyOf (sub q).ks) E).length, #[]), (g2, .ty 51, (keyC (keyOf (sub q).ks))), (g1, .ty 27, (sub q).cs)]) (t := t3) (q := ((sub q).ks, kidsOf T)) rfl rfl rfl hOD hv48 (by omega) rfl rfl rfl rfl H ?_
            try clear H a W
            intro v8 t8 a W hOD8 H
            obtain ⟨A8, c8, rfl, hc8_⟩ := hOD8.form
            replace H : St 53 w a W [(49, .slice A8 (N ++ [((sub q).ks, kidsOf T)]).length c8), (48, v48), (47, .slice (sub q).ks.A (sub q).ks.n (sub q).ks.c), (46, .pointer (some ⟨g1, 6, none⟩)), (45, .slice A3 N.length c3), (44, .bool true), (43, .bool true), (42, .int .i64 (((sub q).ks.n : Nat) : Int)), (41, .pointer (some ⟨g2, 1, none⟩)), (40, .bool true), (39, .bool true), (38, .int .i64 (((cntK (keyOf (sub q).ks) E + 1) : Nat) : Int)), (37, .agg ((keyC (keyOf (sub q).ks)))), (36, .map (some b)), (10, .pointer (some ⟨g2, 0, none⟩)), (29, .agg ((keyC (keyOf (sub q).ks)))), (28, .slice (sub q).ks.A (sub q).ks.n (sub q).ks.c), (27, .pointer (some ⟨g1, 6, none⟩)), (26, .bool false), (25, .bool true), (24, .agg ((sub q).cs)), (9, .pointer (some ⟨g1, 0, none⟩)), (23, .agg ((sub q).cs)), (22, .pointer (some ⟨g, o + q * 7, none⟩)), (21, .bool true), (4, .slice A3 N.length c3), (20, .int .i64 ((q : Nat) : Int)), (19, .int .i64 ((px.n : Nat) : Int)), (18, .slice px.A px.n px.c), (14, .int .i64 ((p : Nat) : Int)), (13, .int .i64 ((nl : Nat) : Int)), (12, .slice Al nl cl), (5, .map (some b)), (3, .bool false), (2, .slice none 0 0)] ((b, .map (entsK (bumpK (keyOf (sub q).ks) E)) (bumpK (keyOf (sub q).ks) E).length, #[]) :: (g2, 51, (keyC (keyOf (sub q).ks))) :: (g1, 27, (sub q).cs) :: t8) := H
            refine rgO H gs0 (rK [1, 1, 1, 1, 1, 1, 1, 1, 1, 1, 1, 1, 1, 1, 1, 1, 1, 1, 1, 1, 1, 1, 1, 1, 1, 0] [] [] <| rS 1 rfl <| rZ0 ?_)
            try clear H a W
            intro a W H
            refine blk_normal ?_
            refine hK11 _ _ ?_
            clear hK11
            refine rgP H gs0 (rV rfl (does_binOp rfl rfl rfl (zd_add_int (k := ((q : Nat) : Int)) (m := 1) (c := ((q + 1 : Nat) : Int)) (by omega) (by omega) _ _)) <| rK [1, 1, 1, 1, 1, 1, 1, 1, 1, 1, 1, 1, 1, 1, 1, 1, 1, 1, 1, 1, 1, 1, 1, 1, 1, 1, 1, 0] [] [] <| rS 1 rfl <| rZ0 ?_)
            try clear H a W
            intro a W H
            refine ⟨q + 1, by omega, by omega, bumpK (keyOf (sub q).ks) E, (N ++ [((sub q).ks, kidsOf T)]), A8, c8, t8, ?_, hOD8, H.pickF (h := [(b, .map (entsK (bumpK (keyOf (sub q).ks) E)) (bumpK (keyOf (sub q).ks) E).length, #[]), (g2, 51, (keyC (keyOf (sub q).ks))), (g1, 27, (sub q).cs)]) (t := t8) [2, 0, 28, 29, 30, 31, 32, 33, 34, 35] [0] rfl⟩
            have h_ := hSN.step hq1 hdy.lv
            unfold nextN at h_
            rw [if_pos ⟨by omega, by omega⟩] at h_
            rw [List.take_add_one, hT, Option.toList_some, ← List.append_assoc]
            exact h_
          | false =>
            rw [hq3] at H
            have hq3p := of_decide_eq_false hq3
            refine wp_cond_false (H.ev rfl) ?_
            refine wp_skip ?_
            refine blk_normal ?_
            refine hK11 _ _ ?_
            clear hK11
            refine rgP H gs0 (rV rfl (does_binOp rfl rfl rfl (zd_add_int (k := ((q : Nat) : Int)) (m := 1) (c := ((q + 1 : Nat) : Int)) (by omega) (by omega) _ _)) <| rK [1, 1, 1, 1, 1, 1, 1, 1, 1, 1, 1, 1, 1, 1, 1, 1, 1, 1, 1, 1, 1, 1, 0] [] [] <| rS 1 rfl <| rZ0 ?_)
            try clear H a W
            intro a W H
            refine ⟨q + 1, by omega, by omega, bumpK (keyOf (sub q).ks) E, N, A3, c3, t3, ?_, hOD, H.pickF (h := [(b, .map (entsK (bumpK (keyOf (sub q).ks) E)) (bumpK (keyOf (sub q).ks) E).length, #[]), (g2, 51, (keyC (keyOf (sub q).ks))), (g1, 27, (sub q).cs)]) (t := t3) [22, 0, 23, 24, 25, 26, 27, 28, 29, 30] [0] rfl⟩
            have h_ := hSN.step hq1 hdy.lv
            unfold nextN at h_
            rw [if_neg (by omega)] at h_
            rw [List.take_add_one, hT, Option.toList_some, ← List.append_assoc]
            exact h_
        | false =>
          have hq2p := of_decide_eq_false hq2
          refine rgP H gs0 (rS 1 rfl <| rV rfl (does_load rfl rfl (k := 1) rfl Tryd.underlying51 rfl (info_list (keyOf (sub q).ks))) <| rV rfl (does_lookB (κ := keyOf (sub q).ks) (k := 0) rfl rfl rfl rfl hkk hSN.keys) <| rV rfl (does_binOp rfl rfl rfl (z_cmp.2.2.1 hq2 _ _)) <| rS 5 rfl <| rZ0 ?_)
          try clear H a W
          intro a W H
          refine hK17 _ _ ?_
          clear hK17
          refine wp_cond_false (H.ev rfl) ?_
          refine wp_skip ?_
          refine blk_normal ?_
          refine hK11 _ _ ?_
          clear hK11
          refine rgP H gs0 (rV rfl (does_binOp rfl rfl rfl (zd_add_int (k := ((q : Nat) : Int)) (m := 1) (c := ((q + 1 : Nat) : Int)) (by omega) (by omega) _ _)) <| rK [1, 1, 1, 1, 1, 1, 1, 1, 1, 1, 1, 1, 1, 1, 1, 1, 1, 1, 1, 1, 1, 1, 0] [] [] <| rS 1 rfl <| rZ0 ?_)
          try clear H a W
          intro a W H
          refine ⟨q + 1, by omega, by omega, bumpK (keyOf (sub q).ks) E, N, A3, c3, t3, ?_, hOD, H.pickF (h := [(b, .map (entsK (bumpK (keyOf (sub q).ks) E)) (bumpK (keyOf (sub q).ks) E).length, #[]), (g2, 51, (keyC (keyOf (sub q).ks))), (g1, 27, (sub q).cs)]) (t := t3) [22, 0, 23, 24, 25, 26, 27, 28, 29, 30] [0] rfl⟩
          have h_ := hSN.step hq1 hdy.lv
          unfold nextN at h_
          rw [if_neg (by omega)] at h_
          rw [List.take_add_one, hT, Option.toList_some, ← List.append_assoc]
          exact h_
      | false =>
        refine rgP H gs0 (rV rfl (does_load rfl rfl (k := 0) rfl Tryd.underlying27 rfl (info_der (sub q))) <| rV rfl (does_call rfl ⟨_, Tryd.func33, by kernel_rfl⟩ rfl (fun W hb => by have h_ := may_dy u8 (hdy.lasts hb) (hu8.ext hb); rw [hq1] at h_; exact h_)) <| rS 1 rfl <| rZ0 ?_)
        try clear H a W
        intro a W H
        refine hK14 _ _ ?_
        clear hK14
        refine wp_cond_true (H.ev rfl) ?_
        refine sqR H gs0 fun Z_ z_ => rK [1, 1, 1, 1, 1, 1, 1, 1, 1, 1, 1, 1, 1, 1, 1, 1, 0] [] [] <| rS 1 rfl <| rK [1, 1, 1, 1, 1, 1, 1, 1, 1, 1, 1, 1, 1, 1, 1, 1, 0] [] [] <| rS 1 rfl <| rN0 z_ ?_
        try clear H a W
        intro a W H
        refine wp_ret ?_
        repeat (first | (with_reducible refine then_ret ?_) | (with_reducible refine blk_ret ?_))
        refine end_tmps2 (p := 2) (q := 3) rfl rfl rfl H (fun hb => ?_)
        refine ⟨_, false, rfl, hb, fun _ => ⟨_, hpm, T, List.mem_of_getElem? hT, hq1⟩, fun h_ => by cases h_⟩
    · obtain rfl : q = px.n := by omega
      refine sqR H gs0 fun Z_ z_ => rV rfl (does_binOp rfl rfl rfl (z_cmp.1 (decide_eq_false (by omega)) _ _)) <| rN0 z_ ?_
      try clear H a W
      intro a W H
      refine wp_seq_k (fun K20 hK20 => ?_)
      refine wp_cond_false (H.ev rfl) ?_
      refine wp_exit ?_
      repeat (first | (with_reducible refine then_exit ?_) | (with_reducible refine blk_pass (by decide) ?_))
      refine blk_exit ?_
      refine blk_normal ?_
      refine hK7 _ _ ?_
      clear hK7
      refine rgP H gs0 (rV rfl (does_binOp rfl rfl rfl (zd_add_int (k := ((p : Nat) : Int)) (m := 1) (c := ((p + 1 : Nat) : Int)) (by omega) (by omega) _ _)) <| rK [1, 1, 1, 1, 1, 1, 0] [] [] <| rS 1 rfl <| rZ0 ?_)
      try clear H a W
      intro a W H
      refine ⟨p + 1, by omega, by omega, E, N, A3, c3, t3, ?_, hOD, H.pickF (h := [(b, .map (entsK E) E.length, #[])]) (t := t3) [3, 0, 7, 8, 9, 10, 11] [0] rfl⟩
      rw [vis_take hpp]
      rw [List.take_of_length_le (l := pTs) (by omega)] at hSN
      exact hSN
  · obtain rfl : nl = p := by omega
    refine sqR H gs0 fun Z_ z_ => rV rfl (does_binOp rfl rfl rfl (z_cmp.1 (decide_eq_false (by omega)) _ _)) <| rK [1, 1, 1, 0] [] [] <| rN0 z_ ?_
    try clear H a W
    intro a W H
    refine wp_seq_k (fun K22 hK22 => ?_)
    refine wp_cond_false (H.ev rfl) ?_
    refine wp_exit ?_
    repeat (first | (with_reducible refine then_exit ?_) | (with_reducible refine blk_pass (by decide) ?_))
    refine blk_exit ?_
    refine hK4 _ _ ?_
    clear hK4
    refine sqR H gs0 fun Z_ z_ => rS 1 rfl <| rK [1, 1, 1, 1, 1, 1, 1, 0] [] [] <| rS 1 rfl <| rK [1, 1, 1, 1, 1, 1, 1, 0] [] [] <| rS 1 rfl <| rK [1, 1, 0, 0, 0, 0, 0, 0] [] [] <| rN0 z_ ?_
    try clear H a W
    intro a W H
    refine wp_ret ?_
    repeat (first | (with_reducible refine then_ret ?_) | (with_reducible refine blk_ret ?_))
    refine end_tmps2 (p := 2) (q := 3) rfl rfl rfl H (fun hb => ?_)
    rw [List.take_of_length_le (l := L) (by omega)] at hSN
    have hsm_ := hSN.sum
    have hfw_ := hSN.few
    refine ⟨_, true, rfl, hb, (fun h_ => by cases h_), fun _ => ⟨N, lf_of (h := [(b, .map (entsK E) E.length, #[])]) hOD H (by omega) (fun p hp => (hSN.lv p hp).1), ?_, ?_⟩⟩
    · refine ⟨fun p hp T hT => hSN.own T (List.mem_flatMap.2 ⟨p, hp, hT⟩), fun q hq => ?_, fun p hp T hT hne => hSN.has T (List.mem_flatMap.2 ⟨p, hp, hT⟩) hne, fun q hq => ?_⟩
      · obtain ⟨T, hT, e⟩ := hSN.from_ q hq
        obtain ⟨p, hp, hT⟩ := List.mem_flatMap.1 hT
        exact ⟨p, hp, T, hT, e⟩
      · have h1 := hSN.lv q hq
        have h2 := h1.1.len
        exact List.ne_nil_of_length_pos (by omega)
    · rw [nodes_flat N]
      omega
end Go.Proofs.YtonhkclkddobhaaDoor
namespace Go.Proofs.YtonhkclkddobhaaDoor
set_option linter.unusedVariables false
set_option linter.unusedSimpArgs false
set_option maxRecDepth 100000
open Go Go.RowKit
/-- What below answers of a level. -/
def BLF (u8 : List UInt8 → Bool) (L : List (SL × List DT)) (ok : Bool) (v : Value) (w : World) : Prop := ok = true → ∃ L', LVF L' v w ∧ NX u8 L L' ∧ nodesL (L'.flatMap (·.2)) ≤ nodesL (L.flatMap (·.2))
instance {u8 : List UInt8 → Bool} {L : List (SL × List DT)} {ok : Bool} {v : Value} : Lasts (BLF u8 L ok v) := ⟨fun w w' h hb hk => by
  obtain ⟨L', h1, h2⟩ := h hk
  exact ⟨L', Lasts.lasts _ _ h1 hb, h2⟩⟩
theorem below_any {L : List (SL × List DT)} {v : Value} (u8 : List UInt8 → Bool) (W : World) (hu8 : UV u8 W) (hL : LVF L v W) (hN : nodesL (L.flatMap (·.2)) ≤ 1000000) : Calls Tryd.prog 22 #[v] W (fun rr W' => ∃ t, rr = .returned t ∧ Below W.heap.size W W' ∧ ∃ v' ok, t = .tuple #[v', .bool ok] ∧ (ok = false → ∃ p ∈ L, ∃ T ∈ p.2, ownD u8 T = false) ∧ BLF u8 L ok v' W') := by
  obtain ⟨A, c, rfl, h1, h2, h3⟩ := hL
  have fin : ∀ gl ol, (0 < L.length → A = some ⟨gl, ol, none⟩ ∧ gl < W.heap.size ∧ ∀ (i : Nat) (p : SL × List DT), L[i]? = some p → W.cell? ⟨gl, ol + i, none⟩ = some (slV p)) → Calls Tryd.prog 22 #[.slice A L.length c] W (fun rr W' => ∃ t, rr = .returned t ∧ Below W.heap.size W W' ∧ ∃ v' ok, t = .tuple #[v', .bool ok] ∧ (ok = false → ∃ p ∈ L, ∃ T ∈ p.2, ownD u8 T = false) ∧ BLF u8 L ok v' W') := fun gl ol h => by
    refine (below_walk (cl := c) u8 W hu8 rfl h1 h h3 hN).mono ?_
    rintro r W' ⟨v', ok, rfl, hb, hno, hyes⟩
    exact ⟨_, rfl, hb, v', ok, rfl, hno, hyes⟩
  by_cases h0 : 0 < L.length
  · obtain ⟨g, o, e, hg, hc⟩ := h2 h0
    exact fin g o fun _ => ⟨e, hg, hc⟩
  · exact fin 0 0 fun h => absurd h h0
section
variable {n : Nat} {w0 w w' : World} {a : Act} {e : Env} {h : Hep} {Q : Exit → Act → World → Prop} {ops : Array Oper} {rest : List Oper} {o o' : Oper}
/-- A level of one value. -/
theorem pl_level {d d' : Nat} {y : Operand} {x : DH} {T : DT} (ho : o.op = .buildSlice 25 1 #[(0, y)]) (hg : o.guard = none) (hd : o.dst = some d) (ho' : o'.op = .buildSlice 59 1 #[(0, .tmp d)]) (hg' : o'.guard = none) (hd' : o'.dst = some d') (hy : sev e y = some (.agg x.cs)) (hdy : DY w0 T x) (hl : Nat.blt d n = true) (hl' : Nat.blt d' n = true) (hne : Nat.beq d d' = false) (hf : e.all (fun p => !Nat.beq p.1 d) = true) (hf' : e.all (fun p => !Nat.beq p.1 d') = true) (H : St n w0 a w e h)
    (next : ∀ v p a w', p.2 = [T] → LVF [p] v w' → St n w0 a w' ((d', v) :: e) h → wpList Tryd.prog ops Q rest a w') : wpList Tryd.prog ops Q (o :: o' :: rest) a w :=
  wpList_plain hg fun K hK => by
    have hb1 : Below w.heap.size w (w.alloc (.cells x.cs 27)) := (Below.refl _ _).alloc (Nat.le_refl _) _
    have e1 : (execOp a.eval o).run Tryd.prog w = .ok (.value (.slice (some ⟨w.heap.size, 0, none⟩) 1 1)) (w.alloc (.cells x.cs 27)) := by
      simp [execOp, ho, H.ev hy, run_der1, Result.andThen]
    have B1 : Blk (w.alloc (.cells x.cs 27)) w.heap.size 27 x.cs := Blk.new _ _ _
    have H1 : St n w0 (a.put (some d) (.slice (some ⟨w.heap.size, 0, none⟩) 1 1)) (w.alloc (.cells x.cs 27)) ((d, .slice (some ⟨w.heap.size, 0, none⟩) 1 1) :: e) h := (H.call hb1).put _ hl hf
    unfold Oper.wp
    rw [e1]
    refine hK _ _ ?_
    rw [hd]
    generalize w.heap.size = g6 at *
    generalize w.alloc (.cells x.cs 27) = w1 at *
    refine wpList_plain hg' fun K hK => ?_
    have hb2 : Below w1.heap.size w1 (w1.alloc (.cells #[.slice (some ⟨g6, 0, none⟩) 1 1] 25)) := (Below.refl _ _).alloc (Nat.le_refl _) _
    have hx : ∀ a : Act, a.eval (.tmp d) = .slice (some ⟨g6, 0, none⟩) 1 1 → (execOp a.eval o').run Tryd.prog w1 = .ok (.value (.slice (some ⟨w1.heap.size, 0, none⟩) 1 1)) (w1.alloc (.cells #[.slice (some ⟨g6, 0, none⟩) 1 1] 25)) := fun a ha => by
      simp [execOp, ho', ha, run_lst1, Result.andThen]
    have e2 := hx _ (H1.ev (x := .tmp d) (by simp [sev, look]))
    have B2 : Blk (w1.alloc (.cells #[.slice (some ⟨g6, 0, none⟩) 1 1] 25)) w1.heap.size 25 #[.slice (some ⟨g6, 0, none⟩) 1 1] := Blk.new _ _ _
    have B1' : Blk (w1.alloc (.cells #[.slice (some ⟨g6, 0, none⟩) 1 1] 25)) g6 27 x.cs := B1.below hb2 B1.lt
    unfold Oper.wp
    rw [e2]
    have H2 := H1.call hb2
    refine hK _ _ (next (.slice (some ⟨w1.heap.size, 0, none⟩) 1 1) (⟨some ⟨g6, 0, none⟩, 1, 1⟩, [T]) _ _ rfl ⟨some ⟨w1.heap.size, 0, none⟩, 1, rfl, (show 1 < 9223372036854775808 by decide), fun _ => ⟨_, 0, rfl, B2.lt, fun i p hp => ?_⟩, fun p hp => ?_⟩ ?_)
    · rw [Nat.zero_add, B2.cell]
      cases i with
      | zero =>
        injection hp with hp
        subst hp
        rfl
      | succ i => simp at hp
    · rw [List.mem_singleton.1 hp]
      refine ⟨rfl, Nat.le_refl _, (show 1 < 9223372036854775808 by decide), fun _ => x, fun _ => ⟨g6, 0, rfl, ⟨_, _, B1'⟩, fun i hi j v hv => ?_⟩, fun i S hS => ?_⟩
      · have hi : i < 1 := hi
        obtain rfl : i = 0 := by omega
        rw [show 0 + 0 * 7 + j = j by omega, B1'.cell]
        exact hv
      · cases i with
        | zero =>
          injection hS with hS
          subst hS
          exact hdy.lasts H2.below
        | succ i => simp at hS
    · rw [hd']
      have H3 := H2.put (d := d') (.slice (some ⟨w1.heap.size, 0, none⟩) 1 1) hl' (by
        simp only [List.all_cons, hf', Bool.and_true, Bool.not_eq_true']
        exact hne)
      exact H3.sub (fun p hp => by
        rcases List.mem_cons.1 hp with rfl | hp
        · exact List.mem_cons_self
        · exact List.mem_cons_of_mem _ (List.mem_cons_of_mem _ hp)) (fun _ h => h) H3.apart
end
attribute [local irreducible] bvs byteD rb nodesL ownD mayD packD formQ
set_option maxHeartbeats 4000000 in
theorem dermay_walk {x : DH} {T : DT} (u8 : List UInt8 → Bool) (w : World) (hu8 : UV u8 w) (hdy : DY w T x) (hN : nodesD T ≤ 1000000) : Calls Tryd.prog 12 #[.agg (x.cs)] w (fun rr w' => rr = .returned (.bool (mayD u8 12 T)) ∧ Below w.heap.size w w') := by
  refine calls_st (vs := [.agg (x.cs)]) 21 Tryd.func12 rfl Tryd.ntmps12 rfl (fun a W H => ?_)
  replace H : St 21 w a W [(0, .agg (x.cs))] [] := H
  refine sqR H gs0 fun Z_ z_ => rB rfl rfl rfl (bx_der x) fun g1 => rS 1 rfl <| rK [1, 1, 0] [] [] <| rN0 z_ ?_
  try clear H a W
  intro a W H
  refine wp_seq_k (fun K2 hK2 => ?_)
  refine rgP H gs0 (rV rfl (does_load rfl rfl (k := 0) rfl Tryd.underlying27 rfl (info_der x)) <| rI0 ?_)
  try clear H a W
  intro a W H
  refine pl_level rfl rfl rfl rfl rfl rfl rfl hdy rfl rfl rfl rfl rfl H ?_
  try clear H a W
  intro v7 p7 a W hp7 hlv7 H
  replace H : St 21 w a W [(7, v7), (5, .agg (x.cs)), (2, .bool false), (1, .pointer (some ⟨g1, 0, none⟩))] [(g1, 27, x.cs)] := H
  refine rgO H (gsC hlv7 gs0) (rS 2 rfl <| rK [1, 1, 0, 0, 1, 0] [] [] <| rZ ?_)
  try clear hlv7 H a W
  rintro a W H ⟨hlv7, -⟩
  refine hK2 _ _ ?_
  clear hK2
  refine wp_seq_k (fun K3 hK3 => ?_)
  refine sqR H (gsC hlv7 gs0) fun Z_ z_ => rS 1 rfl <| rN z_ ?_
  try clear hlv7 H a W
  rintro a W H ⟨hlv7, -⟩
  have hm0 : mayL u8 (12 - 0) [p7] ↔ mayD u8 12 T = true := ⟨fun h => h p7 (by simp) T (by rw [hp7]; simp), fun h q hq S hS => by rw [List.mem_singleton.1 hq, hp7] at hS; rw [List.mem_singleton.1 hS]; exact h⟩
  have hn0 : nodesL ([p7].flatMap (·.2)) ≤ 1000000 := by rw [List.flatMap_cons, List.flatMap_nil, List.append_nil, hp7, nodesL_one]; exact hN
  refine wp_block ?_
  refine wp_rounds 12 (fun k a W => ∃ (L : List (SL × List DT)) (vo : Value), LVF L vo W ∧ (mayL u8 (12 - k) L ↔ mayD u8 12 T = true) ∧ nodesL (L.flatMap (·.2)) ≤ 1000000 ∧ (12 ≤ k → ∀ q ∈ L, q.2 ≠ []) ∧ St 21 w a W [(8, .int .i64 ((k : Nat) : Int)), (3, vo), (4, .bool true), (2, .bool false)] [(g1, 27, x.cs)]) (k0 := 0) (show ∃ (L : List (SL × List DT)) (vo : Value), LVF L vo W ∧ (mayL u8 (12 - 0) L ↔ mayD u8 12 T = true) ∧ nodesL (L.flatMap (·.2)) ≤ 1000000 ∧ (12 ≤ 0 → ∀ q ∈ L, q.2 ≠ []) ∧ St 21 w a W [(8, .int .i64 ((0 : Nat) : Int)), (3, vo), (4, .bool true), (2, .bool false)] [(g1, 27, x.cs)] from ⟨[p7], v7, hlv7, hm0, hn0, fun h => absurd h (by decide), H.pick [0, 2, 1, 3] [0] rfl⟩) (by omega) ?_
  try clear H a W
  rintro k a W hk ⟨L, vo, hL, hm, hnl, hne, H⟩
  by_cases hk2 : k < 12
  · refine sqR H (gsC hL gs0) fun Z_ z_ => rV rfl (does_binOp rfl rfl rfl (z_cmp.1 (decide_eq_true (by omega)) _ _)) <| rN z_ ?_
    try clear hL H a W
    rintro a W H ⟨hL, -⟩
    refine cdT H rfl ?_
    refine wp_seq_k (fun K6 hK6 => ?_)
    refine wp_block ?_
    refine wp_seq_k (fun K7 hK7 => ?_)
    refine rgP H (gsC hL gs0) (rS 1 rfl <| rI ?_)
    try clear hL H a W
    rintro a W H ⟨hL, -⟩
    refine pl_R (R := SB) (F := fun v W => ∃ v' ok, v = .tuple #[v', .bool ok] ∧ (ok = false → ∃ p ∈ L, ∃ T ∈ p.2, ownD u8 T = false) ∧ BLF u8 L ok v' W) sb_st (ob_callS H (wanted_none rfl) rfl ⟨_, Tryd.func22, by kernel_rfl⟩ rfl (below_any u8 _ (hu8.ext H.below) hL hnl)) rfl rfl rfl H ?_
    try clear H a W
    rintro _ a W ⟨v8, ok, rfl, hno, hyes⟩ hR_ H
    clear hR_
    replace H : St 21 w a W [(12, .tuple #[v8, .bool ok]), (11, vo), (9, .bool true), (8, .int .i64 ((k : Nat) : Int)), (3, vo), (4, .bool true), (2, .bool false)] [(g1, 27, x.cs)] := H
    refine rgO H (gsC hyes gs0) (rS 3 rfl <| rK [1, 1, 1, 1, 1, 1, 1, 0] [] [] <| rS 1 rfl <| rK [1, 1, 1, 1, 1, 1, 1, 1, 0] [] [] <| rS 1 rfl <| rZ ?_)
    try clear hyes H a W
    rintro a W H ⟨hyes, -⟩
    refine hK7 _ _ ?_
    clear hK7
    refine wp_seq_k (fun K8 hK8 => ?_)
    cases hq1 : ok with
    | true =>
      rw [hq1] at H
      refine rgP H (gsC hyes gs0) (rS 2 rfl <| rZ ?_)
      try clear hyes H a W
      rintro a W H ⟨hyes, -⟩
      refine hK8 _ _ ?_
      clear hK8
      refine wp_cond_false (H.ev rfl) ?_
      refine wp_skip ?_
      refine blk_normal ?_
      refine hK6 _ _ ?_
      clear hK6
      refine rgP H (gsC hyes gs0) (rV rfl (does_binOp rfl rfl rfl (zd_add_int (k := ((k : Nat) : Int)) (m := 1) (c := ((k + 1 : Nat) : Int)) (by omega) (by omega) _ _)) <| rK [1, 1, 1, 1, 1, 1, 1, 1, 1, 1, 1, 0] [] [] <| rS 1 rfl <| rZ ?_)
      try clear hyes H a W
      rintro a W H ⟨hyes, -⟩
      obtain ⟨L2, hL2, hNX, hle⟩ := hyes hq1
      refine ⟨k + 1, by omega, by omega, L2, v8, hL2, ?_, Nat.le_trans hle hnl, fun _ => hNX.pos, H.pick [0, 5, 4, 12] [0] rfl⟩
      rw [← hm, show 12 - k = (12 - (k + 1)) + 1 by omega]
      exact (hNX.may _).symm
    | false =>
      rw [hq1] at H
      refine rgP H (gsC hyes gs0) (rS 2 rfl <| rZ ?_)
      try clear hyes H a W
      rintro a W H ⟨hyes, -⟩
      refine hK8 _ _ ?_
      clear hK8
      refine wp_cond_true (H.ev rfl) ?_
      refine sqR H (gsC hyes gs0) fun Z_ z_ => rK [1, 1, 1, 1, 1, 1, 1, 1, 1, 1, 1, 0] [] [] <| rS 1 rfl <| rN z_ ?_
      try clear hyes H a W
      rintro a W H ⟨hyes, -⟩
      refine wp_ret ?_
      repeat (first | (with_reducible refine then_ret ?_) | (with_reducible refine blk_ret ?_))
      refine end_tmp (p := 2) rfl rfl H (fun hb => ?_)
      obtain ⟨p_, hp_, S_, hS_, ho_⟩ := hno hq1
      have hf_ : mayD u8 12 T = false := by
        cases h_ : mayD u8 12 T with
        | false => rfl
        | true => exact absurd (hm.2 h_) (mayL_not hp_ hS_ ho_ _)
      exact ⟨by rw [hf_], hb⟩
  · obtain rfl : k = 12 := by omega
    obtain ⟨Al, cl, rfl, hLn, hal, hLv⟩ := hL
    refine sqR H gs0 fun Z_ z_ => rV rfl (does_binOp rfl rfl rfl (z_cmp.1 (decide_eq_false (by omega)) _ _)) <| rN0 z_ ?_
    try clear H a W
    intro a W H
    refine wp_seq_k (fun K11 hK11 => ?_)
    refine wp_cond_false (H.ev rfl) ?_
    refine wp_exit ?_
    repeat (first | (with_reducible refine then_exit ?_) | (with_reducible refine blk_pass (by decide) ?_))
    refine blk_exit ?_
    refine hK3 _ _ ?_
    clear hK3
    refine sqR H gs0 fun Z_ z_ => rS 1 rfl <| rV rfl (does_len Tryd.underlying59 rfl rfl) <| rV rfl (does_binOp rfl rfl rfl (z_cmp.2.2.1 rfl _ _)) <| rK [1, 1, 1, 1, 1, 1, 1, 0] [] [] <| rS 1 rfl <| rK [1, 0, 0, 0, 0, 0, 0, 0] [] [] <| rN0 z_ ?_
    try clear H a W
    intro a W H
    refine wp_ret ?_
    repeat (first | (with_reducible refine then_ret ?_) | (with_reducible refine blk_ret ?_))
    refine end_tmp (p := 2) rfl rfl H (fun hb => ?_)
    refine ⟨congrArg (fun b_ => Ending.returned (.bool b_)) ?_, hb⟩
    rw [Bool.eq_iff_iff, decide_eq_true_eq, ← hm, may_end (hne (Nat.le_refl _)), ← List.length_eq_zero_iff]
    omega
end Go.Proofs.YtonhkclkddobhaaDoor
namespace Go.Proofs.YtonhkclkddobhaaDoor
set_option linter.unusedVariables false
set_option linter.unusedSimpArgs false
set_option maxRecDepth 100000
open Go Go.RowKit
/-- The document's bytes; none where there is an error. -/
def bytesB (u8 : List UInt8 → Bool) (T : DT) : List UInt8 := if bytesE u8 T = 0 then packD 12 T else []
theorem bytes_is {u8 : List UInt8 → Bool} {T : DT} : (mayD u8 12 T = false → bytesE u8 T = 2 ∧ bytesB u8 T = []) ∧ (mayD u8 12 T = true → 65000 < (packD 12 T).length → bytesE u8 T = 3 ∧ bytesB u8 T = []) ∧ (mayD u8 12 T = true → (packD 12 T).length ≤ 65000 → bytesE u8 T = 0 ∧ bytesB u8 T = packD 12 T) := by
  refine ⟨fun h => ?_, fun h h2 => ?_, fun h h2 => ?_⟩
  · have e : bytesE u8 T = 2 := by unfold bytesE; rw [h]; rfl
    exact ⟨e, by unfold bytesB; rw [e]; rfl⟩
  · have e : bytesE u8 T = 3 := by unfold bytesE; rw [if_pos h, if_pos h2]
    exact ⟨e, by unfold bytesB; rw [e]; rfl⟩
  · have e : bytesE u8 T = 0 := by unfold bytesE; rw [if_pos h, if_neg (by omega)]
    exact ⟨e, by unfold bytesB; rw [if_pos e]⟩
abbrev few (T : DT) : Prop := 0 ≤ bigD T 600
def BytesOk (f : FuncId) (u8 : List UInt8 → Bool) (T : DT) (v : Value) (W : World) : Prop := Calls Tryd.prog f #[v] W (fun rr w' => ∃ t, rr = .returned t ∧ Below W.heap.size W w' ∧ TF (bytesB u8 T) (.int .i64 ((bytesE u8 T : Nat) : Int)) t w')
theorem form_few {T : DT} (h : (packD 12 T).length ≤ 65000) : formQ 12 T = packD 12 T := (formQ_like 12 T).2 h
theorem form_many {T : DT} (h : 65000 < (packD 12 T).length) : 65000 < (formQ 12 T).length := by
  by_cases h2 : 65000 < (formQ 12 T).length
  · exact h2
  · rw [(formQ_like 12 T).1 (by omega)] at h2
    omega
theorem form_len2 {T : DT} : (65000 < (formQ 12 T).length) ↔ 65000 < (packD 12 T).length := by
  constructor
  · intro h
    by_cases h2 : 65000 < (packD 12 T).length
    · exact h2
    · rw [form_few (by omega)] at h
      omega
  · exact form_many
attribute [local irreducible] bvs byteD rb nodesL ownD mayD packD formQ bytesE bytesB
set_option maxHeartbeats 4000000 in
theorem derbytes_walk {x : DH} {T : DT} (u8 : List UInt8 → Bool) (w : World) (hu8 : UV u8 w) (hpg : PGt w) (hdy : DY w T x) (hN : nodesD T ≤ 1000000) (hlf : leafOk 12 T) : Calls Tryd.prog 5 #[.agg (x.cs)] w (fun rr w' => ∃ t, rr = .returned t ∧ Below w.heap.size w w' ∧ TF (bytesB u8 T) (.int .i64 ((bytesE u8 T : Nat) : Int)) t w') := by
  refine calls_st (vs := [.agg (x.cs)]) 14 Tryd.func5 rfl Tryd.ntmps5 rfl (fun a W H => ?_)
  replace H : St 14 w a W [(0, .agg (x.cs))] [] := H
  refine sqR H gs0 fun Z_ z_ => rB rfl rfl rfl (bx_der x) fun g1 => rS 2 rfl <| rK [1, 1, 1, 0] [] [] <| rN0 z_ ?_
  try clear H a W
  intro a W H
  refine wp_seq_k (fun K2 hK2 => ?_)
  refine wp_seq_k (fun K3 hK3 => ?_)
  cases hq1 : mayD u8 12 T with
  | true =>
    refine rgP H gs0 (rV rfl (does_load rfl rfl (k := 0) rfl Tryd.underlying27 rfl (info_der x)) <| rV rfl (does_call rfl ⟨_, Tryd.func12, by kernel_rfl⟩ rfl (fun W hb => by have h_ := dermay_walk u8 W (hu8.ext hb) (hdy.lasts hb) hN; rw [hq1] at h_; exact h_)) <| rS 1 rfl <| rK [1, 0, 0] [] [] <| rZ0 ?_)
    try clear H a W
    intro a W H
    refine hK3 _ _ ?_
    clear hK3
    refine wp_cond_false (H.ev rfl) ?_
    refine wp_skip ?_
    refine hK2 _ _ ?_
    clear hK2
    refine sqR H gs0 fun Z_ z_ => rV rfl (does_load rfl rfl (k := 0) rfl Tryd.underlying27 rfl (info_der x)) <| rC rfl rfl ⟨_, Tryd.func13, by kernel_rfl⟩ rfl (fun a W H _ => (form_sees u8 hdy.dx 12 _ (Nat.le_refl _) ((Sees.refl (Nat.le_refl _)).below H.below) (hpg.ext H.below) hq1 hlf)) fun v9 => rS 1 rfl <| rK [1, 0, 0, 0, 1, 1, 0] [] [] <| rN z_ ?_
    try clear H a W
    rintro a W H ⟨hv9, -⟩
    obtain ⟨A4, n4, c4, rfl, hb4⟩ := hv9
    have hv4 : BF (formQ 12 T) (.slice A4 n4 c4) W := ⟨_, _, _, rfl, hb4⟩
    have hn4 := hb4.len
    replace H : St 14 w a W [(4, .slice A4 n4 c4), (3, .int .i64 0), (2, .slice none 0 0)] [(g1, 27, x.cs)] := H
    refine wp_seq_k (fun K5 hK5 => ?_)
    refine sqR H (gsC hv4 gs0) fun Z_ z_ => rS 1 rfl <| rV rfl (does_len Tryd.underlying23 rfl rfl) <| rV rfl (does_binOp rfl rfl rfl (z_cmp.2.1 rfl _ _)) <| rK [1, 0, 0] [] [] <| rN z_ ?_
    try clear hv4 H a W
    rintro a W H ⟨hv4, -⟩
    cases hq2 : decide (65000 < ((n4 : Nat) : Int)) with
    | true =>
      rw [hq2] at H
      have hq2p := of_decide_eq_true hq2
      refine wp_cond_true (H.ev rfl) ?_
      refine sqR H (gsC hv4 gs0) fun Z_ z_ => rK [1, 1, 1, 0] [] [] <| rS 1 rfl <| rK [1, 1, 1, 0] [] [] <| rS 1 rfl <| rK [1, 1, 0] [] [] <| rN z_ ?_
      try clear hv4 H a W
      rintro a W H ⟨hv4, -⟩
      refine wp_ret ?_
      repeat (first | (with_reducible refine then_ret ?_) | (with_reducible refine blk_ret ?_))
      refine end_tmps2 (p := 2) (q := 3) rfl rfl rfl H (fun hb => ?_)
      have hl_ : 65000 < (packD 12 T).length := form_len2.1 (by omega)
      refine ⟨_, rfl, hb, ?_⟩
      rw [(bytes_is.2.1 hq1 hl_).1, (bytes_is.2.1 hq1 hl_).2]
      exact ⟨_, rfl, BF.nil _⟩
    | false =>
      rw [hq2] at H
      have hq2p := of_decide_eq_false hq2
      refine wp_cond_false (H.ev rfl) ?_
      refine wp_skip ?_
      refine hK5 _ _ ?_
      clear hK5
      refine sqR H (gsC hv4 gs0) fun Z_ z_ => rS 1 rfl <| rK [1, 1, 1, 1, 0] [] [] <| rS 1 rfl <| rK [1, 1, 1, 1, 0] [] [] <| rS 1 rfl <| rK [1, 1, 0, 0, 0] [] [] <| rN z_ ?_
      try clear hv4 H a W
      rintro a W H ⟨hv4, -⟩
      refine wp_ret ?_
      repeat (first | (with_reducible refine then_ret ?_) | (with_reducible refine blk_ret ?_))
      refine end_tmps2 (p := 2) (q := 3) rfl rfl rfl H (fun hb => ?_)
      have hl_ : (packD 12 T).length ≤ 65000 := Nat.le_of_not_lt fun h => absurd (form_len2.2 h) (by omega)
      refine ⟨_, rfl, hb, ?_⟩
      rw [(bytes_is.2.2 hq1 hl_).1, (bytes_is.2.2 hq1 hl_).2, ← form_few hl_]
      exact ⟨_, rfl, hv4⟩
  | false =>
    refine rgP H gs0 (rV rfl (does_load rfl rfl (k := 0) rfl Tryd.underlying27 rfl (info_der x)) <| rV rfl (does_call rfl ⟨_, Tryd.func12, by kernel_rfl⟩ rfl (fun W hb => by have h_ := dermay_walk u8 W (hu8.ext hb) (hdy.lasts hb) hN; rw [hq1] at h_; exact h_)) <| rS 1 rfl <| rK [1, 0, 0] [] [] <| rZ0 ?_)
    try clear H a W
    intro a W H
    refine hK3 _ _ ?_
    clear hK3
    refine wp_cond_true (H.ev rfl) ?_
    refine sqR H gs0 fun Z_ z_ => rK [1, 1, 0] [] [] <| rS 1 rfl <| rK [1, 1, 0] [] [] <| rS 1 rfl <| rK [1, 1, 0] [] [] <| rN0 z_ ?_
    try clear H a W
    intro a W H
    refine wp_ret ?_
    repeat (first | (with_reducible refine then_ret ?_) | (with_reducible refine blk_ret ?_))
    refine end_tmps2 (p := 2) (q := 3) rfl rfl rfl H (fun hb => ?_)
    refine ⟨_, rfl, hb, ?_⟩
    rw [(bytes_is.1 hq1).1, (bytes_is.1 hq1).2]
    exact ⟨_, rfl, BF.nil _⟩
end Go.Proofs.YtonhkclkddobhaaDoor
namespace Go.Proofs.YtonhkclkddobhaaDoor
set_option linter.unusedVariables false
set_option linter.unusedSimpArgs false
set_option maxRecDepth 100000
open Go Go.RowKit
def zeroT : DT := .mk 0 false 0 [] [] [] []
def okD (u8 : List UInt8 → Bool) (l : List UInt8) : Bool := (ofD u8 l).isSome
def ofT (u8 : List UInt8 → Bool) (l : List UInt8) : DT := (ofD u8 l).getD zeroT
def ofE (u8 : List UInt8 → Bool) (l : List UInt8) : Nat := if okD u8 l = true then 0 else 4
theorem ofE_yes {u8 : List UInt8 → Bool} {l : List UInt8} (h : okD u8 l = true) : ofE u8 l = 0 := if_pos h
theorem ofE_no {u8 : List UInt8 → Bool} {l : List UInt8} (h : okD u8 l = false) : ofE u8 l = 4 := if_neg (by rw [h]; decide)
/-- A pair of a value that reads as a tree, and another one. -/
def TD (T : DT) (E : Value) (v : Value) (w : World) : Prop := ∃ x : DH, v = .tuple #[.agg x.cs, E] ∧ DX w w.heap.size T x
theorem fill_kids (k n : Int) (c : List UInt8) : kidsOf (fillQ k n c) = [] := by
  unfold fillQ
  repeat' split
  all_goals rfl
theorem fill_leaf (d : Nat) (k n : Int) {c : List UInt8} (h : c.length ≤ 100000) : leafOk (d + 1) (fillQ k n c) := by
  unfold fillQ
  repeat' split
  all_goals exact ⟨by first | exact Nat.zero_le _ | exact h | (rw [List.length_drop]; omega), by first | exact Nat.zero_le _ | exact h, fun T hT => by cases hT⟩
theorem kids_all {rd : List UInt8 → DT × List UInt8} {P : DT → Prop} {m : Nat} (h : ∀ l, l.length ≤ m → P (rd l).1) (hle : ∀ l, (rd l).2.length ≤ l.length) : ∀ (f e : Nat) (l : List UInt8), l.length ≤ m → ∀ T ∈ (kidsRQ rd f e l).1, P T
  | 0, e, l, hl, T, hT => by cases hT
  | f + 1, e, l, hl, T, hT => by
    unfold kidsRQ at hT
    split at hT
    · rcases List.mem_cons.1 hT with rfl | hT
      · exact h l hl
      · exact kids_all h hle f e _ (Nat.le_trans (hle l) hl) T hT
    · cases hT
theorem kidsOf_all {rd : List UInt8 → DT × List UInt8} {P : DT → Prop} {m : Nat} (h : ∀ l, l.length ≤ m → P (rd l).1) (hle : ∀ l, (rd l).2.length ≤ l.length) (l : List UInt8) (n : Int) (s : Bool) (hl : l.length ≤ m) : ∀ T ∈ (kidsOfQ rd l n s).1, P T := by
  unfold kidsOfQ
  split
  · exact fun T hT => by cases hT
  · exact kids_all h hle _ _ l hl
theorem readQ_leaf : ∀ (d : Nat) (l : List UInt8), l.length ≤ 100000 → leafOk d (readQ d l).1
  | 0, l, _ => trivial
  | d + 1, l, hl => by
    unfold readQ
    have h2 := Nat.le_trans (lenQ_le (numQ l 1).2) (numQ_le l 1)
    split
    · exact ⟨Nat.zero_le _, Nat.zero_le _, kidsOf_all (fun l hl => readQ_leaf d l hl) (readQ_le d) _ _ _ (Nat.le_trans h2 hl)⟩
    · exact fill_leaf d _ _ (Nat.le_trans (Nat.le_trans (Nat.le_add_right _ _) (takeQ_le _ _).2) (Nat.le_trans h2 hl))
theorem kids_nodes {rd : List UInt8 → DT × List UInt8} (h : ∀ l, 0 < l.length → nodesD (rd l).1 + (rd l).2.length ≤ l.length) : ∀ (f e : Nat) (l : List UInt8), nodesL (kidsRQ rd f e l).1 + (kidsRQ rd f e l).2.length ≤ l.length
  | 0, e, l => by
    show nodesL [] + l.length ≤ l.length
    rw [nodesL_nil]
    omega
  | f + 1, e, l => by
    unfold kidsRQ
    split
    · have h1 := h l (by omega)
      have h2 := kids_nodes h f e (rd l).2
      show nodesD (rd l).1 + nodesL (kidsRQ rd f e (rd l).2).1 + (kidsRQ rd f e (rd l).2).2.length ≤ _
      omega
    · show nodesL [] + l.length ≤ l.length
      rw [nodesL_nil]
      omega
theorem readQ_nodes : ∀ (d : Nat) (l : List UInt8), 0 < l.length → nodesD (readQ (d + 1) l).1 + (readQ (d + 1) l).2.length ≤ l.length := by
  intro d
  induction d with
  | zero =>
    intro l hl
    unfold readQ
    have h1 := numQ_lt hl
    have h2 := lenQ_le (numQ l 1).2
    split
    · have e : kidsOfQ (readQ 0) (lenQ (numQ l 1).2).2 (lenQ (numQ l 1).2).1 (decide ((0 : Nat) = 0)) = ([], (lenQ (numQ l 1).2).2) := if_pos (.inr (.inr (.inr rfl)))
      rw [e]
      dsimp only
      rw [nodes_eq]
      show 1 + nodesL [] + _ ≤ _
      rw [nodesL_nil]
      omega
    · dsimp only
      rw [nodes_eq, fill_kids, nodesL_nil]
      have := (takeQ_le (lenQ (numQ l 1).2).2 (lenQ (numQ l 1).2).1).1
      omega
  | succ d ih =>
    intro l hl
    unfold readQ
    have h1 := numQ_lt hl
    have h2 := lenQ_le (numQ l 1).2
    split
    · have key : nodesL (kidsOfQ (readQ (d + 1)) (lenQ (numQ l 1).2).2 (lenQ (numQ l 1).2).1 (decide (d + 1 = 0))).1 + (kidsOfQ (readQ (d + 1)) (lenQ (numQ l 1).2).2 (lenQ (numQ l 1).2).1 (decide (d + 1 = 0))).2.length ≤ (lenQ (numQ l 1).2).2.length := by
        unfold kidsOfQ
        split
        · show nodesL [] + (lenQ (numQ l 1).2).2.length ≤ _
          rw [nodesL_nil]
          omega
        · exact kids_nodes ih _ _ _
      dsimp only
      rw [nodes_eq]
      show 1 + nodesL (kidsOfQ (readQ (d + 1)) _ _ _).1 + _ ≤ _
      omega
    · dsimp only
      rw [nodes_eq, fill_kids, nodesL_nil]
      have := (takeQ_le (lenQ (numQ l 1).2).2 (lenQ (numQ l 1).2).1).1
      omega
theorem readQ_few (d : Nat) {l : List UInt8} (hl : l.length ≤ 100000) : nodesD (readQ (d + 1) l).1 ≤ 1000000 := by
  by_cases h : 0 < l.length
  · have := readQ_nodes d l h
    omega
  · have e : l = [] := List.eq_nil_of_length_eq_zero (by omega)
    subst e
    have e1 : numQ [] 1 = (0, []) := rfl
    have hk : ¬ isKids (kindQ 0) := by decide
    unfold readQ
    rw [e1]
    dsimp only
    rw [if_neg hk]
    dsimp only
    rw [nodes_eq, fill_kids, nodesL_nil]
    decide
theorem of_readQ {u8 : List UInt8 → Bool} {l : List UInt8} (hl : l.length ≤ 65000) : (mayD u8 12 (readQ 12 l).1 = true → packD 12 (readQ 12 l).1 = l → ofD u8 l = some (readQ 12 l).1) ∧ (¬ (mayD u8 12 (readQ 12 l).1 = true ∧ packD 12 (readQ 12 l).1 = l) → ofD u8 l = none) := by
  refine ⟨fun h e => ?_, fun h => ?_⟩
  · have := of_pack h (by rw [e]; exact hl)
    rwa [e] at this
  · cases hU : ofD u8 l with
    | none => rfl
    | some U =>
      obtain ⟨h1, h2, h3⟩ := of_some hU
      have hr := readQ_pack u8 12 U [] h1 (by rw [h2]; exact h3) (by rw [h2, List.length_nil]; omega)
      rw [List.append_nil, h2] at hr
      refine absurd ⟨?_, ?_⟩ h
      · rw [hr]
        exact h1
      · rw [hr]
        exact h2
theorem of_long {u8 : List UInt8 → Bool} {l : List UInt8} (h : 65000 < l.length) : ofD u8 l = none := by
  unfold ofD
  exact if_pos h
theorem bytes_ok {u8 : List UInt8 → Bool} {T : DT} {l : List UInt8} (hl : l.length ≤ 65000) : (bytesE u8 T = 0 ∧ bytesB u8 T = l) ↔ (mayD u8 12 T = true ∧ packD 12 T = l) := by
  cases hm : mayD u8 12 T with
  | false =>
    rw [(bytes_is.1 hm).1]
    constructor
    · rintro ⟨h, _⟩
      cases h
    · rintro ⟨h, _⟩
      cases h
  | true =>
    by_cases h2 : 65000 < (packD 12 T).length
    · rw [(bytes_is.2.1 hm h2).1]
      constructor
      · rintro ⟨h, _⟩
        cases h
      · rintro ⟨_, h⟩
        rw [h] at h2
        omega
    · have h3 := bytes_is.2.2 hm (Nat.le_of_not_lt h2)
      rw [h3.1, h3.2]
      simp
section
variable {n : Nat} {w0 w w' : World} {a : Act} {e : Env} {h : Hep} {Q : Exit → Act → World → Prop} {ops : Array Oper} {rest : List Oper} {o o' : Oper}
/-- A reader is made, and a value read from it. -/
theorem pl_readAll {d d' : Nat} {y : Operand} {tys tys' : Array TypeId} {v : Value} {l : List UInt8} (ho : o.op = .call { callee := .value (.func 16), args := #[y], argTypes := tys }) (hg : o.guard = none) (hd : o.dst = some d) (ho' : o'.op = .call { callee := .value (.func 15), args := #[.tmp d, .const (.int .i64 12)], argTypes := tys' }) (hg' : o'.guard = none) (hd' : o'.dst = some d')
    (hy : sev e y = some v) (hv : BF l v w) (hll : l.length ≤ 100000) (hpg : PGt w0) (hl : Nat.blt d n = true) (hl' : Nat.blt d' n = true) (hne : Nat.beq d d' = false) (hf : e.all (fun p => !Nat.beq p.1 d) = true) (hf' : e.all (fun p => !Nat.beq p.1 d') = true) (H : St n w0 a w e h)
    (next : ∀ x t a w', DC (TN t) (readQ 12 l).1 x → St n w0 a w' ((d', .agg x.cs) :: e) (h ++ t) → wpList Tryd.prog ops Q rest a w') : wpList Tryd.prog ops Q (o :: o' :: rest) a w :=
  wpList_plain hg fun K hK => by
    obtain ⟨A, m, c0, rfl, hb0⟩ := hv
    unfold Oper.wp
    rw [run_call (args := [y]) ho ⟨_, Tryd.func16, by kernel_rfl⟩ rfl, H.evs (xs := [y]) (vs := [.slice A m c0]) (by simp [sevs, hy]), Oper.upon_enter]
    refine (wread_any w ⟨_, _, _, rfl, hb0⟩ (by omega)).mono ?_
    rintro r W1 ⟨wm, g, c, rfl, hbm, Km, hr⟩
    refine hK _ _ ?_
    rw [hd]
    have hb1 : Below w.heap.size w W1 := hbm.trans (Km.below.mono hbm.size)
    have H1 : St n w0 (a.put (some d) (.pointer (some ⟨g, 0, none⟩))) W1 ((d, .pointer (some ⟨g, 0, none⟩)) :: e) h := (H.call hb1).put _ hl hf
    refine wpList_plain hg' fun K hK => ?_
    unfold Oper.wp
    rw [run_call (args := [.tmp d, .const (.int .i64 12)]) ho' ⟨_, Tryd.func15, by kernel_rfl⟩ rfl, H1.evs (xs := [.tmp d, .const (.int .i64 12)]) (vs := [.pointer (some ⟨g, 0, none⟩), .int .i64 12]) (by simp [sevs, sev, look]), Oper.upon_enter]
    have hpgm : PGt wm := (hpg.ext H.below).ext hbm
    refine ((kdA_rdA 11 (by decide)).2 wm W1 g c [] l hll hpgm hr Km).mono ?_
    rintro r W2 ⟨⟨x, t, c'⟩, rfl, ⟨hdc, _⟩, K2⟩
    dsimp only at hdc K2 ⊢
    have K3 : Kn wm W2 t := by
      have := K2.sub (h' := t ++ []) (List.sublist_cons_self _ _)
      rwa [List.append_nil] at this
    have hb2 : Below w.heap.size w W2 := hbm.trans (K3.below.mono hbm.size)
    refine hK _ _ (next x t _ _ hdc ?_)
    rw [hd']
    have H2 : St n w0 (a.put (some d) (.pointer (some ⟨g, 0, none⟩))) W2 ((d, .pointer (some ⟨g, 0, none⟩)) :: e) (h ++ t) := by
      have Hn := H.news hb2 ⟨K3.heap, fun p hp => Nat.le_trans hbm.size (K3.own p hp), K3.apart⟩
      exact Hn.put _ hl hf
    have H3 := H2.put (d := d') (.agg x.cs) hl' (by
      simp only [List.all_cons, hf', Bool.and_true, Bool.not_eq_true']
      exact hne)
    exact H3.sub (fun p hp => by
      rcases List.mem_cons.1 hp with rfl | hp
      · exact List.mem_cons_self
      · exact List.mem_cons_of_mem _ (List.mem_cons_of_mem _ hp)) (fun _ h => h) H3.apart
end
attribute [local irreducible] bvs byteD rb nodesL ownD mayD packD formQ bytesE bytesB readQ ofD
set_option maxHeartbeats 4000000 in
theorem derof_walk {Ab : Option Addr} {nb cb : Nat} {lb : List UInt8} (u8 : List UInt8 → Bool) (w : World) (hu8 : UV u8 w) (hpg : PGt w) (hFb : BF lb (.slice Ab nb cb) w) (hlb : lb.length = nb) : Calls Tryd.prog 7 #[.slice Ab nb cb] w (fun rr w' => ∃ t, rr = .returned t ∧ Below w.heap.size w w' ∧ TD (ofT u8 lb) (.int .i64 ((ofE u8 lb : Nat) : Int)) t w') := by
  refine calls_st (vs := [.slice Ab nb cb]) 29 Tryd.func7 rfl Tryd.ntmps7 rfl (fun a W H => ?_)
  replace H : St 29 w a W [(0, .slice Ab nb cb)] [] := H
  refine sqR H gs0 fun Z_ z_ => rA rfl rfl al_der fun g1 => rS 1 rfl <| rN0 z_ ?_
  try clear H a W
  intro a W H
  refine wp_seq_k (fun K2 hK2 => ?_)
  refine sqR H gs0 fun Z_ z_ => rS 1 rfl <| rV rfl (does_len Tryd.underlying23 rfl rfl) <| rV rfl (does_binOp rfl rfl rfl (z_cmp.2.1 rfl _ _)) <| rK [1, 0, 0] [] [] <| rN0 z_ ?_
  try clear H a W
  intro a W H
  cases hq1 : decide (65000 < ((nb : Nat) : Int)) with
  | true =>
    rw [hq1] at H
    have hq1p := of_decide_eq_true hq1
    refine wp_cond_true (H.ev rfl) ?_
    refine sqR H gs0 fun Z_ z_ => rV rfl (does_build (ps := []) rfl rfl bd_der0) <| rW [1] ⟨rfl, rfl⟩ rfl rfl rfl (info_der (DH.mk 0 false 0 SL.no [] SL.no SL.no)) (size_der DH.no (DH.mk 0 false 0 SL.no [] SL.no SL.no)) (DH.mk 0 false 0 SL.no [] SL.no SL.no).one <| rK [1, 1, 0] [] [] <| rS 1 rfl <| rK [1, 0, 0] [] [] <| rN0 z_ ?_
    try clear H a W
    intro a W H
    refine wp_ret ?_
    repeat (first | (with_reducible refine then_ret ?_) | (with_reducible refine blk_ret ?_))
    refine end_cell_tmp (p := 2) (q := 3) rfl rfl rfl (k := 0) rfl Tryd.underlying27 rfl (info_der _) H (fun hb => ?_)
    have ho_ : ofD u8 lb = none := of_long (by omega)
    refine ⟨_, rfl, hb, (DH.mk 0 false 0 SL.no [] SL.no SL.no), ?_, ?_⟩
    · rw [show ofE u8 lb = 4 from ofE_no (by unfold okD; rw [ho_]; rfl)]; rfl
    · rw [show ofT u8 lb = zeroT from by unfold ofT; rw [ho_]; rfl]
      exact (dc_flat (C := fun _ _ _ => False) (by decide) (by decide) (by decide)).dx (fun _ _ _ h => h.elim)
  | false =>
    rw [hq1] at H
    have hq1p := of_decide_eq_false hq1
    refine wp_cond_false (H.ev rfl) ?_
    refine wp_skip ?_
    refine hK2 _ _ ?_
    clear hK2
    refine wp_seq_k (fun K5 hK5 => ?_)
    refine rgP H gs0 (rS 1 rfl <| rI0 ?_)
    try clear H a W
    intro a W H
    refine pl_readAll rfl rfl rfl rfl rfl rfl rfl (bf_old hFb H) (by omega) hpg rfl rfl rfl rfl rfl H ?_
    try clear H a W
    intro x t a W hdc H
    replace H : St 29 w a W [(13, .agg (x.cs)), (11, .slice Ab nb cb), (9, .bool false), (3, .int .i64 0), (2, .pointer (some ⟨g1, 0, none⟩)), (0, .slice Ab nb cb)] ((g1, 27, DH.no.cs) :: t) := H
    refine rgO H gs0 (rA rfl rfl al_der fun g2 => rW [1] ⟨rfl, rfl⟩ rfl rfl rfl (info_der x) (size_der DH.no x) x.one <| rK [1, 0, 0, 0] [] [] <| rZ0 ?_)
    try clear H a W
    intro a W H
    refine hK5 _ _ ?_
    clear hK5
    refine wp_seq_k (fun K6 hK6 => ?_)
    refine sqR H gs0 fun Z_ z_ => rV rfl (does_load rfl rfl (k := 0) rfl Tryd.underlying27 rfl (info_der x)) <| rC rfl rfl ⟨_, Tryd.func5, by kernel_rfl⟩ rfl (fun a W H _ => (derbytes_walk u8 _ (hu8.ext H.below) (hpg.ext H.below) ((hdc.dy fun g_ k_ v_ hc_ => TN.plain (fun p hp => H.heap p (by simp [hp])) hc_)) (readQ_few 11 (by omega)) (readQ_leaf 12 lb (by omega)))) <| rTF fun u1 => rS 5 rfl <| rK [1, 1, 0, 0, 0, 0, 0] [] [] <| rN z_ ?_
    try clear H a W
    rintro a W H ⟨hu1, -⟩
    refine wp_seq_k (fun K8 hK8 => ?_)
    cases hq2 : decide (((bytesE u8 (readQ 12 lb).1 : Nat) : Int) ≠ 0) with
    | true =>
      have hq2p := of_decide_eq_true hq2
      refine rgP H (gsC hu1 gs0) (rS 1 rfl <| rV rfl (does_binOp rfl rfl rfl (er_neq (k := ((bytesE u8 (readQ 12 lb).1 : Nat) : Int)) (m := 0) hq2 _ _)) <| rS 6 rfl <| rK [1, 0, 0, 0, 0, 0, 0, 0, 0, 0, 1, 1, 1, 0] [] [0] <| rZ0 ?_)
      try clear hu1 H a W
      intro a W H
      refine hK8 _ _ ?_
      clear hK8
      refine wp_cond_true (H.ev rfl) ?_
      refine sqR H gs0 fun Z_ z_ => rV rfl (does_build (ps := []) rfl rfl bd_der0) <| rW [0, 1] ⟨rfl, rfl⟩ rfl rfl rfl (info_der (DH.mk 0 false 0 SL.no [] SL.no SL.no)) (size_der DH.no (DH.mk 0 false 0 SL.no [] SL.no SL.no)) (DH.mk 0 false 0 SL.no [] SL.no SL.no).one <| rK [1, 1, 1, 0] [] [] <| rS 1 rfl <| rK [1, 0, 0] [] [] <| rN0 z_ ?_
      try clear H a W
      intro a W H
      refine wp_ret ?_
      repeat (first | (with_reducible refine then_ret ?_) | (with_reducible refine blk_ret ?_))
      refine end_cell_tmp (p := 2) (q := 3) rfl rfl rfl (k := 1) rfl Tryd.underlying27 rfl (info_der _) H (fun hb => ?_)
      have ho_ : ofD u8 lb = none := (of_readQ (by omega)).2 fun h_ => by
        have h2_ := (bytes_ok (u8 := u8) (T := (readQ 12 lb).1) (l := lb) (by omega)).2 h_
        first | exact absurd (congrArg (fun z : Nat => (z : Int)) h2_.1) (by assumption) | exact absurd h2_.2 (by assumption)
      refine ⟨_, rfl, hb, (DH.mk 0 false 0 SL.no [] SL.no SL.no), ?_, ?_⟩
      · rw [show ofE u8 lb = 4 from ofE_no (by unfold okD; rw [ho_]; rfl)]; rfl
      · rw [show ofT u8 lb = zeroT from by unfold ofT; rw [ho_]; rfl]
        exact (dc_flat (C := fun _ _ _ => False) (by decide) (by decide) (by decide)).dx (fun _ _ _ h => h.elim)
    | false =>
      have hq2p := of_decide_eq_false hq2
      cases hq3 : decide (bytesB u8 (readQ 12 lb).1 = lb) with
      | true =>
        have hq3p := of_decide_eq_true hq3
        refine rgP H (gsC hu1 gs0) (rS 1 rfl <| rV rfl (does_binOp rfl rfl rfl (er_neq (k := ((bytesE u8 (readQ 12 lb).1 : Nat) : Int)) (m := 0) hq2 _ _)) <| rS 3 rfl <| rCV rfl rfl ⟨_, Tryd.func17, by kernel_rfl⟩ rfl (fun a W H ⟨hu1, _⟩ => (by have h_ := equalB_any hu1 (bf_old hFb H); rw [hq3] at h_; exact h_)) <| rS 2 rfl <| rK [1, 0, 0, 0, 0, 0, 0, 0, 0, 0, 1, 1, 1, 0] [] [0] <| rZ0 ?_)
        try clear hu1 H a W
        intro a W H
        refine hK8 _ _ ?_
        clear hK8
        refine wp_cond_false (H.ev rfl) ?_
        refine wp_skip ?_
        refine hK6 _ _ ?_
        clear hK6
        refine sqR H gs0 fun Z_ z_ => rV rfl (does_load rfl rfl (k := 0) rfl Tryd.underlying27 rfl (info_der x)) <| rW [0, 1] ⟨rfl, rfl⟩ rfl rfl rfl (info_der x) (size_der DH.no x) x.one <| rK [1, 1, 1, 0] [] [] <| rS 1 rfl <| rK [1, 0, 0, 0] [] [] <| rN0 z_ ?_
        try clear H a W
        intro a W H
        refine wp_ret ?_
        repeat (first | (with_reducible refine then_ret ?_) | (with_reducible refine blk_ret ?_))
        refine end_cell_tmp (p := 2) (q := 3) rfl rfl rfl (k := 1) rfl Tryd.underlying27 rfl (info_der _) H (fun hb => ?_)
        have h_ := (bytes_ok (u8 := u8) (T := (readQ 12 lb).1) (l := lb) (by omega)).1 ⟨by omega, by assumption⟩
        have ho_ := (of_readQ (u8 := u8) (by omega)).1 h_.1 h_.2
        refine ⟨_, rfl, hb, x, ?_, ?_⟩
        · rw [show ofE u8 lb = 0 from ofE_yes (by unfold okD; rw [ho_]; rfl)]; rfl
        · rw [show ofT u8 lb = (readQ 12 lb).1 from by unfold ofT; rw [ho_]; rfl]
          exact ((hdc.dy fun g_ k_ v_ hc_ => TN.plain (fun p hp => H.heap p (by simp [hp])) hc_)).dx
      | false =>
        have hq3p := of_decide_eq_false hq3
        refine rgP H (gsC hu1 gs0) (rS 1 rfl <| rV rfl (does_binOp rfl rfl rfl (er_neq (k := ((bytesE u8 (readQ 12 lb).1 : Nat) : Int)) (m := 0) hq2 _ _)) <| rS 3 rfl <| rCV rfl rfl ⟨_, Tryd.func17, by kernel_rfl⟩ rfl (fun a W H ⟨hu1, _⟩ => (by have h_ := equalB_any hu1 (bf_old hFb H); rw [hq3] at h_; exact h_)) <| rS 2 rfl <| rK [1, 0, 0, 0, 0, 0, 0, 0, 0, 0, 1, 1, 1, 0] [] [0] <| rZ0 ?_)
        try clear hu1 H a W
        intro a W H
        refine hK8 _ _ ?_
        clear hK8
        refine wp_cond_true (H.ev rfl) ?_
        refine sqR H gs0 fun Z_ z_ => rV rfl (does_build (ps := []) rfl rfl bd_der0) <| rW [0, 1] ⟨rfl, rfl⟩ rfl rfl rfl (info_der (DH.mk 0 false 0 SL.no [] SL.no SL.no)) (size_der DH.no (DH.mk 0 false 0 SL.no [] SL.no SL.no)) (DH.mk 0 false 0 SL.no [] SL.no SL.no).one <| rK [1, 1, 1, 0] [] [] <| rS 1 rfl <| rK [1, 0, 0] [] [] <| rN0 z_ ?_
        try clear H a W
        intro a W H
        refine wp_ret ?_
        repeat (first | (with_reducible refine then_ret ?_) | (with_reducible refine blk_ret ?_))
        refine end_cell_tmp (p := 2) (q := 3) rfl rfl rfl (k := 1) rfl Tryd.underlying27 rfl (info_der _) H (fun hb => ?_)
        have ho_ : ofD u8 lb = none := (of_readQ (by omega)).2 fun h_ => by
          have h2_ := (bytes_ok (u8 := u8) (T := (readQ 12 lb).1) (l := lb) (by omega)).2 h_
          first | exact absurd (congrArg (fun z : Nat => (z : Int)) h2_.1) (by assumption) | exact absurd h2_.2 (by assumption)
        refine ⟨_, rfl, hb, (DH.mk 0 false 0 SL.no [] SL.no SL.no), ?_, ?_⟩
        · rw [show ofE u8 lb = 4 from ofE_no (by unfold okD; rw [ho_]; rfl)]; rfl
        · rw [show ofT u8 lb = zeroT from by unfold ofT; rw [ho_]; rfl]
          exact (dc_flat (C := fun _ _ _ => False) (by decide) (by decide) (by decide)).dx (fun _ _ _ h => h.elim)
end Go.Proofs.YtonhkclkddobhaaDoor
namespace Go.Proofs.YtonhkclkddobhaaDoor
set_option linter.unusedVariables false
set_option linter.unusedSimpArgs false
set_option maxRecDepth 100000
open Go Go.RowKit
structure DK (u8 : List UInt8 → Bool) (w : World) : Prop where
  bytes : ∀ W, Below w.heap.size w W → ∀ {v : Value} {k n : Int} {f : Bool} {a : List Nat}, DF (.mk k f n [] [] a []) v W → (mayD u8 12 (.mk k f n [] [] a []) = true → (packD 12 (.mk k f n [] [] a [])).length ≤ 900000) → BytesOk 5 u8 (.mk k f n [] [] a []) v W
/-- The chapter's row holds in every world behind w. -/
def HKn (w : World) : Prop := ∀ W, Below w.heap.size w W → Calls Tryd.prog 10 #[] W (fun r W' => r = .returned (.bool true) ∧ Below W.heap.size W W')
theorem df_at {w W : World} {T : DT} {x : DH} (h : DX w w.heap.size T x) (hb : Below w.heap.size w W) : DF T (.agg x.cs) W := ⟨x, rfl, h.sees ((Sees.refl (Nat.le_refl _)).below hb)⟩
set_option maxHeartbeats 4000000 in
theorem num_any (z : Int) (w : World) : Calls Tryd.prog 9 #[.int .i64 z] w (fun rr w' => rr = .returned (.int .i64 z) ∧ Below w.heap.size w w') := by
  refine calls_st (vs := [.int .i64 z]) 4 Tryd.func9 rfl Tryd.ntmps9 rfl (fun a W H => ?_)
  replace H : St 4 w a W [(0, .int .i64 z)] [] := H
  refine sqR H gs0 fun Z_ z_ => rS 1 rfl <| rN0 z_ ?_
  try clear H a W
  intro a W H
  refine sqR H gs0 fun Z_ z_ => rS 1 rfl <| rK [1, 0] [] [] <| rS 1 rfl <| rK [1, 0, 0] [] [] <| rN0 z_ ?_
  try clear H a W
  intro a W H
  refine wp_ret ?_
  repeat (first | (with_reducible refine then_ret ?_) | (with_reducible refine blk_ret ?_))
  refine end_tmp (p := 2) rfl rfl H (fun hb => ?_)
  exact ⟨rfl, hb⟩
end Go.Proofs.YtonhkclkddobhaaDoor
namespace Go.Proofs.YtonhkclkddobhaaDoor
set_option linter.unusedVariables false
set_option linter.unusedSimpArgs false
set_option maxRecDepth 100000
open Go Go.RowKit
/-- What a reader of bytes answers in every world behind w; E: how it says whether there is a value. -/
def OfOk (f : FuncId) (u8 : List UInt8 → Bool) (E : List UInt8 → Value) (w : World) : Prop := ∀ W, Below w.heap.size w W → ∀ {v : Value} {l : List UInt8}, BF l v W → l.length ≤ 900000 → Calls Tryd.prog f #[v] W (fun rr w' => ∃ t, rr = .returned t ∧ Below W.heap.size W w' ∧ TD (ofT u8 l) (E l) t w')
theorem OfOk.ext {f : FuncId} {u8 : List UInt8 → Bool} {E : List UInt8 → Value} {w W : World} (h : OfOk f u8 E w) (hb : Below w.heap.size w W) : OfOk f u8 E W := fun W2 hb2 => h W2 (hb.trans (hb2.mono hb.size))
theorem DK.ext {u8 : List UInt8 → Bool} {w W : World} (h : DK u8 w) (hb : Below w.heap.size w W) : DK u8 W :=
  have tr : ∀ {W2 : World}, Below W.heap.size W W2 → Below w.heap.size w W2 := fun hb2 => hb.trans (hb2.mono hb.size)
  ⟨fun W2 hb2 => h.bytes W2 (tr hb2)⟩
theorem HKn.ext {w W : World} (h : HKn w) (hb : Below w.heap.size w W) : HKn W := fun W2 hb2 => h W2 (hb.trans (hb2.mono hb.size))
abbrev derE (u8 : List UInt8 → Bool) (l : List UInt8) : Value := .int .i64 ((ofE u8 l : Nat) : Int)
theorem dx_on {n : Nat} {w0 w : World} {a : Act} {e : Env} {h : Hep} {T : DT} {x : DH} (hx : DX w0 w0.heap.size T x) (H : St n w0 a w e h) : DX w w.heap.size T x := hx.sees ((Sees.refl (Nat.le_refl _)).below H.below)
end Go.Proofs.YtonhkclkddobhaaDoor
namespace Go.Proofs.YtonhkclkddobhaaDoor
set_option linter.unusedVariables false
set_option linter.unusedSimpArgs false
set_option maxRecDepth 100000
open Go Go.RowKit
/-- What der.Int answers in every world behind w. -/
def IntOk (w : World) : Prop := ∀ W, Below w.heap.size w W → ∀ n : Int, -9223372036854775808 ≤ n ∧ n < 9223372036854775808 → Calls Tryd.prog 19 #[.int .i64 n] W (fun rr w' => ∃ t, rr = .returned t ∧ Below W.heap.size W w' ∧ DF (intT n) t w')
theorem IntOk.ext {w W : World} (h : IntOk w) (hb : Below w.heap.size w W) : IntOk W := fun W2 hb2 => h W2 (hb.trans (hb2.mono hb.size))
theorem int23 (u8 : List UInt8 → Bool) {n : Int} (hn : -9223372036854775808 ≤ n ∧ n < 9223372036854775808) : bytesE u8 (intT n) = 0 ∧ bytesB u8 (intT n) = packD 12 (intT n) := by
  have h := int_len n
  have := size_pos n
  exact bytes_is.2.2 (int_may u8 hn) (by omega)
attribute [local irreducible] pwD
end Go.Proofs.YtonhkclkddobhaaDoor
namespace Go.Proofs.YtonhkclkddobhaaDoor
set_option linter.unusedVariables false
set_option linter.unusedSimpArgs false
set_option maxRecDepth 100000
open Go Go.RowKit
def oidT (l : List Nat) : DT := .mk 5 false 0 [] [] l []
/-- What der.Oid answers in every world behind w. -/
def OidOk (w : World) : Prop := ∀ W, Below w.heap.size w W → ∀ {v : Value} {l : List Nat}, NSF l v W → l.length ≤ 1000 → Calls Tryd.prog 8 #[v] W (fun rr w' => ∃ t, rr = .returned t ∧ Below W.heap.size W w' ∧ DF (oidT l) t w')
theorem OidOk.ext {w W : World} (h : OidOk w) (hb : Below w.heap.size w W) : OidOk W := fun W2 hb2 => h W2 (hb.trans (hb2.mono hb.size))
theorem kn_int1 : packD 12 (intT 128) = [2, 2, 0, 128] := by decide +kernel
theorem kn_int2 : packD 12 (intT (-128)) = [2, 1, 128] := by decide +kernel
theorem hi_0 : hiD 0 = [] := by rw [hiD, dif_pos rfl]
theorem kn_oid : packD 12 (oidT [2, 5, 4, 3]) = [6, 3, 85, 4, 3] := by
  have e : ∀ n, n < 128 → groupsD n = [byteD n] := fun n hn => by
    unfold groupsD
    rw [Nat.div_eq_of_lt hn, Nat.mod_eq_of_lt hn, hi_0, List.nil_append]
  show headD (tagD 5 0) (contD 5 false 0 [] [] [2, 5, 4, 3] []) = _
  have e2 : contD 5 false 0 [] [] [2, 5, 4, 3] [] = [85, 4, 3] := by
    rw [contD_eq, List.append_nil]
    show groupsD (40 * 2 + 5) ++ [4, 3].flatMap groupsD = _
    rw [e _ (by omega)]
    simp only [List.flatMap_cons, List.flatMap_nil]
    rw [e 4 (by omega), e 3 (by omega)]
    rfl
  rw [e2]
  rfl
theorem oid_may (u8 : List UInt8 → Bool) : mayD u8 12 (oidT [2, 5, 4, 3]) = true := rfl
theorem kn_bytes (u8 : List UInt8 → Bool) : (bytesE u8 (intT 128) = 0 ∧ bytesB u8 (intT 128) = [2, 2, 0, 128]) ∧ (bytesE u8 (intT (-128)) = 0 ∧ bytesB u8 (intT (-128)) = [2, 1, 128]) ∧ (bytesE u8 (oidT [2, 5, 4, 3]) = 0 ∧ bytesB u8 (oidT [2, 5, 4, 3]) = [6, 3, 85, 4, 3]) := by
  have h1 := int23 u8 (n := 128) (by omega)
  have h2 := int23 u8 (n := -128) (by omega)
  have h3 := bytes_is.2.2 (oid_may u8) (by rw [kn_oid]; simp)
  exact ⟨⟨h1.1, h1.2.trans kn_int1⟩, ⟨h2.1, h2.2.trans kn_int2⟩, ⟨h3.1, h3.2.trans kn_oid⟩⟩
theorem kn_of (u8 : List UInt8 → Bool) : okD u8 [2, 2, 0, 127] = false ∧ okD u8 [1, 1, 1] = false := ⟨rfl, rfl⟩
theorem run_byteD4 (w : World) (x y z t : UInt8) : (Instr.buildSlice 23 4 #[(0, bv x), (1, bv y), (2, bv z), (3, bv t)]).run Tryd.prog w = .ok (.slice (some ⟨w.heap.size, 0, none⟩) 4 4) (w.alloc (.cells (bvs [x, y, z, t]) 5)) := by kernel_rfl
theorem run_newN4 (w : World) (x y z t : Nat) : (Instr.buildSlice 24 4 #[(0, .int .u64 (x : Int)), (1, .int .u64 (y : Int)), (2, .int .u64 (z : Int)), (3, .int .u64 (t : Int))]).run Tryd.prog w = .ok (.slice (some ⟨w.heap.size, 0, none⟩) 4 4) (w.alloc (.cells #[nvD x, nvD y, nvD z, nvD t] 36)) := by kernel_rfl
section
variable {n : Nat} {w0 w : World} {a : Act} {e : Env} {h : Hep} {Q : Exit → Act → World → Prop} {ops : Array Oper} {o : Oper}
theorem ob_byteOF4 {y0 y1 y2 y3 : Operand} {x y z t : UInt8} (H : St n w0 a w e h) (hw : ∀ a w, St n w0 a w e h → Region.wanted o (yielded ops a.tmps) = true) (ho : o.op = .buildSlice 23 4 #[(0, y0), (1, y1), (2, y2), (3, y3)]) (h0 : sev e y0 = some (bv x)) (h1 : sev e y1 = some (bv y)) (h2 : sev e y2 = some (bv z)) (h3 : sev e y3 = some (bv t)) : ObS Tryd.prog ops Q o a w (OF w0.heap.size h [x, y, z, t]) := by
  obtain ⟨h4, h5⟩ := of_new H (l := [x, y, z, t]) (by unfold maxLen; simp)
  refine ob_runR H hw ⟨_, _, ?_, h4, h5⟩
  simp [execOp, ho, H.ev h0, H.ev h1, H.ev h2, H.ev h3, run_byteD4, Result.andThen]
theorem ob_newN4 {y0 y1 y2 y3 : Operand} {x y z t : Nat} (hx : x < 1000 ∧ y < 1000 ∧ z < 1000 ∧ t < 1000) (H : St n w0 a w e h) (hw : ∀ a w, St n w0 a w e h → Region.wanted o (yielded ops a.tmps) = true) (ho : o.op = .buildSlice 24 4 #[(0, y0), (1, y1), (2, y2), (3, y3)]) (h0 : sev e y0 = some (.int .u64 (x : Int))) (h1 : sev e y1 = some (.int .u64 (y : Int))) (h2 : sev e y2 = some (.int .u64 (z : Int))) (h3 : sev e y3 = some (.int .u64 (t : Int))) : ObS Tryd.prog ops Q o a w (NSF [x, y, z, t]) := by
  obtain ⟨h4, h5⟩ := nsf_new w [x, y, z, t] (by simp; omega)
  refine ob_runR H hw ⟨_, _, ?_, h4, h5⟩
  simp [execOp, ho, H.ev h0, H.ev h1, H.ev h2, H.ev h3, run_newN4, Result.andThen]
end
set_option maxHeartbeats 4000000 in
theorem known_walk (u8 : List UInt8 → Bool) (w : World) (hu8 : UV u8 w) (hdk : DK u8 w) (hin : IntOk w) (hoi : OidOk w) (hof : OfOk 7 u8 (derE u8) w) : Calls Tryd.prog 10 #[] w (fun rr w' => rr = .returned (.bool true) ∧ Below w.heap.size w w') := by
  have hk1_ := (kn_bytes u8).1.1
  have hk2_ := (kn_bytes u8).2.1.1
  have hk3_ := (kn_bytes u8).2.2.1
  refine calls_st (vs := []) 71 Tryd.func10 rfl Tryd.ntmps10 rfl (fun a W H => ?_)
  replace H : St 71 w a W [] [] := H
  refine sqR H gs0 fun Z_ z_ => rS 1 rfl <| rN0 z_ ?_
  try clear H a W
  intro a W H
  refine wp_seq_k (fun K2 hK2 => ?_)
  refine rg_plain ?_
  refine pl_R (R := SB) (F := DF (intT 128)) sb_st (ob_callS H (wanted_none rfl) rfl ⟨_, Tryd.func19, by kernel_rfl⟩ rfl (hin _ H.below 128 (by omega))) rfl rfl rfl H ?_
  try clear H a W
  rintro _ a W ⟨x1, rfl, hx_⟩ hR_ H
  obtain ⟨wt1, H, HKt1, hu8, hdk, hin, hoi, hof, hdx1⟩ : ∃ ws, St 71 ws a W [(12, .agg (x1.cs)), (0, .bool false)] [] ∧ Kn w ws [] ∧ UV u8 ws ∧ DK u8 ws ∧ IntOk ws ∧ OidOk ws ∧ OfOk 7 u8 (derE u8) ws ∧ DX ws ws.heap.size (intT 128) x1 := ⟨W, H.rebase, H.kn, hu8.ext H.below, hdk.ext H.below, hin.ext H.below, hoi.ext H.below, hof.ext H.below, hx_⟩
  refine rgO H gs0 (rC rfl rfl ⟨_, Tryd.func5, by kernel_rfl⟩ rfl (fun a W H _ => (hdk.bytes _ H.below (df_at hdx1 H.below) (fun _ => by show (packD 12 (intT 128)).length ≤ 900000; rw [kn_int1]; simp))) <| rTF fun u1 => rS 5 rfl <| rK [1, 1, 0, 0, 0, 0, 0] [] [] <| rZ ?_)
  try clear H a W
  rintro a W H ⟨hu1, -⟩
  refine hK2 _ _ ?_
  clear hK2
  refine wp_seq_k (fun K3 hK3 => ?_)
  refine rg_plain ?_
  refine pl_R (R := SB) (F := DF (intT (-128))) sb_st (ob_callS H (wanted_none rfl) rfl ⟨_, Tryd.func19, by kernel_rfl⟩ rfl (hin _ H.below (-128) (by omega))) rfl rfl rfl H ?_
  try clear H a W
  rintro _ a W ⟨x2, rfl, hx_⟩ hR_ H
  replace hu1 := BF.sb _ _ _ hu1 hR_
  obtain ⟨wt2, H, HKt2, hu8, hdk, hin, hoi, hof, hdx1, hdx2, hu1⟩ : ∃ ws, St 71 ws a W [(17, .agg (x2.cs)), (2, .int .i64 ((bytesE u8 (intT 128) : Nat) : Int)), (1, u1), (0, .bool false)] [] ∧ Kn wt1 ws [] ∧ UV u8 ws ∧ DK u8 ws ∧ IntOk ws ∧ OidOk ws ∧ OfOk 7 u8 (derE u8) ws ∧ DX ws ws.heap.size (intT 128) x1 ∧ DX ws ws.heap.size (intT (-128)) x2 ∧ BF (bytesB u8 (intT 128)) u1 ws := ⟨W, H.rebase, H.kn, hu8.ext H.below, hdk.ext H.below, hin.ext H.below, hoi.ext H.below, hof.ext H.below, dx_on hdx1 H, hx_, hu1⟩
  refine rgO H gs0 (rC rfl rfl ⟨_, Tryd.func5, by kernel_rfl⟩ rfl (fun a W H _ => (hdk.bytes _ H.below (df_at hdx2 H.below) (fun _ => by show (packD 12 (intT (-128))).length ≤ 900000; rw [kn_int2]; simp))) <| rTF fun u3 => rS 5 rfl <| rK [1, 1, 0, 0, 0, 0, 0] [] [] <| rZ ?_)
  try clear H a W
  rintro a W H ⟨hu3, -⟩
  refine hK3 _ _ ?_
  clear hK3
  refine wp_seq_k (fun K4 hK4 => ?_)
  refine rgP H (gsC hu3 gs0) (rO rfl (fun a W H _ => ob_newN4 (x := 2) (y := 5) (z := 4) (t := 3) (by omega) H (wanted_none rfl) rfl rfl rfl rfl rfl) fun v22 => rI ?_)
  try clear hu3 H a W
  rintro a W H ⟨hv22, hu3, -⟩
  refine pl_R (R := SB) (F := DF (oidT [2, 5, 4, 3])) sb_st (ob_callS H (wanted_none rfl) rfl ⟨_, Tryd.func8, by kernel_rfl⟩ rfl (hoi _ H.below hv22 (by simp))) rfl rfl rfl H ?_
  try clear H a W
  rintro _ a W ⟨x3, rfl, hx_⟩ hR_ H
  replace hv22 := Lasts.lasts (F := NSF [2, 5, 4, 3] v22) _ _ hv22 hR_
  replace hu3 := BF.sb _ _ _ hu3 hR_
  obtain ⟨wt3, H, HKt3, hu8, hdk, hin, hoi, hof, hdx1, hdx2, hu1, hdx3, hu3⟩ : ∃ ws, St 71 ws a W [(23, .agg (x3.cs)), (22, v22), (4, .int .i64 ((bytesE u8 (intT (-128)) : Nat) : Int)), (3, u3), (2, .int .i64 ((bytesE u8 (intT 128) : Nat) : Int)), (1, u1), (0, .bool false)] [] ∧ Kn wt2 ws [] ∧ UV u8 ws ∧ DK u8 ws ∧ IntOk ws ∧ OidOk ws ∧ OfOk 7 u8 (derE u8) ws ∧ DX ws ws.heap.size (intT 128) x1 ∧ DX ws ws.heap.size (intT (-128)) x2 ∧ BF (bytesB u8 (intT 128)) u1 ws ∧ DX ws ws.heap.size (oidT [2, 5, 4, 3]) x3 ∧ BF (bytesB u8 (intT (-128))) u3 ws := ⟨W, H.rebase, H.kn, hu8.ext H.below, hdk.ext H.below, hin.ext H.below, hoi.ext H.below, hof.ext H.below, dx_on hdx1 H, dx_on hdx2 H, bf_old hu1 H, hx_, hu3⟩
  refine rgO H (gsC hv22 gs0) (rC rfl rfl ⟨_, Tryd.func5, by kernel_rfl⟩ rfl (fun a W H _ => (hdk.bytes _ H.below (df_at hdx3 H.below) (fun _ => by show (packD 12 (oidT [2, 5, 4, 3])).length ≤ 900000; rw [kn_oid]; simp))) <| rTF fun u5 => rS 5 rfl <| rK [1, 1, 0, 0, 0, 0, 0, 0] [] [1, 0] <| rZ ?_)
  try clear hv22 H a W
  rintro a W H ⟨hu5, -⟩
  refine hK4 _ _ ?_
  clear hK4
  refine wp_seq_k (fun K5 hK5 => ?_)
  refine rgP H (gsC hu5 gs0) (rO rfl (fun a W H _ => ob_byteOF4 (x := 2) (y := 2) (z := 0) (t := 127) H (wanted_none rfl) rfl rfl rfl rfl rfl) fun v28 => rI ?_)
  try clear hu5 H a W
  rintro a W H ⟨hv28, hu5, -⟩
  refine pl_R (R := SB) (F := TD (ofT u8 [2, 2, 0, 127]) (derE u8 [2, 2, 0, 127])) sb_st (ob_callS H (wanted_none rfl) rfl ⟨_, Tryd.func7, by kernel_rfl⟩ rfl (hof _ H.below hv28.bf (by simp))) rfl rfl rfl H ?_
  try clear H a W
  rintro _ a W ⟨x4, rfl, hx_⟩ hR_ H
  replace hv28 := Lasts.lasts (F := OF wt3.heap.size [] [2, 2, 0, 127] v28) _ _ hv28 hR_
  replace hu5 := BF.sb _ _ _ hu5 hR_
  obtain ⟨wt4, H, HKt4, hu8, hdk, hin, hoi, hof, hdx1, hdx2, hu1, hdx3, hu3, hdx4, hu5⟩ : ∃ ws, St 71 ws a W [(29, .tuple #[.agg (x4.cs), .int .i64 ((ofE u8 [2, 2, 0, 127] : Nat) : Int)]), (28, v28), (6, .int .i64 ((bytesE u8 (oidT [2, 5, 4, 3]) : Nat) : Int)), (5, u5), (4, .int .i64 ((bytesE u8 (intT (-128)) : Nat) : Int)), (3, u3), (2, .int .i64 ((bytesE u8 (intT 128) : Nat) : Int)), (1, u1), (0, .bool false)] [] ∧ Kn wt3 ws [] ∧ UV u8 ws ∧ DK u8 ws ∧ IntOk ws ∧ OidOk ws ∧ OfOk 7 u8 (derE u8) ws ∧ DX ws ws.heap.size (intT 128) x1 ∧ DX ws ws.heap.size (intT (-128)) x2 ∧ BF (bytesB u8 (intT 128)) u1 ws ∧ DX ws ws.heap.size (oidT [2, 5, 4, 3]) x3 ∧ BF (bytesB u8 (intT (-128))) u3 ws ∧ DX ws ws.heap.size (ofT u8 [2, 2, 0, 127]) x4 ∧ BF (bytesB u8 (oidT [2, 5, 4, 3])) u5 ws := ⟨W, H.rebase, H.kn, hu8.ext H.below, hdk.ext H.below, hin.ext H.below, hoi.ext H.below, hof.ext H.below, dx_on hdx1 H, dx_on hdx2 H, bf_old hu1 H, dx_on hdx3 H, bf_old hu3 H, hx_, hu5⟩
  refine rgO H (gsC hv28 gs0) (rS 3 rfl <| rA rfl rfl al_der fun g1 => rW [1] ⟨rfl, rfl⟩ rfl rfl rfl (info_der x4) (size_der DH.no x4) x4.one <| rS 1 rfl <| rK [1, 0, 0, 0, 0, 0, 0] [0] [] <| rZ0 ?_)
  try clear hv28 H a W
  intro a W H
  refine hK5 _ _ ?_
  clear hK5
  refine wp_seq_k (fun K6 hK6 => ?_)
  refine rgP H gs0 (rO rfl (fun a W H _ => ob_byteOF3 (x := 1) (y := 1) (z := 1) H (wanted_none rfl) rfl rfl rfl rfl) fun v33 => rI ?_)
  try clear H a W
  rintro a W H ⟨hv33, -⟩
  refine pl_R (R := SB) (F := TD (ofT u8 [1, 1, 1]) (derE u8 [1, 1, 1])) sb_st (ob_callS H (wanted_none rfl) rfl ⟨_, Tryd.func7, by kernel_rfl⟩ rfl (hof _ H.below hv33.bf (by simp))) rfl rfl rfl H ?_
  try clear H a W
  rintro _ a W ⟨x5, rfl, hx_⟩ hR_ H
  replace hv33 := Lasts.lasts (F := OF wt4.heap.size [] [1, 1, 1] v33) _ _ hv33 hR_
  obtain ⟨wt5, H, HKt5, hu8, hdk, hin, hoi, hof, hdx1, hdx2, hu1, hdx3, hu3, hdx4, hu5, hdx5⟩ : ∃ ws, St 71 ws a W [(34, .tuple #[.agg (x5.cs), .int .i64 ((ofE u8 [1, 1, 1] : Nat) : Int)]), (33, v33), (8, .int .i64 ((ofE u8 [2, 2, 0, 127] : Nat) : Int)), (6, .int .i64 ((bytesE u8 (oidT [2, 5, 4, 3]) : Nat) : Int)), (5, u5), (4, .int .i64 ((bytesE u8 (intT (-128)) : Nat) : Int)), (3, u3), (2, .int .i64 ((bytesE u8 (intT 128) : Nat) : Int)), (1, u1), (0, .bool false)] [] ∧ Kn wt4 ws [] ∧ UV u8 ws ∧ DK u8 ws ∧ IntOk ws ∧ OidOk ws ∧ OfOk 7 u8 (derE u8) ws ∧ DX ws ws.heap.size (intT 128) x1 ∧ DX ws ws.heap.size (intT (-128)) x2 ∧ BF (bytesB u8 (intT 128)) u1 ws ∧ DX ws ws.heap.size (oidT [2, 5, 4, 3]) x3 ∧ BF (bytesB u8 (intT (-128))) u3 ws ∧ DX ws ws.heap.size (ofT u8 [2, 2, 0, 127]) x4 ∧ BF (bytesB u8 (oidT [2, 5, 4, 3])) u5 ws ∧ DX ws ws.heap.size (ofT u8 [1, 1, 1]) x5 := ⟨W, H.rebase, H.kn, hu8.ext H.below, hdk.ext H.below, hin.ext H.below, hoi.ext H.below, hof.ext H.below, dx_on hdx1 H, dx_on hdx2 H, bf_old hu1 H, dx_on hdx3 H, bf_old hu3 H, dx_on hdx4 H, bf_old hu5 H, hx_⟩
  refine rgO H (gsC hv33 gs0) (rS 3 rfl <| rA rfl rfl al_der fun g2 => rW [1] ⟨rfl, rfl⟩ rfl rfl rfl (info_der x5) (size_der DH.no x5) x5.one <| rS 1 rfl <| rK [1, 0, 0, 0, 0, 0, 0] [0] [] <| rZ0 ?_)
  try clear hv33 H a W
  intro a W H
  refine hK6 _ _ ?_
  clear hK6
  refine sqR H gs0 fun Z_ z_ => rS 1 rfl <| rOV rfl (fun a W H _ => ob_strD H (wanted_none rfl) rfl rfl (bf_old hu1 H)) <| rV rfl (does_binOp rfl rfl rfl (sd_eql (l := (bytesB u8 (intT 128))) (m := [2, 2, 0, 128]) (decide_eq_true (kn_bytes u8).1.2) _ _)) <| rS 2 rfl <| rOV rfl (fun a W H _ => ob_strD H (wanted_some rfl rfl rfl rfl rfl) rfl rfl (bf_old hu3 H)) <| rV rfl (does_binOp rfl rfl rfl (sd_eql (l := (bytesB u8 (intT (-128)))) (m := [2, 1, 128]) (decide_eq_true (kn_bytes u8).2.1.2) _ _)) <| rS 3 rfl <| rOV rfl (fun a W H _ => ob_strD H (wanted_some rfl rfl rfl rfl rfl) rfl rfl (bf_old hu5 H)) <| rV rfl (does_binOp rfl rfl rfl (sd_eql (l := (bytesB u8 (oidT [2, 5, 4, 3]))) (m := [6, 3, 85, 4, 3]) (decide_eq_true (kn_bytes u8).2.2.2) _ _)) <| rS 3 rfl <| rV rfl (does_call rfl ⟨_, Tryd.func9, by kernel_rfl⟩ rfl (fun W hb => num_any _ W)) <| rS 1 rfl <| rV rfl (does_call rfl ⟨_, Tryd.func9, by kernel_rfl⟩ rfl (fun W hb => num_any _ W)) <| rV rfl (does_binOp rfl rfl rfl (zd_add_int (k := ((bytesE u8 (intT 128) : Nat) : Int)) (m := ((bytesE u8 (intT (-128)) : Nat) : Int)) (c := (((bytesE u8 (intT 128) : Nat) : Int) + ((bytesE u8 (intT (-128)) : Nat) : Int))) rfl (by omega) _ _)) <| rS 1 rfl <| rV rfl (does_call rfl ⟨_, Tryd.func9, by kernel_rfl⟩ rfl (fun W hb => num_any _ W)) <| rV rfl (does_binOp rfl rfl rfl (zd_add_int (k := (((bytesE u8 (intT 128) : Nat) : Int) + ((bytesE u8 (intT (-128)) : Nat) : Int))) (m := ((bytesE u8 (oidT [2, 5, 4, 3]) : Nat) : Int)) (c := ((((bytesE u8 (intT 128) : Nat) : Int) + ((bytesE u8 (intT (-128)) : Nat) : Int)) + ((bytesE u8 (oidT [2, 5, 4, 3]) : Nat) : Int))) rfl (by omega) _ _)) <| rV rfl (does_binOp rfl rfl rfl (zd_eql_int (k := ((((bytesE u8 (intT 128) : Nat) : Int) + ((bytesE u8 (intT (-128)) : Nat) : Int)) + ((bytesE u8 (oidT [2, 5, 4, 3]) : Nat) : Int))) (m := 0) (decide_eq_true (by omega)) _ _)) <| rS 3 rfl <| rV rfl (does_call rfl ⟨_, Tryd.func9, by kernel_rfl⟩ rfl (fun W hb => num_any _ W)) <| rV rfl (does_binOp rfl rfl rfl (zd_eql_int (k := ((ofE u8 [2, 2, 0, 127] : Nat) : Int)) (m := 4) (by rw [ofE_no (kn_of u8).1] <;> rfl) _ _)) <| rS 3 rfl <| rV rfl (does_call rfl ⟨_, Tryd.func9, by kernel_rfl⟩ rfl (fun W hb => num_any _ W)) <| rV rfl (does_binOp rfl rfl rfl (zd_eql_int (k := ((ofE u8 [1, 1, 1] : Nat) : Int)) (m := 4) (by rw [ofE_no (kn_of u8).2] <;> rfl) _ _)) <| rS 1 rfl <| rK [1, 1, 1, 1, 1, 1, 1, 1, 1, 1, 1, 1, 1, 1, 1, 1, 1, 1, 1, 1, 1, 1, 1, 1, 1, 1, 1, 1, 1, 1, 1, 1, 1, 1, 1, 1, 1, 1, 1, 1, 1, 1, 0] [] [] <| rS 1 rfl <| rK [1, 0, 0, 0, 0, 0, 0, 0, 0, 0, 0, 0, 0, 0, 0, 0, 0, 0, 0, 0, 0, 0, 0, 0, 0, 0, 0, 0, 0, 0, 0, 0, 0, 0, 0, 0, 0, 0, 0, 0, 0, 0, 0] [] [] <| rN0 z_ ?_
  try clear H a W
  intro a W H
  refine wp_ret ?_
  repeat (first | (with_reducible refine then_ret ?_) | (with_reducible refine blk_ret ?_))
  refine end_tmp (p := 0) rfl rfl H (fun hb => ?_)
  exact ⟨rfl, (HKt1.below.trans ((HKt2.below.trans ((HKt3.below.trans ((HKt4.below.trans ((HKt5.below.trans (hb.mono HKt5.below.size)).mono HKt4.below.size)).mono HKt3.below.size)).mono HKt2.below.size)).mono HKt1.below.size))⟩
theorem known_is {u8 : List UInt8 → Bool} {w : World} (hu8 : UV u8 w) (hdk : DK u8 w) (hin : IntOk w) (hoi : OidOk w) (hof : OfOk 7 u8 (derE u8) w) : HKn w := fun W hb => known_walk u8 W (hu8.ext hb) (hdk.ext hb) (hin.ext hb) (hoi.ext hb) (hof.ext hb)
end Go.Proofs.YtonhkclkddobhaaDoor
namespace Go.Proofs.YtonhkclkddobhaaDoor
set_option linter.unusedVariables false
set_option linter.unusedSimpArgs false
set_option maxRecDepth 100000
open Go Go.RowKit
theorem run_new0 (W : World) : (Instr.buildSlice 24 0 #[]).run Tryd.prog W = .ok (.slice (some ⟨W.heap.size, 0, none⟩) 0 0) (W.alloc (.cells #[] 36)) := by kernel_rfl
theorem bd_derA (k : Int) (A : Option Addr) (m c : Nat) (W : World) : (Instr.build 27 [(0, .int .i64 k), (5, .slice A m c)].toArray).run Tryd.prog W = .ok (.agg (DH.mk k false 0 SL.no [] (SL.mk A m c) SL.no).cs) W := by kernel_rfl
theorem sl_isnil {A : Option Addr} {m c : Nat} {b : Bool} (h : A.isNone = b) (p q : Operand) (W : World) : (do eqGuard .eql 24 p q (.slice A m c) (.slice none 0 0); binOp .eql 24 (.slice A m c) (.slice none 0 0) : Sem Value).run Tryd.prog W = .ok (.bool b) W := by
  subst h
  cases A <;> kernel_rfl
section
variable {n : Nat} {w0 w : World} {a : Act} {e : Env} {h : Hep} {Q : Exit → Act → World → Prop} {ops : Array Oper} {rest : List Oper} {o o2 o3 : Oper}
/-- A copy of whole numbers. -/
theorem pl_cloneN {d d2 d3 : Nat} {y : Operand} {v : Value} {l : List Nat} (ho : o.op = .buildSlice 24 0 #[]) (hg : o.guard = none) (hd : o.dst = some d) (ho2 : o2.op = .move y) (hg2 : o2.guard = none) (hd2 : o2.dst = some d2) (ho3 : o3.op = .call { callee := .builtin .append, args := #[.tmp d, .tmp d2], argTypes := #[24, 24] }) (hg3 : o3.guard = none) (hd3 : o3.dst = some d3)
    (hy : ∀ u, sev ((d, u) :: e) y = some v) (hv : NSF l v w) (hs : l.length ≤ 100000) (hl : Nat.blt d n = true) (hl2 : Nat.blt d2 n = true) (hl3 : Nat.blt d3 n = true) (hne : Nat.beq d d2 = false ∧ Nat.beq d2 d3 = false ∧ Nat.beq d d3 = false) (hf : e.all (fun p => !Nat.beq p.1 d) = true) (hf2 : e.all (fun p => !Nat.beq p.1 d2) = true) (hf3 : e.all (fun p => !Nat.beq p.1 d3) = true) (H : St n w0 a w e h)
    (next : ∀ A c t a w', OutD 36 1 t (.slice A l.length c) l.length (l.map nvD) → St n w0 a w' ((d3, .slice A l.length c) :: e) (h ++ t) → wpList Tryd.prog ops Q rest a w') : wpList Tryd.prog ops Q (o :: o2 :: o3 :: rest) a w :=
  wpList_plain hg fun K hK => by
    have e1 : (execOp a.eval o).run Tryd.prog w = .ok (.value (.slice (some ⟨w.heap.size, 0, none⟩) 0 0)) (w.alloc (.cells #[] 36)) := by
      simp [execOp, ho, run_new0, Result.andThen]
    have hb1 : Below w.heap.size w (w.alloc (.cells #[] 36)) := (Below.refl _ _).alloc (Nat.le_refl _) _
    have B1 : Blk (w.alloc (.cells #[] 36)) w.heap.size 36 #[] := Blk.new _ _ _
    have H1 : St n w0 (a.put (some d) (.slice (some ⟨w.heap.size, 0, none⟩) 0 0)) (w.alloc (.cells #[] 36)) ((d, .slice (some ⟨w.heap.size, 0, none⟩) 0 0) :: e) h := (H.call hb1).put _ hl hf
    have hv1 : NSF l v (w.alloc (.cells #[] 36)) := Lasts.lasts (F := NSF l v) _ _ hv hb1
    have hown : (w.alloc (.cells #[] 36)).ownsRow w.heap.size 36 1 (.slice (some ⟨w.heap.size, 0, none⟩) 0 0) 0 [] := ⟨rfl, .inr ⟨w.heap.size, 0, #[], rfl, Nat.le_refl _, B1, Nat.le_refl _, Nat.zero_le _, rfl, rfl⟩⟩
    unfold Oper.wp
    rw [e1]
    refine hK _ _ ?_
    rw [hd]
    generalize w.alloc (.cells #[] 36) = w1 at *
    refine wpList_plain hg2 fun K hK => ?_
    have e2 : (execOp (a.put (some d) (.slice (some ⟨w.heap.size, 0, none⟩) 0 0)).eval o2).run Tryd.prog w1 = .ok (.value v) w1 := by
      simp [execOp, ho2, H1.ev (hy _)]
    unfold Oper.wp
    rw [e2]
    refine hK _ _ ?_
    rw [hd2]
    have H2 := H1.put (d := d2) v hl2 (by simp only [List.all_cons, hf2, Bool.and_true, Bool.not_eq_true']; exact hne.1)
    refine wpList_plain hg3 fun K hK => ?_
    obtain ⟨A, k, c, rfl, hr⟩ := hv1
    have hk := hr.len
    subst hk
    have hi := u64_infoD
    cases hq : Tryd.prog.info? 36 with
    | none => rw [hq] at hi; cases hi
    | some i =>
      rw [hq] at hi
      simp only [Option.map_some, Option.some.injEq, Prod.mk.injEq] at hi
      obtain ⟨hz0, hsz, hby⟩ := hi
      obtain ⟨v', w', h1, hown2, h3⟩ : ∃ v' w', (Builtin.append_ #[24, 24] o3.type #[.slice (some ⟨w.heap.size, 0, none⟩) 0 0, .slice A l.length c]).run Tryd.prog w1 = .ok v' w' ∧ w'.ownsRow w.heap.size 36 1 v' l.length (l.map nvD) ∧ Below w.heap.size w w' := by
        rcases A with _ | ad
        · have h0 := hr.nil_ rfl
          have h1 := hr.cap
          obtain rfl : l = [] := List.eq_nil_of_length_eq_zero (by omega)
          subst h0
          exact ⟨_, w1, run_append_owned_none (P := Tryd.prog) w1 w.heap.size 24 o3.type 36 i 1 Tryd.underlying24 hq _ _ _ hown, hown, hb1⟩
        · obtain ⟨v', w', h1, h2, h3, _, _⟩ := run_append_own_at (P := Tryd.prog) w1 w.heap.size 24 o3.type 36 i _ 1 8 Tryd.underlying24 hq hz0 hsz hby rfl (by omega) _ _ _ hown ad l.length c (l.map nvD) (by simp) (fun j y hy => by
            rw [List.getElem?_map] at hy
            obtain ⟨z, hz, rfl⟩ := Option.map_eq_some_iff.1 hy
            obtain ⟨b, of, e1, _, hcc⟩ := hr.at_ (by have := (List.getElem?_eq_some_iff.1 hz).1; omega)
            injection e1 with e1
            subst e1
            rw [Addr.add_lit]
            exact hcc j z hz) (fun y hy => by
            obtain ⟨z, _, rfl⟩ := List.mem_map.1 hy
            rfl) (by simp only [maxLen]; omega) (by omega) hb1.size
          exact ⟨v', w', h1, by simpa using h2, hb1.grown h3 hb1.size (fun j hj => by
            injection hj with hj
            rw [← hj]
            exact Nat.le_refl _)⟩
      obtain ⟨t, ht, H'⟩ := own_told (B := 0) H h3 hown2
      obtain ⟨A', c', rfl, _⟩ := ht.form
      have x1 := H2.ev (x := .tmp d) (v := .slice (some ⟨w.heap.size, 0, none⟩) 0 0) (by
        have h_ : Nat.beq d2 d = false := by
          cases hq_ : Nat.beq d2 d with
          | false => rfl
          | true =>
            have e_ := Nat.eq_of_beq_eq_true hq_
            have h1_ := hne.1
            rw [e_, Nat.beq_refl] at h1_
            cases h1_
        simp [sev, look, h_])
      have x2 := H2.ev (x := .tmp d2) (v := .slice A l.length c) (by simp [sev, look])
      unfold Oper.wp
      simp [execOp, ho3, resolve, invoke, builtin, x1, x2, h1, Result.andThen]
      refine hK _ _ (next A' c' t _ _ ht ?_)
      rw [hd3]
      have H3 : St n w0 _ w' ((d2, .slice A l.length c) :: (d, .slice (some ⟨w.heap.size, 0, none⟩) 0 0) :: e) (h ++ t) := (H'.put (d := d) (.slice (some ⟨w.heap.size, 0, none⟩) 0 0) hl hf).put (d := d2) (.slice A l.length c) hl2 (by simp only [List.all_cons, hf2, Bool.and_true, Bool.not_eq_true']; exact hne.1)
      have H4 := H3.put (d := d3) (.slice A' l.length c') hl3 (by simp only [List.all_cons, hf3, Bool.and_true, Bool.and_eq_true, Bool.not_eq_true']; exact ⟨hne.2.1, hne.2.2⟩)
      exact H4.sub (fun p hp => by
        rcases List.mem_cons.1 hp with rfl | hp
        · exact List.mem_cons_self
        · exact List.mem_cons_of_mem _ (List.mem_cons_of_mem _ (List.mem_cons_of_mem _ hp))) (fun _ h => h) H4.apart
end
attribute [local irreducible] bvs byteD rb
set_option maxHeartbeats 4000000 in
theorem derint_walk (n : Int) (w : World) (hn : -9223372036854775808 ≤ n ∧ n < 9223372036854775808) : Calls Tryd.prog 19 #[.int .i64 n] w (fun rr w' => ∃ t, rr = .returned t ∧ Below w.heap.size w w' ∧ DF (intT n) t w') := by
  refine calls_st (vs := [.int .i64 n]) 5 Tryd.func19 rfl Tryd.ntmps19 rfl (fun a W H => ?_)
  replace H : St 5 w a W [(0, .int .i64 n)] [] := H
  refine sqR H gs0 fun Z_ z_ => rA rfl rfl al_der fun g1 => rN0 z_ ?_
  try clear H a W
  intro a W H
  refine sqR H gs0 fun Z_ z_ => rS 1 rfl <| rV rfl (does_build rfl rfl (bd_derKN 2 n)) <| rW [1] ⟨rfl, rfl⟩ rfl rfl rfl (info_der (DH.mk 2 false n SL.no [] SL.no SL.no)) (size_der DH.no (DH.mk 2 false n SL.no [] SL.no SL.no)) (DH.mk 2 false n SL.no [] SL.no SL.no).one <| rK [0, 0, 1, 0] [] [] <| rN0 z_ ?_
  try clear H a W
  intro a W H
  refine wp_ret ?_
  repeat (first | (with_reducible refine then_ret ?_) | (with_reducible refine blk_ret ?_))
  refine end_cell (p := 2) rfl rfl (k := 0) rfl Tryd.underlying27 rfl (info_der _) H (fun hb => ?_)
  exact ⟨_, rfl, hb, (DH.mk 2 false n SL.no [] SL.no SL.no), rfl, (dc_flat (C := fun _ _ _ => False) (by decide) hn (by decide)).dx (fun _ _ _ h => h.elim)⟩
set_option maxHeartbeats 4000000 in
theorem cloneU_walk {Aa : Option Addr} {na ca : Nat} {la : List Nat} (w : World) (hnn : NS w w.heap.size Aa na ca la) (hla : la.length ≤ 100000) : Calls Tryd.prog 18 #[.slice Aa na ca] w (fun rr w' => ∃ v, rr = .returned v ∧ Below w.heap.size w w' ∧ w'.ownsRow w.heap.size 36 1 v la.length (la.map nvD)) := by
  have hns : NSF la (.slice Aa na ca) w := ⟨_, _, _, rfl, hnn⟩
  refine calls_st (vs := [.slice Aa na ca]) 8 Tryd.func18 rfl Tryd.ntmps18 rfl (fun a W H => ?_)
  replace H : St 8 w a W [(0, .slice Aa na ca)] [] := H
  refine sqR H gs0 fun Z_ z_ => rS 1 rfl <| rN0 z_ ?_
  try clear H a W
  intro a W H
  refine wp_seq_k (fun K2 hK2 => ?_)
  refine sqR H gs0 fun Z_ z_ => rS 1 rfl <| rV rfl (does_binOp rfl rfl rfl (sl_isnil rfl _ _)) <| rK [1, 0] [] [] <| rN0 z_ ?_
  try clear H a W
  intro a W H
  cases hq1 : Aa.isNone with
  | true =>
    rw [hq1] at H
    refine wp_cond_true (H.ev rfl) ?_
    refine sqR H gs0 fun Z_ z_ => rK [1, 0] [] [] <| rS 1 rfl <| rK [1, 0] [] [] <| rN0 z_ ?_
    try clear H a W
    intro a W H
    refine wp_ret ?_
    repeat (first | (with_reducible refine then_ret ?_) | (with_reducible refine blk_ret ?_))
    refine end_tmp (p := 2) rfl rfl H (fun hb => ?_)
    have hA_ : Aa = none := Option.isNone_iff_eq_none.1 hq1
    have h0_ : la = [] := List.eq_nil_of_length_eq_zero (by have := hnn.nil_ hA_; have := hnn.cap; have := hnn.len; omega)
    refine ⟨_, rfl, hb, ?_⟩
    rw [h0_]
    exact World.ownsRow_nil _ _ _ _
  | false =>
    rw [hq1] at H
    refine wp_cond_false (H.ev rfl) ?_
    refine wp_skip ?_
    refine hK2 _ _ ?_
    clear hK2
    refine wp_seq_k (fun K5 hK5 => ?_)
    refine rg_plain ?_
    refine pl_cloneN rfl rfl rfl rfl rfl rfl rfl rfl rfl (fun _ => rfl) (Lasts.lasts (F := NSF la (.slice Aa na ca)) _ _ hns (by have hb_ := H.below; exact hb_)) (by omega) rfl rfl rfl ⟨rfl, rfl, rfl⟩ rfl rfl rfl H ?_
    try clear H a W
    intro A8 c8 t8 a W hO H
    replace H : St 8 w a W [(7, .slice A8 la.length c8), (4, .bool false), (2, .slice none 0 0), (0, .slice Aa na ca)] (t8) := H
    refine rgO H gs0 (rK [1, 1, 0] [] [] <| rS 1 rfl <| rK [1, 0, 0, 0] [] [] <| rZ0 ?_)
    try clear H a W
    intro a W H
    refine hK5 _ _ ?_
    clear hK5
    refine wp_ret ?_
    repeat (first | (with_reducible refine then_ret ?_) | (with_reducible refine blk_ret ?_))
    refine end_tmp (p := 2) rfl rfl H (fun hb => ?_)
    exact ⟨_, rfl, hb, hO.owns (h := []) H⟩
theorem cloneU_any {v : Value} {l : List Nat} (w : World) (hv : NSF l v w) (hl : l.length ≤ 100000) : Calls Tryd.prog 18 #[v] w (fun rr w' => ∃ v, rr = .returned v ∧ Below w.heap.size w w' ∧ w'.ownsRow w.heap.size 36 1 v l.length (l.map nvD)) := by
  obtain ⟨A, n, c, rfl, h⟩ := hv
  exact cloneU_walk w h hl
set_option maxHeartbeats 4000000 in
theorem deroid_walk {v0 : Value} {la : List Nat} (w : World) (hns : NSF la v0 w) (hla : la.length ≤ 100000) : Calls Tryd.prog 8 #[v0] w (fun rr w' => ∃ t, rr = .returned t ∧ Below w.heap.size w w' ∧ DF (oidT la) t w') := by
  have hlt : ∀ x ∈ la, x < 18446744073709551616 := by obtain ⟨_, _, _, _, h_⟩ := hns; exact h_.lt
  refine calls_st (vs := [v0]) 6 Tryd.func8 rfl Tryd.ntmps8 rfl (fun a W H => ?_)
  replace H : St 6 w a W [(0, v0)] [] := H
  refine sqR H gs0 fun Z_ z_ => rA rfl rfl al_der fun g1 => rN0 z_ ?_
  try clear H a W
  intro a W H
  refine wp_seq_k (fun K2 hK2 => ?_)
  refine rgP H gs0 (rS 1 rfl <| rI0 ?_)
  try clear H a W
  intro a W H
  refine pl_callOwn rfl ⟨_, Tryd.func18, by kernel_rfl⟩ rfl (cloneU_any _ (Lasts.lasts (F := NSF la v0) _ _ hns H.below) hla) rfl rfl rfl rfl H ?_
  try clear H a W
  intro v9 t9 a W hO H
  obtain ⟨A9, c9, rfl, hc9_⟩ := hO.form
  replace H : St 6 w a W [(4, .slice A9 la.length c9), (3, v0), (2, .pointer (some ⟨g1, 0, none⟩)), (0, v0)] ((g1, 27, DH.no.cs) :: t9) := H
  refine rgO H gs0 (rV rfl (does_build rfl rfl (bd_derA 5 _ _ _)) <| rW [1] ⟨rfl, rfl⟩ rfl rfl rfl (info_der (DH.mk 5 false 0 SL.no [] (SL.mk A9 la.length c9) SL.no)) (size_der DH.no (DH.mk 5 false 0 SL.no [] (SL.mk A9 la.length c9) SL.no)) (DH.mk 5 false 0 SL.no [] (SL.mk A9 la.length c9) SL.no).one <| rK [0, 0, 0, 1, 0] [] [] <| rZ0 ?_)
  try clear H a W
  intro a W H
  refine hK2 _ _ ?_
  clear hK2
  refine wp_ret ?_
  repeat (first | (with_reducible refine then_ret ?_) | (with_reducible refine blk_ret ?_))
  refine end_cell (p := 2) rfl rfl (k := 0) rfl Tryd.underlying27 rfl (info_der _) H (fun hb => ?_)
  exact ⟨_, rfl, hb, (DH.mk 5 false 0 SL.no [] (SL.mk A9 la.length c9) SL.no), rfl, ((dc_A (by decide) (by decide) hlt (by omega) hO).dy fun g_ k_ v_ hc_ => TN.plain (fun p hp => H.heap p (by simp [hp])) hc_).dx⟩
theorem int_ok (w : World) : IntOk w := fun W hb n hn => derint_walk n W hn
theorem oid_ok (w : World) : OidOk w := fun W hb {v l} hv hl => deroid_walk W hv (by omega)
theorem dof_is {u8 : List UInt8 → Bool} {w : World} (hu8 : UV u8 w) (hpg : PGt w) : OfOk 7 u8 (derE u8) w := fun W hb {v l} hv hl => by
  obtain ⟨A, n, c, rfl, h⟩ := hv
  exact derof_walk u8 W (hu8.ext hb) (hpg.ext hb) ⟨_, _, _, rfl, h⟩ h.len
theorem dk_is {u8 : List UInt8 → Bool} {w : World} (hu8 : UV u8 w) (hpg : PGt w) : DK u8 w := ⟨fun W hb {v k n f a} hv _ => by
  obtain ⟨x, rfl, hx⟩ := hv
  refine derbytes_walk u8 W (hu8.ext hb) (hpg.ext hb) (DY.leaf hx) ?_ ⟨Nat.zero_le _, Nat.zero_le _, fun T hT => by cases hT⟩
  rw [nodes_eq]
  show 1 + nodesL [] ≤ 1000000
  rw [nodesL_nil]
  decide⟩
theorem kn_is {u8 : List UInt8 → Bool} {w : World} (hu8 : UV u8 w) (hpg : PGt w) : HKn w := known_is hu8 (dk_is hu8 hpg) (int_ok w) (oid_ok w) (dof_is hu8 hpg)
end Go.Proofs.YtonhkclkddobhaaDoor
namespace Go.Proofs.YtonhkclkddobhaaDoor
set_option linter.unusedVariables false
set_option maxRecDepth 100000
open Go Go.RowKit Go.Lib
open Go.ChangeShapes Go.WideShapes Go.ChangeAt
def laysValid_ren : Go.Shelf.Ren := ⟨fun | 196 => 46 | 259 => 52 | n => n, fun | 9 => 9 | 4 => 4 | 3 => 3 | 5 => 5 | 12 => 12 | 119 => 93 | 0 => 0 | 46 => 79 | 139 => 96 | 138 => 95 | 53 => 36 | n => n, fun | 3 => 1 | 4 => 2 | n => n⟩
theorem laysValid : Go.Proofs.Lays.n196 Tryd.prog laysValid_ren := {
  mixed := by kernel_rfl
  f196 := Tryd.func46.trans (congrArg some (by kernel_rfl))
  f259 := Tryd.func52.trans (congrArg some (by kernel_rfl))
  t0 := Tryd.underlying0
  a0 := Tryd.isAgg0
  z0 := Tryd.sizeOf0
  v0 := Tryd.zeroValue0
  t3 := Tryd.underlying3
  a3 := Tryd.isAgg3
  z3 := Tryd.sizeOf3
  v3 := Tryd.zeroValue3
  t4 := Tryd.underlying4
  a4 := Tryd.isAgg4
  z4 := Tryd.sizeOf4
  v4 := Tryd.zeroValue4
  t5 := Tryd.underlying5
  a5 := Tryd.isAgg5
  z5 := Tryd.sizeOf5
  v5 := Tryd.zeroValue5
  t9 := Tryd.underlying9
  a9 := Tryd.isAgg9
  z9 := Tryd.sizeOf9
  v9 := Tryd.zeroValue9
  t12 := Tryd.underlying12
  a12 := Tryd.isAgg12
  z12 := Tryd.sizeOf12
  v12 := Tryd.zeroValue12
  t46 := Tryd.underlying79
  a46 := Tryd.isAgg79
  z46 := Tryd.sizeOf79
  v46 := Tryd.zeroValue79
  t53 := Tryd.underlying36
  a53 := Tryd.isAgg36
  z53 := Tryd.sizeOf36
  v53 := Tryd.zeroValue36
  t119 := Tryd.underlying93
  a119 := Tryd.isAgg93
  z119 := Tryd.sizeOf93
  t138 := Tryd.underlying95
  a138 := Tryd.isAgg95
  z138 := Tryd.sizeOf95
  v138 := Tryd.zeroValue95
  t139 := Tryd.underlying96
  a139 := Tryd.isAgg96
  z139 := Tryd.sizeOf96
  v139 := Tryd.zeroValue96
  g3 := by kernel_rfl
  g4 := by kernel_rfl }
def V8 (l : List UInt8) : Bool := Lib.validD l
theorem uv_of {w : World} (h3 : VarReads Tryd.prog w "unicode/utf8.first" firstData) (h4 : VarReads Tryd.prog w "unicode/utf8.acceptRanges" acceptData) : UV V8 w := fun W hb l hl => by
  have hT := utf8Tabs_of_readsT (ρ := laysValid_ren) (U8Types.of196 laysValid) ⟨by kernel_rfl, by kernel_rfl, by kernel_rfl, by kernel_rfl, by kernel_rfl, by kernel_rfl, by kernel_rfl⟩ h3 h4
  have h := Any.utf8_ValidString laysValid (strB l) W (by rw [strB_size]; omega) (Utf8Tabs_below hT hb)
  rw [strB_data] at h
  exact h
theorem own : ownKnob Tryd.prog.godebug = none := by kernel_rfl
def laidP : List (String × DataW Unit) := [("unicode/utf8.acceptRanges", Rows.laid_unicode_utf8_acceptRanges), ("escutcheon/der.tags", Rows.laid_escutcheon_der_tags), ("unicode/utf8.first", Rows.laid_unicode_utf8_first)]
theorem door_met (os : Os) (args : Array Value) : laidMetH Tryd.prog laidP ((World.laidAll Tryd.prog os laidP).forCall (fun _ _ => 0) ⟨#[], args, []⟩).memory := by
  rw [MakeChecks.laidMetH_plain _ _ _ (by kernel_rfl)]
  exact laidMet_laidAll _ (by kernel_rfl) (by kernel_rfl)
theorem laid_first : Rows.laid_unicode_utf8_first = firstData := by kernel_rfl
theorem laid_accept : (Rows.laid_unicode_utf8_acceptRanges : DataW Unit) = acceptData := by kernel_rfl
/-- What the laws ask of the world. -/
structure PG (w : World) : Prop where
  u8 : UV V8 w
  tags : PGt w
theorem cells_u8T : Tryd.prog.cellsOf 5 = 1 := by kernel_rfl
theorem cells_a11 : Tryd.prog.cellsOf 78 = 11 := by kernel_rfl
theorem und_u8T : Tryd.prog.underlying 5 = some (.int .u8) := by kernel_rfl
theorem und_a11 : Tryd.prog.underlying 78 = some (.array 11 5) := by kernel_rfl
def litsT (L : List Nat) : List (DataW Unit) := L.map fun x => .lit (.int .u8 ((x : Nat) : Int))
theorem tags_cells {W : World} {fuel : Nat} {cs : List Value} {L : List Nat} {p : List MemPlace} {held : Bool} (hd : DataW.trod (fun _ => ()) Tryd.prog W 0 (fun _ => true) held fuel 78 cs = some (.agg (litsT L), p)) (hk : 11 = L.length) : ∀ i x : Nat, L[i]? = some x → cs[i]? = some (.int .u8 (x : Int)) := by
  obtain ⟨xs, m1, rfl, hx1, hlen, hn3, hel⟩ := DataW.trod_array und_a11 hd
  simp only [Prod.mk.injEq, DataW.agg.injEq] at hx1
  intro i x hx
  have hi : i < 11 := by rw [hk]; exact (List.getElem?_eq_some_iff.1 hx).1
  have h1 := hel i hi
  rw [cells_u8T, Nat.mul_one] at h1
  have hxi : xs[i]? = some xs[i] := List.getElem?_eq_getElem (by omega)
  rw [hxi] at h1
  obtain ⟨z, e1, e2, e3⟩ := DataW.trod_int und_u8T h1
  have hl : i < cs.length := by rw [hlen, cells_a11]; omega
  have hd : (cs.drop i).take 1 = [cs[i]] := by
    rw [List.drop_eq_getElem_cons hl]
    rfl
  have h2 : cs[i]? = some (.int .u8 z) := by
    have : (cs.drop i).take 1 = [.int .u8 z] := e1
    rw [hd] at this
    rw [List.getElem?_eq_getElem hl]
    simpa using this
  have h3 : (xs.map (·.1))[i]? = some (.lit (.int .u8 z)) := by
    rw [List.getElem?_map, hxi]
    simp [e2]
  rw [← hx1.1, litsT, List.getElem?_map, hx] at h3
  injection h3 with h3
  injection h3 with h3
  injection h3 with h3 h4
  rw [h2, h4]
theorem gT : Tryd.prog.globalNamed "escutcheon/der.tags" = some 0 := by kernel_rfl
theorem tT : (Tryd.prog.globals[0]?).map (·.type) = some 78 := by kernel_rfl
theorem lT : Rows.laid_escutcheon_der_tags = .agg (litsT [0, 1, 2, 3, 4, 6, 12, 48, 160, 49, 24]) := by kernel_rfl
theorem tab_words : ∀ i, i < 11 → ([0, 1, 2, 3, 4, 6, 12, 48, 160, 49, 24] : List Nat)[i]? = some (tabQ i) := by decide +kernel
theorem pg_of_laid {W : World} (h : laidMetH Tryd.prog laidP W) : PG W := by
  rw [MakeChecks.laidMetH_plain _ _ _ (by kernel_rfl)] at h
  have h3 := Lib.laidMet.reads h (n := "unicode/utf8.first") (d := Rows.laid_unicode_utf8_first) (by simp [laidP])
  have h4 := Lib.laidMet.reads h (n := "unicode/utf8.acceptRanges") (d := Rows.laid_unicode_utf8_acceptRanges) (by simp [laidP])
  rw [laid_first] at h3
  rw [laid_accept] at h4
  obtain ⟨ps, ⟨g0, t0, cs0, f0, p0, q0, hg0, ht0, hv0, hd0, ⟨g1, t1, cs1, f1, p1, q1, hg1, ht1, hv1, hd1, _⟩, _⟩, _, _⟩ := h
  obtain rfl := Option.some.inj (gT.symm.trans hg1)
  obtain rfl := Option.some.inj (tT.symm.trans ht1)
  rw [lT] at hd1
  have c1 := tags_cells hd1 rfl
  have s1 : ∀ i, i < 11 → W.cell? ⟨0, i, none⟩ = some (.int .u8 ((tabQ i : Nat) : Int)) := fun i hi => by
    rw [World.var?_cell gT hv1 i, ← Array.getElem?_toList, c1 i _ (tab_words i hi)]
  exact ⟨uv_of h3 h4, ⟨block_lt_of_cell (s1 0 (by decide)), s1⟩⟩
end Go.Proofs.YtonhkclkddobhaaDoor
namespace Go.Proofs.YtonhkclkddobhaaDoor
set_option linter.unusedVariables false
set_option linter.unusedSimpArgs false
set_option maxRecDepth 100000
open Go Go.RowKit
/-- Entries: the key, the value, when it was born. -/
abbrev EntJ := Key × Value × Nat
def entJ (x : EntJ) : MapEntry := { key := keyV x.1, val := x.2.1, born := x.2.2 }
def entsJ (l : List EntJ) : Array MapEntry := (l.map entJ).toArray
/-- Where a key stands, and its value. -/
def findJ (κ : Key) : List EntJ → Nat → Option (Nat × Value)
  | [], _ => none
  | x :: r, i => if κ = x.1 then some (i, x.2.1) else findJ κ r (i + 1)
theorem findJ_none {κ : Key} : ∀ {l : List EntJ} {i : Nat}, (∀ x ∈ l, x.1 ≠ κ) → findJ κ l i = none
  | [], _, _ => rfl
  | x :: r, i, h => by
    unfold findJ
    rw [if_neg fun e => h x List.mem_cons_self e.symm]
    exact findJ_none fun y hy => h y (List.mem_cons_of_mem _ hy)
theorem findJ_last {κ : Key} {v : Value} {c : Nat} : ∀ {l : List EntJ} {i : Nat}, (∀ x ∈ l, x.1 ≠ κ) → findJ κ (l ++ [(κ, v, c)]) i = some (i + l.length, v)
  | [], i, _ => by
    show findJ κ [(κ, v, c)] i = _
    unfold findJ
    rw [if_pos rfl]
    rfl
  | x :: r, i, h => by
    rw [List.cons_append]
    unfold findJ
    rw [if_neg fun e => h x List.mem_cons_self e.symm, findJ_last fun y hy => h y (List.mem_cons_of_mem _ hy), List.length_cons]
    congr 2
    omega
theorem run_findJ {w : World} {κ : Key} (h : okK w κ) : ∀ (l : List EntJ) (i : Nat), (∀ x ∈ l, okK w x.1) → (Instr.findAsking 51 (keyV κ) (l.map entJ) i).run Tryd.prog w = .ok (findJ κ l i) w
  | [], i, _ => rfl
  | x :: r, i, hE => by
    have hx := run_eqK h (hE x List.mem_cons_self)
    have hr := run_findJ h r (i + 1) fun y hy => hE y (List.mem_cons_of_mem _ hy)
    rw [List.map_cons]
    unfold Instr.findAsking findJ
    simp only [Sem.run_bind]
    rw [show (entJ x).key = keyV x.1 from rfl, hx]
    simp only [Result.andThen_ok]
    by_cases e : κ = x.1
    · rw [if_pos e, decide_eq_true e]
      simp [entJ]
    · rw [if_neg e, decide_eq_false e]
      simpa using hr
section
variable {w : World} {b c : Nat} {κ : Key} {l : List EntJ}
theorem key_runsJ (h : okK w κ) (hE : ∀ x ∈ l, okK w x.1) : (∀ e m, (Instr.checkKey e (m + 2) 51 (keyV κ)).run Tryd.prog w = .ok () w) ∧ (Instr.findKey 51 (keyV κ) (entsJ l).toList).run Tryd.prog w = .ok (findJ κ l 0) w := by
  refine ⟨(key_runs (E := []) h (fun x hx => by cases hx)).1, ?_⟩
  rw [run_findKey_eq w (by kernel_rfl)]
  exact run_findJ h l 0 hE
theorem run_lookJ {mt et : TypeId} (hm : Tryd.prog.underlying mt = some (.map 51 et)) (hb : Blk w b (.map (entsJ l) c) #[]) (h : okK w κ) (hE : ∀ x ∈ l, okK w x.1) (hno : ∀ x ∈ l, x.1 ≠ κ) {z : Value} (hz : (zeroValue et).run Tryd.prog w = .ok z w) :
    (Instr.lookup mt (.map (some b)) (keyV κ) true).run Tryd.prog w = .ok (.tuple #[z, .bool false]) w := by
  obtain ⟨hc, hf⟩ := key_runsJ h hE
  rw [findJ_none hno] at hf
  unfold Instr.lookup
  simp only [Sem.run_bind, run_underlying hm, Result.andThen_ok, MapKept.run_getObj_map hb.2, Sem.run_pure]
  rw [hc _ 9998]
  simp only [Result.andThen_ok, hf]
  simp [hz, Result.andThen]
theorem run_setJ {mt et : TypeId} (hm : Tryd.prog.underlying mt = some (.map 51 et)) (hb : Blk w b (.map (entsJ l) c) #[]) (h : okK w κ) (hE : ∀ x ∈ l, okK w x.1) (hno : ∀ x ∈ l, x.1 ≠ κ) (v : Value) :
    (Instr.mapUpdate mt (.map (some b)) (keyV κ) v).run Tryd.prog w = .ok () { w with heap := w.heap.setIfInBounds b (.map (entsJ (l ++ [(κ, v, c)])) (c + 1)) } := by
  obtain ⟨hc, hf⟩ := key_runsJ h hE
  rw [findJ_none hno] at hf
  have e : (entsJ l).push { key := keyV κ, val := v, born := c } = entsJ (l ++ [(κ, v, c)]) := by
    apply Array.toList_inj.1
    simp [entsJ, entJ]
  unfold Instr.mapUpdate
  simp only [Sem.run_bind, run_underlying hm, Result.andThen_ok, MapKept.run_getObj_map hb.2]
  rw [hc _ 9998]
  simp only [Result.andThen_ok, hf, e, MapKept.run_setObj_map _ hb.2]
theorem run_delJ {mt et ty : TypeId} {v : Value} {d : Nat} (hm : Tryd.prog.underlying mt = some (.map 51 et)) (hb : Blk w b (.map (entsJ (l ++ [(κ, v, d)])) c) #[]) (h : okK w κ) (hE : ∀ x ∈ l, okK w x.1) (hno : ∀ x ∈ l, x.1 ≠ κ) :
    (Builtin.delete_ #[mt, 51] ty #[.map (some b), keyV κ]).run Tryd.prog w = .ok (.tuple #[]) { w with heap := w.heap.setIfInBounds b (.map (entsJ l) c) } := by
  obtain ⟨hc, hf⟩ := key_runsJ (l := l ++ [(κ, v, d)]) h (fun x hx => by
    rcases List.mem_append.1 hx with hx | hx
    · exact hE x hx
    · rw [List.mem_singleton.1 hx]; exact h)
  rw [findJ_last hno] at hf
  have e : (entsJ (l ++ [(κ, v, d)])).eraseIdxIfInBounds (0 + l.length) = entsJ l := by
    rw [Nat.zero_add]
    unfold entsJ
    apply Array.toList_inj.1
    rw [Array.eraseIdxIfInBounds]
    simp
    rw [List.eraseIdx_append_of_length_le (by simp)]
    simp
  unfold Builtin.delete_
  simp only [List.getElem?_toArray, List.getElem?_cons_zero, List.getElem?_cons_succ, Sem.run_bind, run_underlying hm, Result.andThen_ok, MapKept.run_getObj_map hb.2]
  rw [hc _ 9998]
  rw [Nat.zero_add] at e hf
  simp [hf, e, MapKept.run_setObj_map _ hb.2, Result.andThen]
/-- A key that isn't there. -/
theorem run_delNoJ {mt et ty : TypeId} (hm : Tryd.prog.underlying mt = some (.map 51 et)) (hb : Blk w b (.map (entsJ l) c) #[]) (h : okK w κ) (hE : ∀ x ∈ l, okK w x.1) (hno : ∀ x ∈ l, x.1 ≠ κ) :
    (Builtin.delete_ #[mt, 51] ty #[.map (some b), keyV κ]).run Tryd.prog w = .ok (.tuple #[]) { w with heap := w.heap.setIfInBounds b (.map (entsJ l) c) } := by
  obtain ⟨hc, hf⟩ := key_runsJ h hE
  rw [findJ_none hno] at hf
  unfold Builtin.delete_
  simp only [List.getElem?_toArray, List.getElem?_cons_zero, List.getElem?_cons_succ, Sem.run_bind, run_underlying hm, Result.andThen_ok, MapKept.run_getObj_map hb.2]
  rw [hc _ 9998]
  simp [hf, MapKept.run_setObj_map _ hb.2, Result.andThen]
end
end Go.Proofs.YtonhkclkddobhaaDoor
namespace Go.Proofs.YtonhkclkddobhaaDoor
open Go
/-- The loop's body is about to begin. -/
def LoopAt (P : Program) (c : Code) (Q : Exit → Act → World → Prop) (a : Act) (w : World) : Prop :=
  ∀ (b : Frame) (k : List Go.Item) (cs : List Frame), ∃ e a' w', Q e a' w' ∧ Arrives P (lone (b.at a (.code c :: .inLoop c :: k)) cs w) b k cs e a' w'
section
variable {P : Program} {c : Code} {Q : Exit → Act → World → Prop} {a : Act} {w : World}
theorem loopAt_wp (h : LoopAt P c Q a w) : (Code.loop c).wp P Q a w := by
  intro b k cs
  obtain ⟨e, a', w', hq, harr⟩ := h b k cs
  exact ⟨e, a', w', hq, .of_steps (.one step_loop) harr⟩
theorem loopAt_round (h : c.wp P (Exit.then (fun a' w' => LoopAt P c Q a' w') Q) a w) : LoopAt P c Q a w := by
  intro b k cs
  obtain ⟨e, a₁, w₁, hq, harr⟩ := h b (.inLoop c :: k) cs
  cases e with
  | normal =>
    obtain ⟨e₂, a₂, w₂, hq₂, harr₂⟩ := hq b k cs
    exact ⟨e₂, a₂, w₂, hq₂, .of_steps (Steps.trans harr (.one step_inLoop)) harr₂⟩
  | exit id => exact ⟨_, a₁, w₁, hq, .pass (x := Go.Item.inLoop c) rfl (fun _ _ => .inl (by simp)) harr⟩
  | goto l => exact ⟨_, a₁, w₁, hq, .pass (x := Go.Item.inLoop c) rfl (fun _ _ => .inl (by simp)) harr⟩
  | ret => exact ⟨_, a₁, w₁, hq, .pass (x := Go.Item.inLoop c) rfl (fun _ _ => .inl (by simp)) harr⟩
  | panic ch => exact ⟨_, a₁, w₁, hq, .pass (x := Go.Item.inLoop c) rfl (fun _ _ => .inl (by simp)) harr⟩
  | outgrown => exact ⟨_, a₁, w₁, hq, .pass (x := Go.Item.inLoop c) rfl (fun _ _ => .inl (by simp)) harr⟩
end
end Go.Proofs.YtonhkclkddobhaaDoor
namespace Go.Proofs.YtonhkclkddobhaaDoor
set_option linter.unusedVariables false
set_option linter.unusedSimpArgs false
set_option maxRecDepth 100000
open Go Go.RowKit
/-- A list that is being copied: whose copy it is, the copy and its row, its values as they are, where it goes on. -/
structure Fc where
  κ : Key
  v : Value
  hs : List DH
  at_ : Nat
  t : Hep
def Fc.cs (f : Fc) : List Value := [.pointer (keyP f.κ), .int .i64 (f.κ.2 : Int), f.v, .int .i64 (f.at_ : Int)]
def fcV (fs : List Fc) : List Value := fs.flatMap Fc.cs
theorem fcV_snoc (fs : List Fc) (f : Fc) : fcV (fs ++ [f]) = fcV fs ++ f.cs := by simp [fcV]
theorem fcV_len (fs : List Fc) : (fcV fs).length = fs.length * 4 := by
  induction fs with
  | nil => rfl
  | cons f r ih =>
    show (f.cs ++ fcV r).length = _
    rw [List.length_append, ih, List.length_cons]
    show 4 + _ = _
    omega
def fcRows (fs : List Fc) : Hep := fs.flatMap (·.t)
theorem fcRows_snoc (fs : List Fc) (f : Fc) : fcRows (fs ++ [f]) = fcRows fs ++ f.t := by simp [fcRows]
def FcOk (f : Fc) : Prop := OutD 27 7 f.t f.v f.hs.length (kidV f.hs) ∧ f.hs.length ≤ 100000
/-- The map's entries are those of all but the first one. -/
def Above (E : List EntJ) (fs : List Fc) : Prop := E.map (fun x => (x.1, x.2.1)) = (fs.drop 1).map fun f => (f.κ, f.v)
structure CS (n : Nat) (w0 : World) (s3 s4 s5 : Nat) (gm : Nat) (vall : Value) (hh : Hep) (fs : List Fc) (rest : Hep) (a : Act) (w : World) : Prop where
  ok : ∀ f ∈ fs, FcOk f
  st : ∃ (tp : Hep) (A : Option Addr) (cap : Nat) (E : List EntJ) (cl : Nat), OutD 53 4 tp (.slice A fs.length cap) fs.length (fcV fs) ∧ Above E fs ∧ St n w0 a w [(s3, vall), (s4, .slice A fs.length cap), (s5, .map (some gm))] ((gm, .map (entsJ E) cl, #[]) :: (tp ++ (fcRows fs ++ (rest ++ hh))))
/-- The lists above stand where they stood, and hold more than what is below them. -/
def Anc (w0 : World) (fs : List Fc) (m : Nat) : Prop := ∀ f ∈ fs.drop 1, ∃ (x : SL) (Ts : List DT), LV w0 x Ts ∧ keyOf x = f.κ ∧ m ≤ nodesL Ts ∧ 0 < x.n
theorem nodes_kids {T : DT} {Ts : List DT} : nodesL (kidsOf T) < nodesL (T :: Ts) := by
  have h := nodes_eq T
  have e : nodesL (T :: Ts) = nodesD T + nodesL Ts := rfl
  omega
/-- A kid's list is none of those above. -/
theorem Anc.key {w0 : World} {fs : List Fc} {T : DT} {Ts : List DT} {x : SL} {E : List EntJ} (h : Anc w0 fs (nodesL (T :: Ts))) (hx : LV w0 x (kidsOf T)) (hE : Above E fs) : (∀ y ∈ E, y.1 ≠ keyOf x) ∧ ∀ y ∈ E, okK w0 y.1 := by
  have key : ∀ y ∈ E, ∃ f ∈ fs.drop 1, f.κ = y.1 := fun y hy => by
    have h1 : (y.1, y.2.1) ∈ E.map (fun x => (x.1, x.2.1)) := List.mem_map.2 ⟨y, hy, rfl⟩
    rw [hE] at h1
    obtain ⟨f, hf, e⟩ := List.mem_map.1 h1
    injection e with e1 _
    exact ⟨f, hf, e1⟩
  refine ⟨fun y hy he => ?_, fun y hy => ?_⟩
  · obtain ⟨f, hf, e⟩ := key y hy
    obtain ⟨z, Us, h1, h2, h3, h4⟩ := h f hf
    have e2 : keyOf z = keyOf x := by rw [h2, e, he]
    have := h1.det hx e2
    have hlt := nodes_kids (T := T) (Ts := Ts)
    rw [this] at h3
    omega
  · obtain ⟨f, hf, e⟩ := key y hy
    obtain ⟨z, Us, h1, h2, h3, h4⟩ := h f hf
    rw [← e, ← h2]
    exact h1.okK
/-- No part of a tree has more than so many bytes or numbers. -/
inductive SmT : DT → Prop
  | mk {k n : Int} {f : Bool} {b t : List UInt8} {a : List Nat} {ks : List DT} (hb : b.length ≤ 100000) (ha : a.length ≤ 100000) (hk : ∀ U ∈ ks, SmT U) : SmT (.mk k f n b t a ks)
theorem SmT.kids {T : DT} (h : SmT T) : ∀ U ∈ kidsOf T, SmT U := by
  cases h with
  | mk h1 h2 h3 => exact h3
section
variable {P : Program} {c : Code} {Q : Exit → Act → World → Prop} {n : Nat} {w0 : World} {s3 s4 s5 gm : Nat} {vall : Value} {hh : Hep}
theorem copied_go
    (hpop : ∀ (fs : List Fc) (f : Fc) (rest : Hep) (a : Act) (w : World), f.at_ = f.hs.length → (fs = [] ∧ f.κ = (none, 0) ∨ fs ≠ []) → (∀ E, Above E fs → (∀ y ∈ E, y.1 ≠ f.κ) ∧ ∀ y ∈ E, okK w0 y.1) → okK w0 f.κ → CS n w0 s3 s4 s5 gm vall hh (fs ++ [f]) rest a w → c.wp P (Exit.then (fun a' w' => CS n w0 s3 s4 s5 gm vall hh fs (f.t ++ rest) a' w') Q) a w)
    (hitem : ∀ (fs : List Fc) (f : Fc) (rest : Hep) (T : DT) (x : DH) (done todo : List DH) (a : Act) (w : World), f.hs = done ++ x :: todo → f.at_ = done.length → DY w0 T x → SmT T → (∀ E, Above E (fs ++ [f]) → (∀ y ∈ E, y.1 ≠ keyOf x.ks) ∧ ∀ y ∈ E, okK w0 y.1) → (fs ++ [f]).length ≤ 10000 → (kidsOf T).length ≤ 100000 → CS n w0 s3 s4 s5 gm vall hh (fs ++ [f]) rest a w →
      c.wp P (Exit.then (fun a' w' => ∃ (x' : DH) (t1 : Hep) (f2 : Fc) (subs : List DH) (rest1 : Hep), (∀ p ∈ rest, p ∈ rest1) ∧ f2.κ = keyOf x.ks ∧ f2.hs = subs ∧ f2.at_ = 0 ∧ subs.length = (kidsOf T).length ∧ (∀ (i : Nat) (U : DT) (y : DH), (kidsOf T)[i]? = some U → subs[i]? = some y → DY w0 U y) ∧
        (∀ (r : Hep) (t2 : Hep) (hs2 : List DH), (∀ p ∈ rest1, p ∈ r) → (∀ p ∈ t2, p ∈ r) → hs2.length = (kidsOf T).length → OutD 27 7 t2 f2.v hs2.length (kidV hs2) → (∀ (i : Nat) (U : DT) (y : DH), (kidsOf T)[i]? = some U → hs2[i]? = some y → DC (TN r) U y) → DC (TN r) T x') ∧
        CS n w0 s3 s4 s5 gm vall hh (fs ++ [{ f with hs := done ++ x' :: todo, at_ := done.length + 1, t := t1 }] ++ [f2]) rest1 a' w') Q) a w) :
    ∀ (m : Nat) (Ts : List DT), nodesL Ts ≤ m → (∀ T ∈ Ts, SmT T) → ∀ (fs : List Fc) (f : Fc) (done todo : List DH) (rest : Hep) (a : Act) (w : World), f.hs = done ++ todo → f.at_ = done.length → todo.length = Ts.length → (∀ (i : Nat) (T : DT) (x : DH), Ts[i]? = some T → todo[i]? = some x → DY w0 T x) → (fs = [] ∧ f.κ = (none, 0) ∨ fs ≠ []) → okK w0 f.κ →
      (∀ E, Above E fs → (∀ y ∈ E, y.1 ≠ f.κ) ∧ ∀ y ∈ E, okK w0 y.1) → (Ts ≠ [] → Anc w0 (fs ++ [f]) (nodesL Ts)) → (fs ++ [f]).length + nodesL Ts ≤ 10000 →
      CS n w0 s3 s4 s5 gm vall hh (fs ++ [f]) rest a w →
      (∀ (a : Act) (w : World) (hs' : List DH) (t' rest' : Hep), (∀ p ∈ rest, p ∈ rest') → (∀ p ∈ t', p ∈ rest') → hs'.length = Ts.length → OutD 27 7 t' f.v (done ++ hs').length (kidV (done ++ hs')) → (∀ (i : Nat) (T : DT) (x : DH), Ts[i]? = some T → hs'[i]? = some x → DC (TN rest') T x) → CS n w0 s3 s4 s5 gm vall hh fs rest' a w → LoopAt P c Q a w) →
      LoopAt P c Q a w := by
  intro m
  induction m with
  | zero =>
    intro Ts hm hsm fs f done todo rest a w hf hat hl hdy hroot hok hkey hanc hlen hcs next
    cases Ts with
    | cons T Ts =>
      have h := nodes_eq T
      have e : nodesL (T :: Ts) = nodesD T + nodesL Ts := rfl
      omega
    | nil =>
      obtain rfl : todo = [] := List.eq_nil_of_length_eq_zero hl
      rw [List.append_nil] at hf
      refine loopAt_round (Code.wp_mono ?_ (hpop fs f rest a w (by rw [hat, hf]) hroot hkey hok hcs))
      intro e a' w' hq
      cases e with
      | normal =>
        have hfo := (hcs.ok f (by simp)).1
        rw [hf] at hfo
        exact next a' w' [] f.t (f.t ++ rest) (fun p hp => List.mem_append_right _ hp) (fun p hp => List.mem_append_left _ hp) rfl (by rw [List.append_nil]; exact hfo) (fun i T x hT => by simp at hT) hq
      | _ => exact hq
  | succ m ih =>
    intro Ts hm hsm fs f done todo rest a w hf hat hl hdy hroot hok hkey hanc hlen hcs next
    cases Ts with
    | nil =>
      obtain rfl : todo = [] := List.eq_nil_of_length_eq_zero hl
      rw [List.append_nil] at hf
      refine loopAt_round (Code.wp_mono ?_ (hpop fs f rest a w (by rw [hat, hf]) hroot hkey hok hcs))
      intro e a' w' hq
      cases e with
      | normal =>
        have hfo := (hcs.ok f (by simp)).1
        rw [hf] at hfo
        exact next a' w' [] f.t (f.t ++ rest) (fun p hp => List.mem_append_right _ hp) (fun p hp => List.mem_append_left _ hp) rfl (by rw [List.append_nil]; exact hfo) (fun i T x hT => by simp at hT) hq
      | _ => exact hq
    | cons T Ts =>
      cases todo with
      | nil => simp at hl
      | cons x todo =>
        have hx : DY w0 T x := hdy 0 T x rfl rfl
        have hA := hanc (List.cons_ne_nil _ _)
        have hnk := nodes_kids (T := T) (Ts := Ts)
        have hnT := nodes_eq T
        have eN : nodesL (T :: Ts) = nodesD T + nodesL Ts := rfl
        have hkl : (kidsOf T).length ≤ nodesL (kidsOf T) := nodesL_len (kidsOf T)
        refine loopAt_round (Code.wp_mono ?_ (hitem fs f rest T x done todo a w hf hat hx (hsm T List.mem_cons_self) (fun E hE => hA.key hx.lv hE) (by omega) (by omega) hcs))
        intro e a' w' hq
        cases e with
        | normal =>
          obtain ⟨x', t1, f2, subs, rest1, hr1, hk2, hh2, hat2, hsl, hsd, hdc, hcs2⟩ := hq
          refine ih (kidsOf T) (by omega) (hsm T List.mem_cons_self).kids (fs ++ [{ f with hs := done ++ x' :: todo, at_ := done.length + 1, t := t1 }]) f2 [] subs rest1 a' w' (by rw [hh2]; rfl) hat2 hsl hsd (.inr (by simp)) (by rw [hk2]; exact hx.lv.okK) (fun E hE => ?_) (fun hne => ?_) (by simp only [List.length_append, List.length_cons, List.length_nil] at hlen ⊢; omega) hcs2 ?_
          · have h1 := hA.key hx.lv (E := E) (by
              unfold Above at hE ⊢
              rw [hE]
              cases fs with
              | nil => rfl
              | cons f0 r => simp)
            rw [hk2]
            exact h1
          · intro g hg
            have hd : ∀ y ∈ ((fs ++ [{ f with hs := done ++ x' :: todo, at_ := done.length + 1, t := t1 }] ++ [f2]).drop 1), (∃ z ∈ (fs ++ [f]).drop 1, z.κ = y.κ) ∨ y = f2 := fun y hy => by
              cases fs with
              | nil =>
                simp at hy
                exact .inr hy
              | cons f0 r =>
                simp at hy ⊢
                rcases hy with hy | rfl | hy
                · exact .inl (.inl ⟨y, hy, rfl⟩)
                · exact .inl (.inr rfl)
                · exact .inr hy
            rcases hd g hg with ⟨z, hz, e⟩ | rfl
            · obtain ⟨xx, Us, h1, h2, h3, h4⟩ := hA z hz
              exact ⟨xx, Us, h1, by rw [h2, e], by omega, h4⟩
            · refine ⟨x.ks, kidsOf T, hx.lv, hk2.symm, Nat.le_refl _, ?_⟩
              have := hx.lv.len
              have hpos : 0 < (kidsOf T).length := List.length_pos_iff.2 hne
              omega
          · intro a2 w2 hs2 t2 rest2 hr2 ht2 hl2 hO2 hd2 hcs3
            rw [List.nil_append] at hO2
            have hT' := hdc rest2 t2 hs2 hr2 ht2 hl2 hO2 hd2
            refine ih Ts (by omega) (fun U hU => hsm U (List.mem_cons_of_mem _ hU)) fs { f with hs := done ++ x' :: todo, at_ := done.length + 1, t := t1 } (done ++ [x']) todo rest2 a2 w2 (by simp) (by simp) (by simpa using hl) (fun i U y hU hy => hdy (i + 1) U y hU hy) hroot hok hkey (fun hne g hg => ?_) (by simp only [List.length_append, List.length_cons, List.length_nil] at hlen ⊢; omega) hcs3 ?_
            · have hd : ∃ z ∈ (fs ++ [f]).drop 1, z.κ = g.κ := by
                cases fs with
                | nil => simp at hg
                | cons f0 r =>
                  simp at hg ⊢
                  rcases hg with hg | rfl
                  · exact .inl ⟨g, hg, rfl⟩
                  · exact .inr rfl
              obtain ⟨z, hz, e⟩ := hd
              obtain ⟨xx, Us, h1, h2, h3, h4⟩ := hA z hz
              exact ⟨xx, Us, h1, by rw [h2, e], by omega, h4⟩
            · intro a3 w3 hs3 t3 rest3 hr3 ht3 hl3 hO3 hd3 hcs4
              refine next a3 w3 (x' :: hs3) t3 rest3 (fun p hp => hr3 p (hr2 p (hr1 p hp))) ht3 (by simp [hl3]) (by simpa using hO3) (fun i U y hU hy => ?_) hcs4
              cases i with
              | zero =>
                injection hU with hU
                injection hy with hy
                subst hU hy
                exact hT'.mono fun g k v hc => hc.more hr3
              | succ i => exact hd3 i U y hU hy
        | _ => exact hq
end
end Go.Proofs.YtonhkclkddobhaaDoor
namespace Go.Proofs.YtonhkclkddobhaaDoor
set_option linter.unusedVariables false
set_option linter.unusedSimpArgs false
set_option maxRecDepth 100000
open Go Go.RowKit
/-- A slice of so many elements, by its cells. -/
def CF (sz k : Nat) (xs : List Value) (v : Value) (w : World) : Prop := ∃ A c, v = .slice A k c ∧ xs.length = k * sz ∧ k ≤ c ∧ (A = none → k = 0) ∧ (∀ u ∈ xs, u.oneCell' = true) ∧ (0 < k → ∃ g o, A = some ⟨g, o, none⟩ ∧ g < w.heap.size ∧ ∀ (j : Nat) (u : Value), xs[j]? = some u → w.cell? ⟨g, o + j, none⟩ = some u)
instance {sz k : Nat} {xs : List Value} {v : Value} : Lasts (CF sz k xs v) := ⟨fun w w' ⟨A, c, e, hl, hc, hn, h1, h⟩ hb => ⟨A, c, e, hl, hc, hn, h1, fun h0 => by
  obtain ⟨g, o, e2, hg, hk⟩ := h h0
  exact ⟨g, o, e2, Nat.lt_of_lt_of_le hg hb.size, fun j u hu => (hb.cell (p := ⟨g, o + j, none⟩) hg).trans (hk j u hu)⟩⟩⟩
theorem BF.cf {l : List UInt8} {v : Value} {w : World} (h : BF l v w) : CF 1 l.length (l.map bv) v w := by
  obtain ⟨A, n, c, rfl, h⟩ := h
  have hl := h.len
  subst hl
  exact ⟨A, c, rfl, by simp, h.cap, (fun e => by have h1 := h.nil_ e; have h2 := h.cap; omega), bv_all l, fun h0 => by
    obtain ⟨g, o, e, hg, hc⟩ := h.at_ h0
    refine ⟨g, o, e, hg, fun j u hu => ?_⟩
    rw [List.getElem?_map] at hu
    obtain ⟨x, hx, rfl⟩ := Option.map_eq_some_iff.1 hu
    exact hc j x hx⟩
theorem NSF.cf {l : List Nat} {v : Value} {w : World} (h : NSF l v w) : CF 1 l.length (l.map nvD) v w := by
  obtain ⟨A, n, c, rfl, h⟩ := h
  have hl := h.len
  subst hl
  exact ⟨A, c, rfl, by simp, h.cap, (fun e => by have h1 := h.nil_ e; have h2 := h.cap; omega), (fun u hu => by obtain ⟨z, _, rfl⟩ := List.mem_map.1 hu; rfl), fun h0 => by
    obtain ⟨g, o, e, hg, hc⟩ := h.at_ h0
    refine ⟨g, o, e, hg, fun j u hu => ?_⟩
    rw [List.getElem?_map] at hu
    obtain ⟨x, hx, rfl⟩ := Option.map_eq_some_iff.1 hu
    exact hc j x hx⟩
theorem run_new0B (W : World) : (Instr.buildSlice 23 0 #[]).run Tryd.prog W = .ok (.slice (some ⟨W.heap.size, 0, none⟩) 0 0) (W.alloc (.cells #[] 5)) := by kernel_rfl
theorem run_new0N (W : World) : (Instr.buildSlice 24 0 #[]).run Tryd.prog W = .ok (.slice (some ⟨W.heap.size, 0, none⟩) 0 0) (W.alloc (.cells #[] 36)) := by kernel_rfl
theorem run_new0D (W : World) : (Instr.buildSlice 25 0 #[]).run Tryd.prog W = .ok (.slice (some ⟨W.heap.size, 0, none⟩) 0 0) (W.alloc (.cells #[] 27)) := by kernel_rfl
theorem u64_infoU : (Tryd.prog.info? 36).map (fun i => (i.zero, i.size, i.bytes)) = some (some (.int .u64 0), 1, 8) := by kernel_rfl
theorem der_infoU : (Tryd.prog.info? 27).map (fun i => (i.zero, i.size, i.bytes)) = some (some (.agg DH.no.cs), 7, 112) := by kernel_rfl
theorem isnilB {A : Option Addr} {m c : Nat} {b : Bool} (h : A.isNone = b) (p q : Operand) (W : World) : (do eqGuard .eql 23 p q (.slice A m c) (.slice none 0 0); binOp .eql 23 (.slice A m c) (.slice none 0 0) : Sem Value).run Tryd.prog W = .ok (.bool b) W := by
  subst h
  cases A <;> kernel_rfl
theorem isnilN {A : Option Addr} {m c : Nat} {b : Bool} (h : A.isNone = b) (p q : Operand) (W : World) : (do eqGuard .eql 24 p q (.slice A m c) (.slice none 0 0); binOp .eql 24 (.slice A m c) (.slice none 0 0) : Sem Value).run Tryd.prog W = .ok (.bool b) W := by
  subst h
  cases A <;> kernel_rfl
theorem isnilD {A : Option Addr} {m c : Nat} {b : Bool} (h : A.isNone = b) (p q : Operand) (W : World) : (do eqGuard .eql 25 p q (.slice A m c) (.slice none 0 0); binOp .eql 25 (.slice A m c) (.slice none 0 0) : Sem Value).run Tryd.prog W = .ok (.bool b) W := by
  subst h
  cases A <;> kernel_rfl
section
variable {n : Nat} {w0 w : World} {a : Act} {e : Env} {h : Hep} {Q : Exit → Act → World → Prop} {ops : Array Oper} {rest : List Oper} {o o2 o3 : Oper}
/-- A copy. -/
theorem pl_cloneE {T E : TypeId} {sz bytes k : Nat} {z : Value} (hT : Tryd.prog.underlying T = some (.slice E)) (hi : (Tryd.prog.info? E).map (fun i => (i.zero, i.size, i.bytes)) = some (some z, sz, bytes)) (hz : z.cells.size = sz) (hsz : 0 < sz) (hby : bytes ≤ 1000) (hnew : ∀ W, (Instr.buildSlice T 0 #[]).run Tryd.prog W = .ok (.slice (some ⟨W.heap.size, 0, none⟩) 0 0) (W.alloc (.cells #[] E)))
    {d d2 d3 : Nat} {y : Operand} {v : Value} {xs : List Value} (ho : o.op = .buildSlice T 0 #[]) (hg : o.guard = none) (hd : o.dst = some d) (ho2 : o2.op = .move y) (hg2 : o2.guard = none) (hd2 : o2.dst = some d2) (ho3 : o3.op = .call { callee := .builtin .append, args := #[.tmp d, .tmp d2], argTypes := #[T, T] }) (hg3 : o3.guard = none) (hd3 : o3.dst = some d3)
    (hy : ∀ u, sev ((d, u) :: e) y = some v) (hv : CF sz k xs v w) (hnn : ∀ c, v ≠ .slice none k c) (hs : k ≤ 100000) (hl : Nat.blt d n = true) (hl2 : Nat.blt d2 n = true) (hl3 : Nat.blt d3 n = true) (hne : Nat.beq d d2 = false ∧ Nat.beq d2 d3 = false ∧ Nat.beq d d3 = false) (hf : e.all (fun p => !Nat.beq p.1 d) = true) (hf2 : e.all (fun p => !Nat.beq p.1 d2) = true) (hf3 : e.all (fun p => !Nat.beq p.1 d3) = true) (H : St n w0 a w e h)
    (next : ∀ A c t a w', OutD E sz t (.slice A k c) k xs → St n w0 a w' ((d3, .slice A k c) :: e) (h ++ t) → wpList Tryd.prog ops Q rest a w') : wpList Tryd.prog ops Q (o :: o2 :: o3 :: rest) a w :=
  wpList_plain hg fun K hK => by
    have e1 : (execOp a.eval o).run Tryd.prog w = .ok (.value (.slice (some ⟨w.heap.size, 0, none⟩) 0 0)) (w.alloc (.cells #[] E)) := by
      simp [execOp, ho, hnew, Result.andThen]
    have hb1 : Below w.heap.size w (w.alloc (.cells #[] E)) := (Below.refl _ _).alloc (Nat.le_refl _) _
    have B1 : Blk (w.alloc (.cells #[] E)) w.heap.size (.ty E) #[] := Blk.new _ _ _
    have H1 : St n w0 (a.put (some d) (.slice (some ⟨w.heap.size, 0, none⟩) 0 0)) (w.alloc (.cells #[] E)) ((d, .slice (some ⟨w.heap.size, 0, none⟩) 0 0) :: e) h := (H.call hb1).put _ hl hf
    have hv1 : CF sz k xs v (w.alloc (.cells #[] E)) := Lasts.lasts (F := CF sz k xs v) _ _ hv hb1
    have hown : (w.alloc (.cells #[] E)).ownsRow w.heap.size E sz (.slice (some ⟨w.heap.size, 0, none⟩) 0 0) 0 [] := ⟨by simp, .inr ⟨w.heap.size, 0, #[], rfl, Nat.le_refl _, B1, Nat.le_refl _, Nat.zero_le _, by simp, by simp⟩⟩
    unfold Oper.wp
    rw [e1]
    refine hK _ _ ?_
    rw [hd]
    generalize w.alloc (.cells #[] E) = w1 at *
    refine wpList_plain hg2 fun K hK => ?_
    have e2 : (execOp (a.put (some d) (.slice (some ⟨w.heap.size, 0, none⟩) 0 0)).eval o2).run Tryd.prog w1 = .ok (.value v) w1 := by
      simp [execOp, ho2, H1.ev (hy _)]
    unfold Oper.wp
    rw [e2]
    refine hK _ _ ?_
    rw [hd2]
    have H2 := H1.put (d := d2) v hl2 (by simp only [List.all_cons, hf2, Bool.and_true, Bool.not_eq_true']; exact hne.1)
    refine wpList_plain hg3 fun K hK => ?_
    obtain ⟨A, c, rfl, hxl, hkc, hAn, h1c, hrd⟩ := hv1
    cases hq : Tryd.prog.info? E with
    | none => rw [hq] at hi; cases hi
    | some i =>
      rw [hq] at hi
      simp only [Option.map_some, Option.some.injEq, Prod.mk.injEq] at hi
      obtain ⟨hz0, hszi, hbyi⟩ := hi
      have hb2 : (0 + k) * bytes ≤ 100000 * 1000 := Nat.mul_le_mul (by omega) hby
      obtain ⟨v', w', h1, hown2, h3⟩ : ∃ v' w', (Builtin.append_ #[T, T] o3.type #[.slice (some ⟨w.heap.size, 0, none⟩) 0 0, .slice A k c]).run Tryd.prog w1 = .ok v' w' ∧ w'.ownsRow w.heap.size E sz v' k xs ∧ Below w.heap.size w w' := by
        rcases A with _ | ad
        · exact absurd rfl (hnn c)
        · obtain ⟨v', w', h1, h2, h3, _, _⟩ := run_append_own_at (P := Tryd.prog) w1 w.heap.size T o3.type E i _ sz bytes hT hq hz0 hszi hbyi hz hsz _ _ _ hown ad k c xs hxl (fun j u hu => by
            have hj := (List.getElem?_eq_some_iff.1 hu).1
            obtain ⟨b, of, e1, _, hcc⟩ := hrd (by
              rcases Nat.eq_zero_or_pos k with h0 | h0
              · rw [hxl, h0, Nat.zero_mul] at hj
                omega
              · exact h0)
            injection e1 with e1
            subst e1
            rw [Addr.add_lit]
            exact hcc j u hu) h1c (by simp only [maxLen]; omega) (by omega) hb1.size
          exact ⟨v', w', h1, by simpa using h2, hb1.grown h3 hb1.size (fun j hj => by
            injection hj with hj
            rw [← hj]
            exact Nat.le_refl _)⟩
      obtain ⟨t, ht, H'⟩ := own_told (B := 0) H h3 hown2
      obtain ⟨A', c', rfl, _⟩ := ht.form
      have x1 := H2.ev (x := .tmp d) (v := .slice (some ⟨w.heap.size, 0, none⟩) 0 0) (by
        have h_ : Nat.beq d2 d = false := by
          cases hq_ : Nat.beq d2 d with
          | false => rfl
          | true =>
            have e_ := Nat.eq_of_beq_eq_true hq_
            have h1_ := hne.1
            rw [e_, Nat.beq_refl] at h1_
            cases h1_
        simp [sev, look, h_])
      have x2 := H2.ev (x := .tmp d2) (v := .slice A k c) (by simp [sev, look])
      unfold Oper.wp
      simp [execOp, ho3, resolve, invoke, builtin, x1, x2, h1, Result.andThen]
      refine hK _ _ (next A' c' t _ _ ht ?_)
      rw [hd3]
      have H3 : St n w0 _ w' ((d2, .slice A k c) :: (d, .slice (some ⟨w.heap.size, 0, none⟩) 0 0) :: e) (h ++ t) := (H'.put (d := d) (.slice (some ⟨w.heap.size, 0, none⟩) 0 0) hl hf).put (d := d2) (.slice A k c) hl2 (by simp only [List.all_cons, hf2, Bool.and_true, Bool.not_eq_true']; exact hne.1)
      have H4 := H3.put (d := d3) (.slice A' k c') hl3 (by simp only [List.all_cons, hf3, Bool.and_true, Bool.and_eq_true, Bool.not_eq_true']; exact ⟨hne.2.1, hne.2.2⟩)
      exact H4.sub (fun p hp => by
        rcases List.mem_cons.1 hp with rfl | hp
        · exact List.mem_cons_self
        · exact List.mem_cons_of_mem _ (List.mem_cons_of_mem _ (List.mem_cons_of_mem _ hp))) (fun _ h => h) H4.apart
end
attribute [local irreducible] bvs byteD rb
set_option maxHeartbeats 4000000 in
theorem cloneB_walk {Aa : Option Addr} {na ca : Nat} {xs : List Value} (w : World) (hns : CF 1 na xs (.slice Aa na ca) w) (hna : na ≤ 100000) : Calls Tryd.prog 14 #[.slice Aa na ca] w (fun rr w' => ∃ v, rr = .returned v ∧ Below w.heap.size w w' ∧ w'.ownsRow w.heap.size 5 1 v na xs) := by
  refine calls_st (vs := [.slice Aa na ca]) 8 Tryd.func14 rfl Tryd.ntmps14 rfl (fun a W H => ?_)
  replace H : St 8 w a W [(0, .slice Aa na ca)] [] := H
  refine sqR H gs0 fun Z_ z_ => rS 1 rfl <| rN0 z_ ?_
  try clear H a W
  intro a W H
  refine wp_seq_k (fun K2 hK2 => ?_)
  refine sqR H gs0 fun Z_ z_ => rS 1 rfl <| rV rfl (does_binOp rfl rfl rfl (isnilB rfl _ _)) <| rK [1, 0] [] [] <| rN0 z_ ?_
  try clear H a W
  intro a W H
  cases hq1 : Aa.isNone with
  | true =>
    rw [hq1] at H
    refine wp_cond_true (H.ev rfl) ?_
    refine sqR H gs0 fun Z_ z_ => rK [1, 0] [] [] <| rS 1 rfl <| rK [1, 0] [] [] <| rN0 z_ ?_
    try clear H a W
    intro a W H
    refine wp_ret ?_
    repeat (first | (with_reducible refine then_ret ?_) | (with_reducible refine blk_ret ?_))
    refine end_tmp (p := 2) rfl rfl H (fun hb => ?_)
    have hA_ : Aa = none := Option.isNone_iff_eq_none.1 hq1
    have h0_ : na = 0 := by obtain ⟨A_, c_, e_, h1_, h2_, h3_, _⟩ := hns; injection e_ with e1_ e2_ e3_; have := h3_ (e1_ ▸ hA_); omega
    have hx_ : xs = [] := List.eq_nil_of_length_eq_zero (by obtain ⟨A_, c_, e_, h1_, _⟩ := hns; rw [h1_, h0_, Nat.zero_mul])
    refine ⟨_, rfl, hb, ?_⟩
    rw [hx_, h0_]
    exact World.ownsRow_nil _ _ _ _
  | false =>
    rw [hq1] at H
    refine wp_cond_false (H.ev rfl) ?_
    refine wp_skip ?_
    refine hK2 _ _ ?_
    clear hK2
    refine wp_seq_k (fun K5 hK5 => ?_)
    refine rg_plain ?_
    have NN_ := hq1
    refine pl_cloneE Tryd.underlying23 u8_info rfl (by decide) (by decide) run_new0B rfl rfl rfl rfl rfl rfl rfl rfl rfl (fun _ => rfl) (Lasts.lasts (F := CF _ na xs (.slice Aa na ca)) _ _ hns H.below) (fun c_ e_ => by injection e_ with e_ _ _; rw [e_] at NN_; cases NN_) hna rfl rfl rfl ⟨rfl, rfl, rfl⟩ rfl rfl rfl H ?_
    try clear H a W
    intro A8 c8 t8 a W hO H
    replace H : St 8 w a W [(7, .slice A8 na c8), (4, .bool false), (2, .slice none 0 0), (0, .slice Aa na ca)] (t8) := H
    refine rgO H gs0 (rK [1, 1, 0] [] [] <| rS 1 rfl <| rK [1, 0, 0, 0] [] [] <| rZ0 ?_)
    try clear H a W
    intro a W H
    refine hK5 _ _ ?_
    clear hK5
    refine wp_ret ?_
    repeat (first | (with_reducible refine then_ret ?_) | (with_reducible refine blk_ret ?_))
    refine end_tmp (p := 2) rfl rfl H (fun hb => ?_)
    exact ⟨_, rfl, hb, hO.owns (h := []) H⟩
set_option maxHeartbeats 4000000 in
theorem cloneN_walk {Aa : Option Addr} {na ca : Nat} {xs : List Value} (w : World) (hns : CF 1 na xs (.slice Aa na ca) w) (hna : na ≤ 100000) : Calls Tryd.prog 18 #[.slice Aa na ca] w (fun rr w' => ∃ v, rr = .returned v ∧ Below w.heap.size w w' ∧ w'.ownsRow w.heap.size 36 1 v na xs) := by
  refine calls_st (vs := [.slice Aa na ca]) 8 Tryd.func18 rfl Tryd.ntmps18 rfl (fun a W H => ?_)
  replace H : St 8 w a W [(0, .slice Aa na ca)] [] := H
  refine sqR H gs0 fun Z_ z_ => rS 1 rfl <| rN0 z_ ?_
  try clear H a W
  intro a W H
  refine wp_seq_k (fun K2 hK2 => ?_)
  refine sqR H gs0 fun Z_ z_ => rS 1 rfl <| rV rfl (does_binOp rfl rfl rfl (isnilN rfl _ _)) <| rK [1, 0] [] [] <| rN0 z_ ?_
  try clear H a W
  intro a W H
  cases hq1 : Aa.isNone with
  | true =>
    rw [hq1] at H
    refine wp_cond_true (H.ev rfl) ?_
    refine sqR H gs0 fun Z_ z_ => rK [1, 0] [] [] <| rS 1 rfl <| rK [1, 0] [] [] <| rN0 z_ ?_
    try clear H a W
    intro a W H
    refine wp_ret ?_
    repeat (first | (with_reducible refine then_ret ?_) | (with_reducible refine blk_ret ?_))
    refine end_tmp (p := 2) rfl rfl H (fun hb => ?_)
    have hA_ : Aa = none := Option.isNone_iff_eq_none.1 hq1
    have h0_ : na = 0 := by obtain ⟨A_, c_, e_, h1_, h2_, h3_, _⟩ := hns; injection e_ with e1_ e2_ e3_; have := h3_ (e1_ ▸ hA_); omega
    have hx_ : xs = [] := List.eq_nil_of_length_eq_zero (by obtain ⟨A_, c_, e_, h1_, _⟩ := hns; rw [h1_, h0_, Nat.zero_mul])
    refine ⟨_, rfl, hb, ?_⟩
    rw [hx_, h0_]
    exact World.ownsRow_nil _ _ _ _
  | false =>
    rw [hq1] at H
    refine wp_cond_false (H.ev rfl) ?_
    refine wp_skip ?_
    refine hK2 _ _ ?_
    clear hK2
    refine wp_seq_k (fun K5 hK5 => ?_)
    refine rg_plain ?_
    have NN_ := hq1
    refine pl_cloneE Tryd.underlying24 u64_infoU rfl (by decide) (by decide) run_new0N rfl rfl rfl rfl rfl rfl rfl rfl rfl (fun _ => rfl) (Lasts.lasts (F := CF _ na xs (.slice Aa na ca)) _ _ hns H.below) (fun c_ e_ => by injection e_ with e_ _ _; rw [e_] at NN_; cases NN_) hna rfl rfl rfl ⟨rfl, rfl, rfl⟩ rfl rfl rfl H ?_
    try clear H a W
    intro A8 c8 t8 a W hO H
    replace H : St 8 w a W [(7, .slice A8 na c8), (4, .bool false), (2, .slice none 0 0), (0, .slice Aa na ca)] (t8) := H
    refine rgO H gs0 (rK [1, 1, 0] [] [] <| rS 1 rfl <| rK [1, 0, 0, 0] [] [] <| rZ0 ?_)
    try clear H a W
    intro a W H
    refine hK5 _ _ ?_
    clear hK5
    refine wp_ret ?_
    repeat (first | (with_reducible refine then_ret ?_) | (with_reducible refine blk_ret ?_))
    refine end_tmp (p := 2) rfl rfl H (fun hb => ?_)
    exact ⟨_, rfl, hb, hO.owns (h := []) H⟩
set_option maxHeartbeats 4000000 in
theorem cloneD_walk {Aa : Option Addr} {na ca : Nat} {xs : List Value} (w : World) (hns : CF 7 na xs (.slice Aa na ca) w) (hna : na ≤ 100000) : Calls Tryd.prog 20 #[.slice Aa na ca] w (fun rr w' => ∃ v, rr = .returned v ∧ Below w.heap.size w w' ∧ w'.ownsRow w.heap.size 27 7 v na xs) := by
  refine calls_st (vs := [.slice Aa na ca]) 8 Tryd.func20 rfl Tryd.ntmps20 rfl (fun a W H => ?_)
  replace H : St 8 w a W [(0, .slice Aa na ca)] [] := H
  refine sqR H gs0 fun Z_ z_ => rS 1 rfl <| rN0 z_ ?_
  try clear H a W
  intro a W H
  refine wp_seq_k (fun K2 hK2 => ?_)
  refine sqR H gs0 fun Z_ z_ => rS 1 rfl <| rV rfl (does_binOp rfl rfl rfl (isnilD rfl _ _)) <| rK [1, 0] [] [] <| rN0 z_ ?_
  try clear H a W
  intro a W H
  cases hq1 : Aa.isNone with
  | true =>
    rw [hq1] at H
    refine wp_cond_true (H.ev rfl) ?_
    refine sqR H gs0 fun Z_ z_ => rK [1, 0] [] [] <| rS 1 rfl <| rK [1, 0] [] [] <| rN0 z_ ?_
    try clear H a W
    intro a W H
    refine wp_ret ?_
    repeat (first | (with_reducible refine then_ret ?_) | (with_reducible refine blk_ret ?_))
    refine end_tmp (p := 2) rfl rfl H (fun hb => ?_)
    have hA_ : Aa = none := Option.isNone_iff_eq_none.1 hq1
    have h0_ : na = 0 := by obtain ⟨A_, c_, e_, h1_, h2_, h3_, _⟩ := hns; injection e_ with e1_ e2_ e3_; have := h3_ (e1_ ▸ hA_); omega
    have hx_ : xs = [] := List.eq_nil_of_length_eq_zero (by obtain ⟨A_, c_, e_, h1_, _⟩ := hns; rw [h1_, h0_, Nat.zero_mul])
    refine ⟨_, rfl, hb, ?_⟩
    rw [hx_, h0_]
    exact World.ownsRow_nil _ _ _ _
  | false =>
    rw [hq1] at H
    refine wp_cond_false (H.ev rfl) ?_
    refine wp_skip ?_
    refine hK2 _ _ ?_
    clear hK2
    refine wp_seq_k (fun K5 hK5 => ?_)
    refine rg_plain ?_
    have NN_ := hq1
    refine pl_cloneE Tryd.underlying25 der_infoU rfl (by decide) (by decide) run_new0D rfl rfl rfl rfl rfl rfl rfl rfl rfl (fun _ => rfl) (Lasts.lasts (F := CF _ na xs (.slice Aa na ca)) _ _ hns H.below) (fun c_ e_ => by injection e_ with e_ _ _; rw [e_] at NN_; cases NN_) hna rfl rfl rfl ⟨rfl, rfl, rfl⟩ rfl rfl rfl H ?_
    try clear H a W
    intro A8 c8 t8 a W hO H
    replace H : St 8 w a W [(7, .slice A8 na c8), (4, .bool false), (2, .slice none 0 0), (0, .slice Aa na ca)] (t8) := H
    refine rgO H gs0 (rK [1, 1, 0] [] [] <| rS 1 rfl <| rK [1, 0, 0, 0] [] [] <| rZ0 ?_)
    try clear H a W
    intro a W H
    refine hK5 _ _ ?_
    clear hK5
    refine wp_ret ?_
    repeat (first | (with_reducible refine then_ret ?_) | (with_reducible refine blk_ret ?_))
    refine end_tmp (p := 2) rfl rfl H (fun hb => ?_)
    exact ⟨_, rfl, hb, hO.owns (h := []) H⟩
end Go.Proofs.YtonhkclkddobhaaDoor
namespace Go.Proofs.YtonhkclkddobhaaDoor
set_option linter.unusedVariables false
set_option linter.unusedSimpArgs false
open Go Go.RowKit
def headOkP (ms : List Nat) (m f : Nat) : List Nat → Bool
  | [] => true
  | x :: _ => (List.range m).all (fun j => Nat.beq j f || (closeM ms m x).testBit j)
def planOkP (ops : Array Oper) (n : Nat) (e : Env) (plan : List Fct) (ms : List Nat) (f : Nat) : Bool :=
  Nat.ble plan.length ops.size && downs 0 ms && psOkF ms plan && dstOkF ops.toList plan && distinct (plan.map (·.d)) && plan.all (fun it => Nat.blt it.d n && e.all (fun p => !Nat.beq p.1 it.d)) && lineUp ms plan.length plan.length (ms.drop plan.length) && headOkP ms plan.length f (ms.drop plan.length) && lastOk ms plan
/-- f may be run first. -/
def freeP (ops : Array Oper) (ms : List Nat) (f : Nat) : Bool := Nat.beq (ms.getD f 1) 0 && Region.free .any ops (maskArr ops.size 0) f && Region.noSelect ops
section
variable {P : Program} {n : Nat} {w0 w w' : World} {a : Act} {e : Env} {h : Hep} {Q : Exit → Act → World → Prop} {ops : Array Oper} {plan : List Fct} {ms : List Nat} {rest : List Oper} {o : Oper} {R R' : Rel}
theorem any_planP {f : Nat} {J : World → Prop} (hJ : ∀ w w', J w → R w w' → J w') (hR : ∀ a w w', St n w0 a w e h → R w w' → St n w0 a w' e h) (hR' : ∀ a w w', St n w0 a w e h → R' w w' → St n w0 a w' e h) (hm : masks ops = ms) (hk : planOkP ops n e plan ms f = true) (ho : ObsJ P R R' J ms ops Q n w0 e h plan 0 ops.toList plan)
    (tail : ∀ a w, (∀ (j : Nat) (it : Fct), plan[j]? = some it → it.til = none → ∃ v, a.tmps[it.d]? = some v ∧ it.F v w) → St n w0 a w e h → ((∀ (j : Nat) (it : Fct), plan[j]? = some it → it.own = false) → J w) → wpList P ops Q (ops.toList.drop plan.length) a w) :
    ∀ (fuel : Nat) (l : Array Bool) (a : Act) (w : World), l.size = ops.size → l.getD f false = true → Down ops l → (∀ i, plan.length ≤ i → ¬ l.getD i false = true) → ops.size - plan.length + left l plan.length ≤ fuel → MidJ J plan n w0 e h l a w → wpAny P .any ops Q fuel l a w := by
  unfold planOkP at hk
  simp only [Bool.and_eq_true] at hk
  obtain ⟨⟨⟨⟨⟨⟨⟨⟨k1, k2⟩, k3⟩, k4⟩, k5⟩, k6⟩, k7⟩, k8⟩, k9⟩ := hk
  have hlen : plan.length ≤ ops.size := Nat.le_of_ble_eq_true k1
  have hmsl : ms.length = ops.size := by rw [← hm]; simp [masks]
  have after_all : ∀ (l : Array Bool) (i : Nat), l.size = ops.size → l.getD f false = true → Down ops l → (∀ i, plan.length ≤ i → ¬ l.getD i false = true) → i ∈ Region.ready .any ops l → plan.length ≤ i → ∀ j, j < plan.length → l.getD j false = true := by
    intro l i hs hfl hd hB hr hge
    obtain ⟨_, o, hoo, _⟩ := mem_ready.1 hr
    have hilt : i < ops.size := (Array.getElem?_eq_some_iff.1 hoo).1
    have hg := masks_get hm hoo
    have e2 : ms.getD i 0 = maskOf (waits o) := by simp [hg]
    have hlist : ∀ j, (closeM ms i (maskOf (waits o))).testBit j = true → l.getD j false = true := fun j hc => close_listed hm hd hs i (maskOf (waits o)) (fun j hj => ready_waits hm hr j (by rw [e2]; exact hj)) j hc
    have hg2 : (ms.drop plan.length)[i - plan.length]? = some (maskOf (waits o)) := by
      rw [List.getElem?_drop, show plan.length + (i - plan.length) = i by omega]
      exact hg
    have him : i = plan.length := by
      apply Nat.le_antisymm _ hge
      apply Nat.le_of_not_lt
      intro hlt
      have hc := lineUp_get (Nat.le_refl _) k7 (i - plan.length) _ hg2 plan.length (Nat.le_refl _) (by omega)
      rw [show plan.length + (i - plan.length) = i by omega] at hc
      exact hB plan.length (Nat.le_refl _) (hlist _ hc)
    subst him
    have hdr : ms.drop plan.length = maskOf (waits o) :: ms.drop (plan.length + 1) := by
      have hlt2 : plan.length < ms.length := by omega
      rw [List.drop_eq_getElem_cons hlt2]
      congr 1
      rw [List.getElem?_eq_getElem hlt2] at hg
      exact Option.some.inj hg
    rw [hdr] at k8
    unfold headOkP at k8
    intro j hj
    have h8 := List.all_eq_true.1 k8 j (List.mem_range.2 hj)
    rw [Bool.or_eq_true] at h8
    rcases h8 with h8 | h8
    · rw [Nat.eq_of_beq_eq_true h8]
      exact hfl
    · exact hlist j h8
  have fin : ∀ (fuel : Nat) (l : Array Bool) (a : Act) (w : World), l.size = ops.size → (∀ i, plan.length ≤ i → ¬ l.getD i false = true) → (∀ j, j < plan.length → l.getD j false = true) → ops.size - plan.length ≤ fuel → MidJ J plan n w0 e h l a w → wpAny P .any ops Q fuel l a w := by
    intro fuel l a w hs hB hall hf HJ
    have H := HJ.mid
    refine any_tail hm k2 k7 fuel plan.length l a w (Nat.le_refl _) hlen hf hs (fun i hi => ⟨fun h1 => ?_, fun h1 => hall i h1⟩) (tail a w (fun j it hj ht => H.vals j it hj (hall j (List.getElem?_eq_some_iff.1 hj).1) (fun k hk => by rw [ht] at hk; cases hk)) H.base (fun hno => HJ.jj fun j it hj hown => by rw [hno j it hj] at hown; cases hown))
    exact Classical.byContradiction fun hn => hB i (by omega) h1
  intro fuel
  induction fuel with
  | zero =>
    intro l a w hs hfl hd hB hf HJ
    exact fin 0 l a w hs hB (left_zero (by omega)) (by omega) HJ
  | succ fuel ih =>
    intro l a w hs hfl hd hB hf HJ
    have H := HJ.mid
    by_cases hall : ∀ j, j < plan.length → l.getD j false = true
    · exact fin _ l a w hs hB hall (by omega) HJ
    have hex : ∃ i, i < plan.length ∧ ¬ l.getD i false = true := Classical.byContradiction fun hn => hall fun j hj => Classical.byContradiction fun hu => hn ⟨j, hj, hu⟩
    obtain ⟨i0, hi0, hu0, hlow⟩ := first_left _ hex
    refine ⟨fun hnil => ?_, fun i hr => ?_⟩
    · exfalso
      have hlt : i0 < ops.size := by omega
      have hin : i0 ∈ Region.ready .any ops l := by
        refine mem_ready.2 ⟨?_, ops[i0], Array.getElem?_eq_getElem hlt, fun x hx hb => hlow _ ?_⟩
        · have hl2 : i0 < l.size := by omega
          simp [Array.getElem?_eq_getElem hl2] at hu0 ⊢
          exact hu0
        · have hg := masks_get hm (Array.getElem?_eq_getElem hlt)
          have hx2 : (maskOf (waits ops[i0])).testBit x.on = true := maskOf_bit.2 (mem_waits.2 ⟨x, hx, hb, rfl⟩)
          have := downs_get k2 i0 _ hg x.on hx2
          omega
      rw [hnil] at hin
      cases hin
    · have hu := not_listed hr
      have hilt : i < plan.length := by
        apply Nat.lt_of_not_le
        intro hge
        exact hu0 (after_all l i hs hfl hd hB hr hge i0 hi0)
      have hios : i < ops.size := by omega
      have hit : plan[i]? = some plan[i] := List.getElem?_eq_getElem hilt
      have hoi : ops[i]? = some ops[i] := Array.getElem?_eq_getElem hios
      have hoi2 : ops.toList[i]? = some ops[i] := by simp [hios]
      have hob := ObsJ_get ho i _ _ hoi2 hit
      rw [Nat.zero_add] at hob
      have hdst := dstOkF_get k4 i _ _ hoi2 hit
      have hg := masks_get hm hoi
      have e2 : ms.getD i 0 = maskOf (waits ops[i]) := by simp [hg]
      have hps : ∀ j ∈ plan[i].ps, l.getD j false = true := fun j hj => ready_waits hm hr j (by rw [e2]; exact psOkF_get k3 i _ _ hg hit j hj)
      have h6 := List.all_eq_true.1 k6 _ (List.getElem_mem hilt)
      rw [Bool.and_eq_true] at h6
      have hdn : plan[i].d < n := by
        have := h6.1
        rw [Nat.blt_eq] at this
        exact this
      have hen : ∀ p ∈ e, p.1 ≠ plan[i].d := fun p hp e1 => by
        have := List.all_eq_true.1 h6.2 p hp
        rw [e1, Nat.beq_refl] at this
        cases this
      have hdd : ∀ j jt, plan[j]? = some jt → j ≠ i → jt.d ≠ plan[i].d := fun j jt hj hne =>
        distinct_get k5 j i jt.d plan[i].d (by rw [List.getElem?_map, hj]; rfl) (by rw [List.getElem?_map, hit]; rfl) hne
      have hs2 : (l.setIfInBounds i true).size = ops.size := by simpa using hs
      have hd2 := down_set hd hr
      have hfl2 : (l.setIfInBounds i true).getD f false = true := getD_set_true hfl
      have hB2 : ∀ j, plan.length ≤ j → ¬ (l.setIfInBounds i true).getD j false = true := fun j hj hl => hB j hj (listed_set hl (by omega))
      have hf2 : ops.size - plan.length + left (l.setIfInBounds i true) plan.length ≤ fuel := by
        have := left_set (l := l) (i := i) (by omega) hu plan.length hilt
        omega
      unfold wpOp
      rw [hoi]
      dsimp only
      have hin := List.all_eq_true.1 k9 i (List.mem_range.2 hilt)
      rw [hit] at hin
      simp only [Bool.and_eq_true] at hin
      obtain ⟨hin1, hin2⟩ := hin
      obtain ⟨e', hob2, hst⟩ := Chain.get (fun j hj it hjt => H.vals j it hjt (hps j hj) (fun k hk hl => by
        have := List.all_eq_true.1 hin1 j hj
        unfold tilOk at this
        rw [hjt] at this
        simp only [hk] at this
        rw [Nat.eq_of_beq_eq_true this] at hl
        exact hu hl)) (hob.1 a w) H.base
      have hob3 := hob2 hst (fun hoj => HJ.jj (fun j jt hj hown hl => by
        have hjp : j < plan.length := (List.getElem?_eq_some_iff.1 hj).1
        have hc := List.all_eq_true.1 hoj j (List.mem_range.2 hjp)
        rw [hj] at hc
        simp only [hown, Bool.not_true, Bool.false_or, Bool.or_eq_true] at hc
        rcases hc with hc | hc
        · rw [Nat.eq_of_beq_eq_true hc] at hl
          exact hu hl
        · have hjo : j < ops.size := by omega
          have hgj := masks_get hm (Array.getElem?_eq_getElem hjo)
          have e3 : ms.getD j 0 = maskOf (waits ops[j]) := by simp [hgj]
          refine hu (close_listed hm hd hs j _ (fun m hm2 => ?_) i hc)
          rw [e3, maskOf_bit, mem_waits] at hm2
          obtain ⟨x, hx, hb3, rfl⟩ := hm2
          exact hd j _ (Array.getElem?_eq_getElem hjo) hl x hx hb3))
      have fin : ∀ a' w', (∃ v, a' = a.put ops[i].dst v ∧ plan[i].rel R R' w w' ∧ plan[i].F v w') → wpAny P .any ops Q fuel (l.setIfInBounds i true) a' w' := ?_
      · rcases hob3 with ⟨hw, hwp2⟩ | ⟨hw, hp⟩
        · rw [hw, if_pos rfl]
          exact .inl (Oper.wp_mono fin hwp2)
        · rw [hw, if_neg (by decide)]
          exact fin _ _ hp
      intro a' w' hx
      obtain ⟨v, rfl, hb, hF⟩ := hx
      rw [hdst]
      have stab : ∀ (j : Nat) (jt : Fct), plan[j]? = some jt → (∀ v w w', jt.F v w → R w w' → jt.F v w') ∧ (jt.til = none → ∀ v w w', jt.F v w → R' w w' → jt.F v w') := fun j jt hj => by
        have hjl : j < ops.size := by have := (List.getElem?_eq_some_iff.1 hj).1; omega
        exact (ObsJ_get ho j ops[j] jt (by simp [hjl]) hj).2
      have hil : i < l.size := by omega
      cases hown : plan[i].own with
      | false =>
        unfold Fct.rel at hb
        rw [hown] at hb
        exact ih _ _ _ hs2 hfl2 hd2 hB2 hf2 ⟨H.put hit hdn hen hdd (fun j jt hj _ _ _ v hv => (stab j jt hj).1 v w w' hv hb) (hR _ _ _ H.base hb) hF, fun hn => hJ _ _ (HJ.jj fun j jt hj hown hl => hn j jt hj hown (getD_set_true hl)) hb⟩
      | true =>
        unfold Fct.rel at hb
        rw [hown] at hb
        rw [hown] at hin2
        have hin2 : ownOk ms plan i = true := by simpa using hin2
        refine ih _ _ _ hs2 hfl2 hd2 hB2 hf2 ⟨H.put hit hdn hen hdd (fun j jt hj hne hl ht v hv => ?_) (hR' _ _ _ H.base hb) hF, fun hn => ?_⟩
        rotate_left
        · exact absurd (by simp [hil]) (hn i _ hit hown)
        cases htil : jt.til with
        | none => exact (stab j jt hj).2 htil v w w' hv hb
        | some k =>
          exfalso
          have hnk := ht k htil
          have hjp : j < plan.length := (List.getElem?_eq_some_iff.1 hj).1
          have hc := List.all_eq_true.1 hin2 j (List.mem_range.2 hjp)
          rw [hj] at hc
          simp only [htil, Bool.or_eq_true] at hc
          rcases hc with ((hc | hc) | hc) | hc
          · rw [Nat.eq_of_beq_eq_true hc] at hnk
            exact hnk (by simp [show i < l.size by omega])
          · exact hne (Nat.eq_of_beq_eq_true hc)
          · exact hnk (getD_set_true (close_listed hm hd hs i _ (ready_waits hm hr) k hc))
          · have hjo : j < ops.size := by omega
            have hgj := masks_get hm (Array.getElem?_eq_getElem hjo)
            have e3 : ms.getD j 0 = maskOf (waits ops[j]) := by simp [hgj]
            refine hu (close_listed hm hd hs j _ (fun m hm2 => ?_) i hc)
            rw [e3, maskOf_bit, mem_waits] at hm2
            obtain ⟨x, hx, hb3, rfl⟩ := hm2
            exact hd j _ (Array.getElem?_eq_getElem hjo) hl x hx hb3
end
section
variable {P : Program} {n : Nat} {w0 w : World} {a : Act} {e : Env} {h : Hep} {G : List (World → Prop)} {Q : Exit → Act → World → Prop} {ops : Array Oper}
/-- **The region.** -/
theorem d2P {id : Nat} (plan : List It2) (f : Nat) {d : Nat} {V : Value} {o : Oper} (hof : ops[f]? = some o) (hpf : plan[f]? = some (.v d V [])) (hgd : o.guard = none) (hrun : ∀ W, (execOp a.eval o).run P W = .ok (.value V) W) (hfr : freeP ops (masks ops) f = true) (hQ : ∀ (d : Nat) (v : Value) c a w, Q (.panic c) (a.put (some d) v) w → Q (.panic c) a w)
    (hf : P.follows .mixedOrders = true) (hk : planOkP ops n e (plan.map It2.fct) (masks ops) f = true) (H : St n w0 a w e h) (g : GS G w) [hL : LastsL G] (ho : Obs2 P ops Q n w0 e h G plan ops.toList plan)
    (tail : nxt2 plan (fun e' G' => Rn P n w0 Q ops (ops.toList.drop plan.length) e' h G') e G) : (Code.region id ops true).wp P Q a w := by
  refine wp_region_any hf ?_
  have none_ : ∀ i, ¬ (Array.replicate ops.size false).getD i false = true := fun i hi => by
    by_cases h : i < ops.size
    · simp [h] at hi
    · simp [h] at hi
  have hlen : (plan.map It2.fct).length = plan.length := List.length_map _
  have hfo : f < ops.size := (Array.getElem?_eq_some_iff.1 hof).1
  have hfp : f < plan.length := (List.getElem?_eq_some_iff.1 hpf).1
  have hfct : (plan.map It2.fct)[f]? = some (It2.fct (.v d V [])) := by rw [List.getElem?_map, hpf]; rfl
  have hk0 := hk
  unfold planOkP at hk0
  simp only [Bool.and_eq_true] at hk0
  obtain ⟨⟨⟨⟨⟨⟨⟨⟨k1, k2⟩, k3⟩, k4⟩, k5⟩, k6⟩, k7⟩, k8⟩, k9⟩ := hk0
  unfold freeP at hfr
  simp only [Bool.and_eq_true] at hfr
  obtain ⟨⟨f1, f2⟩, f3⟩ := hfr
  have hg := masks_get rfl hof
  have hm0 : maskOf (waits o) = 0 := by
    have := Nat.eq_of_beq_eq_true f1
    simpa [hg] using this
  have hwait : ∀ x ∈ o.after, Region.binds .any x = true → False := fun x hx hb => by
    have hb2 : (maskOf (waits o)).testBit x.on = true := maskOf_bit.2 (mem_waits.2 ⟨x, hx, hb, rfl⟩)
    rw [hm0] at hb2
    simp at hb2
  have hof2 : ops.toList[f]? = some o := by simpa using hof
  have hdst : o.dst = some d := dstOkF_get k4 f _ _ hof2 hfct
  have h6 := List.all_eq_true.1 k6 _ (List.mem_iff_getElem?.2 ⟨f, hfct⟩)
  rw [Bool.and_eq_true] at h6
  have hdn : d < n := by
    have := h6.1
    rw [Nat.blt_eq] at this
    exact this
  have hen : ∀ p ∈ e, p.1 ≠ d := fun p hp e1 => by
    have := List.all_eq_true.1 h6.2 p hp
    rw [e1] at this
    simp [It2.fct] at this
  have hready : f ∈ Region.ready .any ops (Array.replicate ops.size false) := mem_ready.2 ⟨by simp [hfo], o, hof, fun x hx hb => (hwait x hx hb).elim⟩
  have hmid : MidF (plan.map It2.fct) n w0 e h (Array.replicate ops.size false) a w.drew := ⟨H.drew, fun j _ _ hj => absurd hj (none_ j)⟩
  have hmid2 := hmid.put (i := f) hfct hdn hen (fun j jt hj hne => distinct_get k5 j f jt.d d (by rw [List.getElem?_map, hj]; rfl) (by rw [List.getElem?_map, hfct]; rfl) hne) (w' := w.drew) (v := V) (fun j jt hj _ hl _ v hv => hv) hmid.base rfl
  have go : ∀ fuel, ops.size ≤ fuel + 1 → wpAny P .any ops Q (fuel + 1) (Array.replicate ops.size false) a w.drew := fun fuel hfu => by
    refine wpAny_first hof (Region.noSelect_spec f3) (v := V) (fun c a w hq => by rw [hdst] at hq; exact hQ d V c a w hq) fuel _ a w.drew (free_all (S := 0) hof f2 (fun j hj => by simp at hj)) hready (.inl ⟨by simp [Region.wanted, hgd], hrun⟩) ?_
    rw [hdst]
    refine any_planP (f := f) (J := GS G) (fun w w' h hb => hL.all _ _ h hb) (fun a w w' H hb => H.call hb) (fun a w w' H hb => H.call hb) rfl hk (Obs2.out 0 (no_own _ _) ho) (fun a w hv hst hg => ?_) fuel _ _ w.drew (by simp) (by simp [hfo]) ?_ ?_ ?_ ⟨hmid2, fun _ => hL.all _ _ g (Below.refl _ _).drew⟩
    · obtain ⟨e', G', h1, h2, h3⟩ := nxt2_of a w tail hst (hg fun j it hj => by
        rw [List.getElem?_map] at hj
        obtain ⟨x, _, rfl⟩ := Option.map_eq_some_iff.1 hj
        cases x <;> rfl) fun it hi => by
          obtain ⟨j, hj⟩ := List.mem_iff_getElem?.1 hi
          exact hv j it.fct (by rw [List.getElem?_map, hj]; rfl) (by cases it <;> rfl)
      rw [hlen]
      exact h1 a w h2 h3
    · exact down_set (fun i o _ hi => absurd hi (none_ i)) hready
    · intro i hi hl
      exact none_ i (listed_set hl (by rw [hlen] at hi; omega))
    · have h1 := left_set (l := Array.replicate ops.size false) (i := f) (by simpa using hfo) (none_ f) (plan.map It2.fct).length (by rw [hlen]; exact hfp)
      have h2 := left_le (Array.replicate ops.size false) (plan.map It2.fct).length
      have h3 := Nat.le_of_ble_eq_true k1
      omega
  obtain ⟨s, hs⟩ : ∃ s, ops.size = s + 1 := ⟨ops.size - 1, by omega⟩
  rw [show wpAny P .any ops Q ops.size = wpAny P .any ops Q (s + 1) by rw [hs]]
  exact go s (by omega)
end
end Go.Proofs.YtonhkclkddobhaaDoor
namespace Go.Proofs.YtonhkclkddobhaaDoor
set_option linter.unusedVariables false
set_option linter.unusedSimpArgs false
set_option maxRecDepth 100000
open Go Go.RowKit
theorem kidW_at : ∀ {xs : List DH} {j : Nat} {u : Value}, (kidV xs)[j]? = some u → ∃ i x r, xs[i]? = some x ∧ x.cs[r]? = some u ∧ j = i * 7 + r
  | [], j, u, h => by simp [kidV] at h
  | x :: xs, j, u, h => by
    have e : kidV (x :: xs) = x.cs.toList ++ kidV xs := rfl
    rw [e] at h
    by_cases hj : j < 7
    · rw [List.getElem?_append_left (by rw [Array.length_toList, x.size]; exact hj), Array.getElem?_toList] at h
      exact ⟨0, x, j, rfl, h, by omega⟩
    · rw [List.getElem?_append_right (by rw [Array.length_toList, x.size]; omega), Array.length_toList, x.size] at h
      obtain ⟨i, y, r, h1, h2, h3⟩ := kidW_at h
      exact ⟨i + 1, y, r, h1, h2, by omega⟩
theorem kidW_one {xs : List DH} : ∀ u ∈ kidV xs, u.oneCell' = true := fun u hu => by
  obtain ⟨j, hj⟩ := List.mem_iff_getElem?.1 hu
  obtain ⟨i, x, r, _, h2, _⟩ := kidW_at hj
  exact Array.all_eq_true'.1 x.one u (Array.mem_of_getElem? h2)
theorem OutD.putN {E : TypeId} {sz k g j : Nat} {cur : Array Value} {v u : Value} {xs : List Value} (hv : OutD E sz [(g, .ty E, cur)] v k xs) : OutD E sz [(g, .ty E, setV cur j [u])] v k (xs.set j u) := by
  rcases hv with ⟨h, _⟩ | ⟨g', cap, cur', h, rfl, h1, h2, h3, h4⟩
  · cases h
  · injection h with h _
    injection h with e1 h
    injection h with _ e2
    subst e1 e2
    refine .inr ⟨g, cap, _, rfl, rfl, h1, h2, ?_, ?_⟩
    · show (cur.setIfInBounds j u).size = _
      rw [Array.size_setIfInBounds]
      exact h3
    · show ((cur.setIfInBounds j u).toList).take (k * sz) = _
      rw [Array.toList_setIfInBounds, List.take_set, h4]
theorem set_mid {a b c : List Value} {j m : Nat} {u : Value} (hm : a.length = m) (hj : j < b.length) : (a ++ (b ++ c)).set (m + j) u = a ++ (b.set j u ++ c) := by
  subst hm
  rw [List.set_append, if_neg (by omega), Nat.add_sub_cancel_left, List.set_append, if_pos hj]
theorem fcV_mid (fs : List Fc) (f : Fc) (r : List Fc) : fcV (fs ++ f :: r) = fcV fs ++ (f.cs ++ fcV r) := by simp [fcV]
theorem kidV_mid (xs : List DH) (x : DH) (r : List DH) : kidV (xs ++ x :: r) = kidV xs ++ (x.cs.toList ++ kidV r) := by simp [kidV]
theorem fcV_at {fs : List Fc} {f : Fc} {j : Nat} {v : Value} (h : f.cs[j]? = some v) : (fcV (fs ++ [f]))[fs.length * 4 + j]? = some v := by
  rw [fcV_snoc, List.getElem?_append_right (by rw [fcV_len]; omega), fcV_len, Nat.add_sub_cancel_left]
  exact h
theorem fcV_set {fs : List Fc} {f f' : Fc} {u : Value} {j : Nat} (hj : j < 4) (h : f.cs.set j u = f'.cs) : (fcV (fs ++ [f])).set (fs.length * 4 + j) u = fcV (fs ++ [f']) := by
  rw [fcV_mid, set_mid (fcV_len fs) (by show j < 4; exact hj), fcV_mid, h]
theorem kid_at {done todo : List DH} {x : DH} {j : Nat} {v : Value} (h : x.cs[j]? = some v) : (kidV (done ++ x :: todo))[done.length * 7 + j]? = some v := kidV_get (by simp) h
theorem kid_set {done todo : List DH} {x x' : DH} {j : Nat} {u : Value} (hj : j < 7) (h : x.cs.toList.set j u = x'.cs.toList) : (kidV (done ++ x :: todo)).set (done.length * 7 + j) u = kidV (done ++ x' :: todo) := by
  rw [kidV_mid, set_mid (kidV_len done) (by rw [Array.length_toList, x.size]; exact hj), kidV_mid, h]
/-- The last one goes. -/
theorem out_pop {fs : List Fc} {f : Fc} {t : Hep} {A : Option Addr} {c n : Nat} (h : OutD 53 4 t (.slice A n c) n (fcV (fs ++ [f]))) (hn : n = (fs ++ [f]).length) : OutD 53 4 t (.slice A fs.length c) fs.length (fcV fs) := by
  have hl : (fs ++ [f]).length = fs.length + 1 := by simp
  rcases h with ⟨_, _, h, _⟩ | ⟨g, cap, cur, rfl, e, h1, h2, h3, h4⟩
  · omega
  · injection e with e1 e2 e3
    subst e3
    refine .inr ⟨g, c, cur, rfl, by rw [e1], by omega, h2, h3, ?_⟩
    have := congrArg (List.take (fs.length * 4)) h4
    rw [List.take_take, Nat.min_eq_left (by omega), fcV_snoc, ← fcV_len fs, List.take_left] at this
    rw [← fcV_len fs]
    exact this
/-- What is above: its last entry. -/
theorem above_last {fs : List Fc} {f : Fc} {E : List EntJ} (h : Above E (fs ++ [f])) (hne : fs ≠ []) : ∃ E1 d, E = E1 ++ [(f.κ, f.v, d)] ∧ Above E1 fs := by
  have e1 : ((fs ++ [f]).drop 1).map (fun f => (f.κ, f.v)) = ((fs.drop 1).map fun f => (f.κ, f.v)) ++ [(f.κ, f.v)] := by
    cases fs with
    | nil => exact absurd rfl hne
    | cons f0 r => simp
  unfold Above at h
  rw [e1] at h
  have hl := congrArg List.length h
  rw [List.length_map, List.length_append, List.length_cons, List.length_nil] at hl
  rcases List.eq_nil_or_concat E with rfl | ⟨E1, y, rfl⟩
  · simp at hl
  · rw [List.concat_eq_append, List.map_append, List.map_cons, List.map_nil] at h
    obtain ⟨h1, h2⟩ := List.append_inj' h rfl
    injection h2 with h2 _
    injection h2 with h2 h3
    obtain ⟨κ, v, d⟩ := y
    have h2 : κ = f.κ := h2
    have h3 : v = f.v := h3
    subst h2 h3
    exact ⟨E1, d, by rw [List.concat_eq_append], h1⟩
theorem above_one {f : Fc} {E : List EntJ} (h : Above E ([] ++ [f])) : E = [] := by
  unfold Above at h
  simpa using h
theorem above_more {fs : List Fc} {f f1 f2 : Fc} {E : List EntJ} {d : Nat} (h : Above E (fs ++ [f])) (hκ : f1.κ = f.κ) (hv : f1.v = f.v) : Above (E ++ [(f2.κ, f2.v, d)]) (fs ++ [f1] ++ [f2]) := by
  unfold Above at h ⊢
  rw [List.map_append, h]
  cases fs with
  | nil => simp
  | cons f0 r => simp [hκ, hv]
theorem above_pop {fs : List Fc} {f : Fc} {E : List EntJ} (h : Above E (fs ++ [f])) : ∃ E1, (E = E1 ∨ ∃ v d, E = E1 ++ [(f.κ, v, d)]) ∧ Above E1 fs := by
  by_cases hne : fs = []
  · subst hne
    exact ⟨E, .inl rfl, by rw [above_one h]; rfl⟩
  · obtain ⟨E1, d, e, h1⟩ := above_last h hne
    exact ⟨E1, .inr ⟨_, d, e⟩, h1⟩
/-- What a value is, told by its parts. -/
theorem DY.inv {w : World} {T : DT} {x : DH} (h : DY w T x) : ∃ (b : List UInt8) (a : List Nat) (ks : List DT), T = .mk x.k x.f x.n b x.t a ks ∧ (-9223372036854775808 ≤ x.k ∧ x.k < 9223372036854775808) ∧ (-9223372036854775808 ≤ x.n ∧ x.n < 9223372036854775808) ∧ (x.b.n < 9223372036854775808 ∧ x.t.length < 9223372036854775808 ∧ x.a.n < 9223372036854775808 ∧ x.ks.n < 9223372036854775808) ∧
    BS w w.heap.size x.b.A x.b.n x.b.c b ∧ NS w w.heap.size x.a.A x.a.n x.a.c a := by
  cases h with
  | mk sub h1 h2 h3 h4 h5 h6 h7 h8 h9 => exact ⟨_, _, _, rfl, h1, h2, h3, h4, h5⟩
theorem BS.cfb {w : World} {A : Option Addr} {n c : Nat} {l : List UInt8} (h : BS w w.heap.size A n c l) : CF 1 n (l.map bv) (.slice A n c) w := by
  have := BF.cf (l := l) (v := .slice A n c) ⟨_, _, _, rfl, h⟩
  rwa [h.len] at this
theorem NS.cfn {w : World} {A : Option Addr} {n c : Nat} {l : List Nat} (h : NS w w.heap.size A n c l) : CF 1 n (l.map nvD) (.slice A n c) w := by
  have := NSF.cf (l := l) (v := .slice A n c) ⟨_, _, _, rfl, h⟩
  rwa [h.len] at this
theorem LV.cfk {w : World} {x : SL} {Ts : List DT} (h : LV w x Ts) : ∃ xs : List DH, xs.length = Ts.length ∧ (∀ (i : Nat) (U : DT) (y : DH), Ts[i]? = some U → xs[i]? = some y → DY w U y) ∧ CF 7 x.n (kidV xs) (.slice x.A x.n x.c) w := by
  obtain ⟨sub, h1, h2⟩ := h.at_
  have hl := h.len
  have hget : ∀ (i : Nat) (y : DH), ((List.range x.n).map sub)[i]? = some y → i < x.n ∧ y = sub i := fun i y hy => by
    rw [List.getElem?_map] at hy
    obtain ⟨m, hm, rfl⟩ := Option.map_eq_some_iff.1 hy
    obtain ⟨hlt, e⟩ := List.getElem?_eq_some_iff.1 hm
    rw [List.getElem_range] at e
    subst e
    rw [List.length_range] at hlt
    exact ⟨hlt, rfl⟩
  refine ⟨(List.range x.n).map sub, by simp [hl], fun i U y hU hy => ?_, x.A, x.c, rfl, ?_, h.cap, fun e => ?_, fun u hu => kidW_one u hu, fun h0 => ?_⟩
  · obtain ⟨_, rfl⟩ := hget i y hy
    exact h2 i U hU
  · rw [kidV_len]
    simp
  · apply Nat.eq_zero_of_not_pos
    intro h0
    obtain ⟨g, o, e2, _⟩ := h1 h0
    rw [e] at e2
    cases e2
  · obtain ⟨g, o, e, hg, hc⟩ := h1 h0
    refine ⟨g, o, e, hg.lt, fun j u hu => ?_⟩
    obtain ⟨i, y, r, hi, hr, rfl⟩ := kidW_at hu
    obtain ⟨hlt, rfl⟩ := hget i y hi
    have := hc i hlt r u hr
    rwa [Nat.add_assoc] at this
/-- A copy's parts. -/
theorem out_cells {E : TypeId} {sz k c : Nat} {A : Option Addr} {t r : Hep} {xs : List Value} (h : OutD E sz t (.slice A k c) k xs) (hr : ∀ p ∈ t, p ∈ r) : k ≤ c ∧ (A = none → c = 0) ∧ (0 < k → ∃ g o, A = some ⟨g, o, none⟩ ∧ ∀ (j : Nat) (u : Value), xs[j]? = some u → TN r g (o + j) u) := by
  obtain ⟨A', c', e1, hc⟩ := h.form
  injection e1 with e1 e2 e3
  subst e1 e3
  refine ⟨hc, fun e => ?_, fun h0 => ?_⟩
  · rcases h with ⟨_, e2, _, _⟩ | ⟨g, cap, cur, _, e2, _⟩
    · injection e2
    · injection e2 with e3
      rw [e] at e3
      cases e3
  · obtain ⟨g, cur, rfl, rfl, hcell⟩ := h.at_ h0
    refine ⟨g, 0, rfl, fun j u hu => ⟨_, cur, hr _ (List.mem_singleton.2 rfl), ?_⟩⟩
    rw [Nat.zero_add]
    exact hcell j u hu
theorem item_dc {r : Hep} {x : DH} {b : List UInt8} {a : List Nat} {ks : List DT} (hk : -9223372036854775808 ≤ x.k ∧ x.k < 9223372036854775808) (hn : -9223372036854775808 ≤ x.n ∧ x.n < 9223372036854775808) (hm : x.b.n < 9223372036854775808 ∧ x.t.length < 9223372036854775808 ∧ x.a.n < 9223372036854775808 ∧ x.ks.n < 9223372036854775808) (hbl : b.length = x.b.n) (hal : a.length = x.a.n) (hax : ∀ y ∈ a, y < 18446744073709551616) (hkl : ks.length = x.ks.n)
    {A1 A2 A9 : Option Addr} {c1 c2 c9 : Nat} {t1 t2 t9 : Hep} {hs : List DH} (h1 : OutD 5 1 t1 (.slice A1 x.b.n c1) x.b.n (b.map bv)) (h2 : OutD 36 1 t2 (.slice A2 x.a.n c2) x.a.n (a.map nvD)) (h9 : OutD 27 7 t9 (.slice A9 x.ks.n c9) hs.length (kidV hs)) (hl : hs.length = ks.length) (r1 : ∀ p ∈ t1, p ∈ r) (r2 : ∀ p ∈ t2, p ∈ r) (r9 : ∀ p ∈ t9, p ∈ r)
    (hd : ∀ (i : Nat) (U : DT) (y : DH), ks[i]? = some U → hs[i]? = some y → DC (TN r) U y) : DC (TN r) (.mk x.k x.f x.n b x.t a ks) { x with b := ⟨A1, x.b.n, c1⟩, a := ⟨A2, x.a.n, c2⟩, ks := ⟨A9, x.ks.n, c9⟩ } := by
  rw [show hs.length = x.ks.n by omega] at h9
  obtain ⟨b1, b2, b3⟩ := out_cells h1 r1
  obtain ⟨a1, a2, a3⟩ := out_cells h2 r2
  obtain ⟨k1, k2, k3⟩ := out_cells h9 r9
  refine DC.mk (x := { x with b := ⟨A1, x.b.n, c1⟩, a := ⟨A2, x.a.n, c2⟩, ks := ⟨A9, x.ks.n, c9⟩ }) (fun i => hs.getD i DH.no) hk hn hm hbl b1 b2 (fun h0 => ?_) hal a1 a2 hax (fun h0 => ?_) hkl k1 (fun h0 => ?_) (fun i U hU => ?_)
  · obtain ⟨g, o, e, hc⟩ := b3 h0
    exact ⟨g, o, e, fun j y hy => hc j _ (by rw [List.getElem?_map, hy]; rfl)⟩
  · obtain ⟨g, o, e, hc⟩ := a3 h0
    exact ⟨g, o, e, fun j y hy => hc j _ (by rw [List.getElem?_map, hy]; rfl)⟩
  · obtain ⟨g, o, e, hc⟩ := k3 h0
    refine ⟨g, o, e, fun i hi j u hu => ?_⟩
    have hi : i < x.ks.n := hi
    have hlt : i < hs.length := by omega
    rw [Nat.add_assoc]
    refine hc _ _ (kidV_get (List.getElem?_eq_getElem hlt) ?_)
    rw [List.getD_eq_getElem?_getD, List.getElem?_eq_getElem hlt] at hu
    exact hu
  · have hlt : i < hs.length := by have := (List.getElem?_eq_some_iff.1 hU).1; omega
    rw [List.getD_eq_getElem?_getD, List.getElem?_eq_getElem hlt]
    exact hd i U _ hU (List.getElem?_eq_getElem hlt)
theorem OutD.max {E : TypeId} {sz k c : Nat} {A : Option Addr} {t : Hep} {xs : List Value} (h : OutD E sz t (.slice A k c) k xs) : c < 9223372036854775808 := by
  rcases h with ⟨_, e, _, _⟩ | ⟨g, cap, cur, _, e, _, h2, _⟩
  · injection e with _ _ e
    omega
  · injection e with _ _ e
    subst e
    have h3 : c ≤ maxLen := h2
    unfold maxLen at h3
    omega
def OG (E : TypeId) (sz B : Nat) (h : Hep) (k : Nat) (xs : List Value) (v : Value) (w : World) : Prop := w.ownsRow B E sz v k xs ∧ ∀ g, v.ownBlock = some g → ∀ p ∈ h, p.1 ≠ g
instance {E : TypeId} {sz B : Nat} {h : Hep} {k : Nat} {xs : List Value} {v : Value} : Lasts (OG E sz B h k xs v) := ⟨fun w w' ⟨⟨hl, ho⟩, ha⟩ hb => ⟨⟨hl, by
  rcases ho with ho | ⟨g, cap, cur, e, hB, hcur, h4⟩
  · exact .inl ho
  · have hcur : Blk w g E cur := hcur
    exact .inr ⟨g, cap, cur, e, hB, hcur.below hb hcur.lt, h4⟩⟩, ha⟩⟩
theorem og_of {n : Nat} {w0 w w' : World} {a : Act} {e : Env} {h : Hep} (H : St n w0 a w e h) {E : TypeId} {sz k : Nat} {xs : List Value} {v : Value} (ho : w'.ownsRow w.heap.size E sz v k xs) : OG E sz w0.heap.size h k xs v w' := by
  obtain ⟨hl, ho⟩ := ho
  refine ⟨⟨hl, ?_⟩, fun g hg p hp => ?_⟩
  · rcases ho with ho | ⟨g, cap, cur, e, hB, hcur, h4⟩
    · exact .inl ho
    · exact .inr ⟨g, cap, cur, e, Nat.le_trans H.below.size hB, hcur, h4⟩
  · rcases ho with ⟨rfl, _⟩ | ⟨g', cap, cur, rfl, hB, _⟩
    · cases hg
    · injection hg with hg
      subst hg
      exact Nat.ne_of_lt (Nat.lt_of_lt_of_le (H.heap p hp).lt hB)
theorem og_told {n : Nat} {w0 w : World} {a : Act} {e : Env} {h : Hep} (H : St n w0 a w e h) {E : TypeId} {sz k : Nat} {xs : List Value} {v : Value} (ho : OG E sz w0.heap.size h k xs v w) : ∃ t, OutD E sz t v k xs ∧ St n w0 a w e (h ++ t) := by
  obtain ⟨⟨hx, ho⟩, ha⟩ := ho
  rcases ho with ⟨rfl, h0⟩ | ⟨g, cap, cur, rfl, hB, hcur, h1, h2, h3, h4⟩
  · subst h0
    rw [Nat.zero_mul] at hx
    exact ⟨[], .inl ⟨rfl, rfl, rfl, List.eq_nil_of_length_eq_zero hx⟩, by rw [List.append_nil]; exact H⟩
  · refine ⟨[(g, .ty E, cur)], .inr ⟨g, cap, cur, rfl, rfl, h1, h2, h3, h4⟩, H.size, H.defers, H.env, H.below, fun p hp => ?_, fun p hp => ?_, List.pairwise_append.2 ⟨H.apart, List.pairwise_singleton _ _, fun p hp q hq => ?_⟩⟩
    · rcases List.mem_append.1 hp with hp | hp
      · exact H.heap p hp
      · rw [List.mem_singleton.1 hp]
        exact hcur
    · rcases List.mem_append.1 hp with hp | hp
      · exact H.own p hp
      · rw [List.mem_singleton.1 hp]
        exact hB
    · rw [List.mem_singleton.1 hq]
      exact ha g rfl p hp
theorem og_two {n : Nat} {w0 w : World} {a : Act} {e : Env} {h : Hep} (H : St n w0 a w e h) {E E' : TypeId} {sz k sz' k' : Nat} {xs xs' : List Value} {v v' : Value} (hne : E ≠ E') (h1 : OG E sz w0.heap.size h k xs v w) (h2 : OG E' sz' w0.heap.size h k' xs' v' w) : ∃ t t', OutD E sz t v k xs ∧ OutD E' sz' t' v' k' xs' ∧ St n w0 a w e (h ++ (t ++ t')) := by
  obtain ⟨t, ht, H1⟩ := og_told H h1
  have h3 : OG E' sz' w0.heap.size (h ++ t) k' xs' v' w := ⟨h2.1, fun g hg p hp => by
    rcases List.mem_append.1 hp with hp | hp
    · exact h2.2 g hg p hp
    · rcases ht with ⟨rfl, _⟩ | ⟨g1, cap, cur, rfl, _⟩
      · cases hp
      · rw [List.mem_singleton.1 hp]
        rintro rfl
        have hb1 : Blk w g1 E cur := H1.heap (g1, .ty E, cur) (by simp)
        rcases h2.1.2 with ⟨rfl, _⟩ | ⟨g2, cap2, cur2, rfl, _, hb2, _⟩
        · cases hg
        · injection hg with hg
          subst hg
          have hb2 : Blk w g2 E' cur2 := hb2
          have e1 := Eq.trans (Eq.symm hb1) hb2
          injection e1 with e1
          injection e1 with _ e2 _
          exact hne e2⟩
  obtain ⟨t', ht', H2⟩ := og_told H1 h3
  exact ⟨t, t', ht, ht', by rw [← List.append_assoc]; exact H2⟩
theorem ia_cstep {g j n c : Nat} (hj : j < n) (W : World) : (Instr.indexAt 54 (.slice (some ⟨g, 0, none⟩) n c) (.int .i64 (j : Int))).run Tryd.prog W = .ok (.pointer (some ⟨g, j * 4, none⟩)) W := by
  have h1 : (0 : Int) ≤ (j : Int) := by omega
  have h2 : (j : Int) < (n : Int) := by omega
  go_simp
theorem fa_cstep0 {g o : Nat} (W : World) : (Instr.fieldAt 53 (.pointer (some ⟨g, o, none⟩)) 0).run Tryd.prog W = .ok (.pointer (some ⟨g, o, none⟩)) W := by kernel_rfl
theorem fa_cstep1 {g o : Nat} (W : World) : (Instr.fieldAt 53 (.pointer (some ⟨g, o, none⟩)) 1).run Tryd.prog W = .ok (.pointer (some ⟨g, o + 2, none⟩)) W := by kernel_rfl
theorem fa_cstep2 {g o : Nat} (W : World) : (Instr.fieldAt 53 (.pointer (some ⟨g, o, none⟩)) 2).run Tryd.prog W = .ok (.pointer (some ⟨g, o + 3, none⟩)) W := by kernel_rfl
theorem fa_kid3 {g o : Nat} (W : World) : (Instr.fieldAt 27 (.pointer (some ⟨g, o, none⟩)) 3).run Tryd.prog W = .ok (.pointer (some ⟨g, o + 3, none⟩)) W := by kernel_rfl
theorem fa_kid5 {g o : Nat} (W : World) : (Instr.fieldAt 27 (.pointer (some ⟨g, o, none⟩)) 5).run Tryd.prog W = .ok (.pointer (some ⟨g, o + 5, none⟩)) W := by kernel_rfl
theorem fa_kid6 {g o : Nat} (W : World) : (Instr.fieldAt 27 (.pointer (some ⟨g, o, none⟩)) 6).run Tryd.prog W = .ok (.pointer (some ⟨g, o + 6, none⟩)) W := by kernel_rfl
section
variable {g j : Nat} {t : Tid} {cs : Array Value}
theorem ld_intC {m : Int} (hj : cs[j]? = some (.int .i64 m)) (W : World) (h : Blk W g t cs) : (Instr.loadAt 3 (.pointer (some ⟨g, j, none⟩))).run Tryd.prog W = .ok (.int .i64 m) W := by
  have hc := (h.cell j).trans hj
  go_simp
theorem ld_dersC {A : Option Addr} {n c : Nat} (hj : cs[j]? = some (.slice A n c)) (W : World) (h : Blk W g t cs) : (Instr.loadAt 25 (.pointer (some ⟨g, j, none⟩))).run Tryd.prog W = .ok (.slice A n c) W := by
  have hc := (h.cell j).trans hj
  go_simp
theorem ld_bytesC {A : Option Addr} {n c : Nat} (hj : cs[j]? = some (.slice A n c)) (W : World) (h : Blk W g t cs) : (Instr.loadAt 23 (.pointer (some ⟨g, j, none⟩))).run Tryd.prog W = .ok (.slice A n c) W := by
  have hc := (h.cell j).trans hj
  go_simp
theorem ld_u64sC {A : Option Addr} {n c : Nat} (hj : cs[j]? = some (.slice A n c)) (W : World) (h : Blk W g t cs) : (Instr.loadAt 24 (.pointer (some ⟨g, j, none⟩))).run Tryd.prog W = .ok (.slice A n c) W := by
  have hc := (h.cell j).trans hj
  go_simp
theorem ld_listC {κ : Key} (h0 : cs[j]? = some (.pointer (keyP κ))) (h1 : cs[j + 1]? = some (.int .i64 (κ.2 : Int))) (W : World) (h : Blk W g t cs) : (Instr.loadAt 51 (.pointer (some ⟨g, j, none⟩))).run Tryd.prog W = .ok (keyV κ) W := by
  have hr : W.rangeAt g j (keyC κ).toList := fun i v hv => by
    rw [h.cell]
    match i, hv with
    | 0, hv => injection hv with hv; subst hv; exact h0
    | 1, hv => injection hv with hv; subst hv; exact h1
    | i + 2, hv => simp [keyC] at hv
  have := run_loadAt_mid (P := Tryd.prog) W g j 51 (keyC κ).toList _ hr Tryd.underlying51 rfl (by rw [Array.length_toList, show (keyC κ).size = 2 from rfl]; kernel_rfl)
  rwa [Array.toArray_toList] at this
theorem st_intC {m k : Int} (hj : cs[j]? = some (.int .i64 m)) (W : World) (h : Blk W g t cs) : (Instr.storeAt 3 (.pointer (some ⟨g, j, none⟩)) (.int .i64 k)).run Tryd.prog W = .ok () (W.setCells g j [.int .i64 k]) := by
  have hc := (h.cell j).trans hj
  have hf := h.frozen j
  have hs : (W.cell? ⟨g, j, none⟩).isSome = true := by rw [hc]; rfl
  show _ = Result.ok () (W.setCell ⟨g, j, none⟩ (.int .i64 k))
  go_simp
theorem st_bytesC {A A' : Option Addr} {n c n' c' : Nat} (hj : cs[j]? = some (.slice A n c)) (W : World) (h : Blk W g t cs) : (Instr.storeAt 23 (.pointer (some ⟨g, j, none⟩)) (.slice A' n' c')).run Tryd.prog W = .ok () (W.setCells g j [.slice A' n' c']) := by
  have hc := (h.cell j).trans hj
  have hf := h.frozen j
  have hs : (W.cell? ⟨g, j, none⟩).isSome = true := by rw [hc]; rfl
  show _ = Result.ok () (W.setCell ⟨g, j, none⟩ (.slice A' n' c'))
  go_simp
theorem st_u64sC {A A' : Option Addr} {n c n' c' : Nat} (hj : cs[j]? = some (.slice A n c)) (W : World) (h : Blk W g t cs) : (Instr.storeAt 24 (.pointer (some ⟨g, j, none⟩)) (.slice A' n' c')).run Tryd.prog W = .ok () (W.setCells g j [.slice A' n' c']) := by
  have hc := (h.cell j).trans hj
  have hf := h.frozen j
  have hs : (W.cell? ⟨g, j, none⟩).isSome = true := by rw [hc]; rfl
  show _ = Result.ok () (W.setCell ⟨g, j, none⟩ (.slice A' n' c'))
  go_simp
theorem st_dersC {A A' : Option Addr} {n c n' c' : Nat} (hj : cs[j]? = some (.slice A n c)) (W : World) (h : Blk W g t cs) : (Instr.storeAt 25 (.pointer (some ⟨g, j, none⟩)) (.slice A' n' c')).run Tryd.prog W = .ok () (W.setCells g j [.slice A' n' c']) := by
  have hc := (h.cell j).trans hj
  have hf := h.frozen j
  have hs : (W.cell? ⟨g, j, none⟩).isSome = true := by rw [hc]; rfl
  show _ = Result.ok () (W.setCell ⟨g, j, none⟩ (.slice A' n' c'))
  go_simp
end
theorem sl_csteps {g k n c : Nat} (hk : k ≤ n) (hn : n ≤ c) (W : World) : (Instr.sliceAt 54 (.slice (some ⟨g, 0, none⟩) n c) none (some (.int .i64 ((k : Nat) : Int))) none).run Tryd.prog W = .ok (.slice (some ⟨g, 0, none⟩) k c) W := by
  have h1 : (0 : Int) ≤ (k : Int) := by omega
  have h2 : (k : Int) ≤ (c : Int) := by omega
  go_simp
theorem zero_ders (W : World) : (zeroValue 25).run Tryd.prog W = .ok (.slice none 0 0) W := by kernel_rfl
theorem und_mapc : Tryd.prog.underlying 55 = some (.map 51 25) := by kernel_rfl
theorem bd_cstep0 (A : Option Addr) (n c : Nat) (W : World) : (Instr.build 53 [(1, .slice A n c)].toArray).run Tryd.prog W = .ok (.agg (Fc.mk (none, 0) (.slice A n c) [] 0 []).cs.toArray) W := by kernel_rfl
theorem bd_cstep (κ : Key) (A : Option Addr) (n c : Nat) (W : World) : (Instr.build 53 [(0, keyV κ), (1, .slice A n c)].toArray).run Tryd.prog W = .ok (.agg (Fc.mk κ (.slice A n c) [] 0 []).cs.toArray) W := by kernel_rfl
theorem run_cstep1 {f : Fc} (W : World) : (Instr.buildSlice 54 1 [(0, .agg f.cs.toArray)].toArray).run Tryd.prog W = .ok (.slice (some ⟨W.heap.size, 0, none⟩) 1 1) (W.alloc (.cells f.cs.toArray 53)) := by kernel_rfl
theorem ia_derC {g j n c : Nat} (hj : j < n) (W : World) : (Instr.indexAt 25 (.slice (some ⟨g, 0, none⟩) n c) (.int .i64 (j : Int))).run Tryd.prog W = .ok (.pointer (some ⟨g, j * 7, none⟩)) W := by
  have := ia_ders (o := 0) (g := g) (c := c) hj W
  rwa [Nat.zero_add] at this
theorem zd_subC {k m c : Int} (hc : k - m = c) (h : -9223372036854775808 ≤ c ∧ c < 9223372036854775808) (p q : Operand) (W : World) : (do eqGuard .sub 3 p q (.int .i64 k) (.int .i64 m); binOp .sub 3 (.int .i64 k) (.int .i64 m) : Sem Value).run Tryd.prog W = .ok (.int .i64 c) W := by
  subst hc
  have e : IntKind.i64.wrap (k - m) = k - m := IntWalk.i64_in _ (by omega)
  go_simp
theorem set_ne {cs : Array Value} {i j : Nat} {u : Value} (h : j ≠ i) : (setV cs j [u])[i]? = cs[i]? := by
  show (cs.setIfInBounds j u)[i]? = _
  exact Array.getElem?_setIfInBounds_ne h
theorem perm_in {α : Type} (a b c : α) (F R : List α) : (a :: ([b] ++ ((F ++ [c]) ++ R))).Perm (a :: b :: c :: (F ++ R)) := by
  classical
  refine List.perm_iff_count.2 fun x => ?_
  simp only [List.count_append, List.count_cons, List.count_nil]
  omega
theorem perm_item {α : Type} (a b : α) (F R t1 t2 t9 t10 : List α) : (a :: b :: (((F ++ (R ++ [])) ++ (t1 ++ t2)) ++ t9 ++ t10)).Perm (a :: (t10 ++ (((F ++ [b]) ++ t9) ++ ((R ++ (t1 ++ t2)) ++ [])))) := by
  classical
  refine List.perm_iff_count.2 fun x => ?_
  simp only [List.count_append, List.count_cons, List.count_nil]
  omega
theorem cstep_infoC : (Tryd.prog.info? 53).map (fun i => (i.zero, i.size, i.bytes)) = some (some (.agg (Fc.mk (none, 0) (.slice none 0 0) [] 0 []).cs.toArray), 4, 48) := by kernel_rfl
section
variable {n : Nat} {w0 w w' : World} {a : Act} {e : Env} {h t : Hep} {Q : Exit → Act → World → Prop} {ops : Array Oper} {rest : List Oper} {o : Oper}
/-- A plain operation, in whatever world. -/
theorem runP {P : Program} {v : Value} (H : St n w0 a w e h) (hs : simV e o.op = some v) : ∀ W, (execOp a.eval o).run P W = .ok (.value v) W := fun W => simV_of (w0 := W) (h := []) ⟨H.size, H.defers, H.env, Below.refl _ _, (fun p hp => by cases hp), (fun p hp => by cases hp), List.Pairwise.nil⟩ hs
/-- A list that is no key: nothing, and that it isn't there. -/
theorem does_lookJ {x y : Operand} {b c k : Nat} {l : List EntJ} {κ : Key} (ho : o.op = .lookup 55 x y true) (hx : sev e x = some (.map (some b))) (hy : sev e y = some (keyV κ)) (hk : h[k]? = some (b, .map (entsJ l) c, #[])) (hκ : okK w0 κ) (hE : ∀ x ∈ l, okK w0 x.1) (hno : ∀ x ∈ l, x.1 ≠ κ) : Does Tryd.prog Q n w0 e h o (.tuple #[.slice none 0 0, .bool false]) := does_run fun a w H => by
  have hb : Blk w b (.map (entsJ l) c) #[] := H.heap _ (List.mem_iff_getElem?.2 ⟨k, hk⟩)
  have hl := run_lookJ und_mapc hb (hκ.below H.below) (fun x hx => (hE x hx).below H.below) hno (zero_ders w)
  simp [execOp, ho, H.ev hx, H.ev hy, hl, Result.andThen]
/-- A list becomes a key. -/
theorem pl_setJ {x y u : Operand} {b c k : Nat} {l : List EntJ} {κ : Key} {v : Value} (ho : o.op = .mapUpdate 55 x y u) (hx : sev e x = some (.map (some b))) (hy : sev e y = some (keyV κ)) (hu : sev e u = some v) (hk : h[k]? = some (b, .map (entsJ l) c, #[])) (hκ : okK w0 κ) (hE : ∀ x ∈ l, okK w0 x.1) (hno : ∀ x ∈ l, x.1 ≠ κ) (hg : o.guard = none) (hdst : o.dst = none)
    (H : St n w0 a w e h) (next : ∀ a w, St n w0 a w e (h.set k (b, .map (entsJ (l ++ [(κ, v, c)])) (c + 1), #[])) → wpList Tryd.prog ops Q rest a w) : wpList Tryd.prog ops Q (o :: rest) a w :=
  wpList_plain hg fun K hK => by
    have hmem := List.mem_iff_getElem?.2 ⟨k, hk⟩
    have hb : Blk w b (.map (entsJ l) c) #[] := H.heap _ hmem
    have hown : w0.heap.size ≤ b := H.own _ hmem
    have hset := MapKept.heap_set (o' := Obj.map (entsJ (l ++ [(κ, v, c)])) (c + 1)) hb.2
    have hgrow : w.grownBy { w with heap := w.heap.setIfInBounds b (.map (entsJ (l ++ [(κ, v, c)])) (c + 1)) } (some b) := ⟨rfl, rfl, rfl, by simp, fun j _ hj => hset.2 j (fun e => hj (by rw [e]))⟩
    have hs := run_setJ und_mapc hb (hκ.below H.below) (fun x hx => (hE x hx).below H.below) hno v
    unfold Oper.wp
    simp [execOp, ho, H.ev hx, H.ev hy, H.ev hu, hs, Result.andThen]
    refine hK _ _ (next _ _ ?_)
    rw [hdst]
    exact H.writeT hk ⟨rfl, hset.1⟩ (H.below.grown hgrow H.below.size (fun j hj => by injection hj with hj; rw [← hj]; exact hown)) (fun b' t' d hne hB => hB.as (hset.2 b' hne))
/-- A list is a key no more, if it was the last one. -/
theorem pl_delJ {x y : Operand} {b c k : Nat} {l l' : List EntJ} {κ : Key} (ho : o.op = .call { callee := .builtin .delete, args := #[x, y], argTypes := #[55, 51] }) (hx : sev e x = some (.map (some b))) (hy : sev e y = some (keyV κ)) (hk : h[k]? = some (b, .map (entsJ l) c, #[])) (hκ : okK w0 κ) (hE : ∀ x ∈ l', okK w0 x.1) (hno : ∀ x ∈ l', x.1 ≠ κ) (hl' : l = l' ∨ ∃ v d, l = l' ++ [(κ, v, d)]) (hg : o.guard = none) (hdst : o.dst = none)
    (H : St n w0 a w e h) (next : ∀ a w, St n w0 a w e (h.set k (b, .map (entsJ l') c, #[])) → wpList Tryd.prog ops Q rest a w) : wpList Tryd.prog ops Q (o :: rest) a w :=
  wpList_plain hg fun K hK => by
    have hmem := List.mem_iff_getElem?.2 ⟨k, hk⟩
    have hb : Blk w b (.map (entsJ l) c) #[] := H.heap _ hmem
    have hown : w0.heap.size ≤ b := H.own _ hmem
    have hset := MapKept.heap_set (o' := Obj.map (entsJ l') c) hb.2
    have hgrow : w.grownBy { w with heap := w.heap.setIfInBounds b (.map (entsJ l') c) } (some b) := ⟨rfl, rfl, rfl, by simp, fun j _ hj => hset.2 j (fun e => hj (by rw [e]))⟩
    have hs : (Builtin.delete_ #[55, 51] o.type #[.map (some b), keyV κ]).run Tryd.prog w = .ok (.tuple #[]) { w with heap := w.heap.setIfInBounds b (.map (entsJ l') c) } := by
      rcases hl' with rfl | ⟨v, d', rfl⟩
      · exact run_delNoJ und_mapc hb (hκ.below H.below) (fun x hx => (hE x hx).below H.below) hno
      · exact run_delJ und_mapc hb (hκ.below H.below) (fun x hx => (hE x hx).below H.below) hno
    unfold Oper.wp
    simp [execOp, ho, resolve, invoke, builtin, H.ev hx, H.ev hy, hs, Result.andThen]
    refine hK _ _ (next _ _ ?_)
    rw [hdst]
    exact H.writeT hk ⟨rfl, hset.1⟩ (H.below.grown hgrow H.below.size (fun j hj => by injection hj with hj; rw [← hj]; exact hown)) (fun b' t' d hne hB => hB.as (hset.2 b' hne))
/-- A new row. -/
theorem pl_madeC {P : Program} {d : Nat} {F : Nat → Value} {t : TypeId} {z : Array Value} (hm : ∀ a w, St n w0 a w e h → (execOp a.eval o).run P w = .ok (.value (F w.heap.size)) (w.alloc (.cells z t))) (hg : o.guard = none) (hdst : o.dst = some d) (hl : Nat.blt d n = true) (hf : e.all (fun p => !Nat.beq p.1 d) = true)
    (H : St n w0 a w e h) (next : ∀ (g : Nat) a w, St n w0 a w ((d, F g) :: e) ((g, .ty t, z) :: h) → wpList P ops Q rest a w) : wpList P ops Q (o :: rest) a w :=
  wpList_plain hg fun K hK => by
    unfold Oper.wp
    rw [hm a w H]
    refine hK _ _ (next w.heap.size _ _ ?_)
    rw [hdst]
    exact (H.alloc z t).put _ hl hf
/-- One step more. -/
theorem pl_pushC {d g : Nat} {x y : Operand} {v : Value} {fs : List Fc} {f : Fc} (ho : o.op = .call { callee := .builtin .append, args := #[x, y], argTypes := #[54, 54] }) (hx : sev e x = some v) (hy : sev e y = some (.slice (some ⟨g, 0, none⟩) 1 1)) (hb : (g, .ty 53, f.cs.toArray) ∈ h) (h1c : f.v.oneCell' = true)
    (hv : OutD 53 4 t v fs.length (fcV fs)) (hs : fs.length ≤ 20000) (hg : o.guard = none) (hdst : o.dst = some d) (hl : Nat.blt d n = true) (hf : e.all (fun p => !Nat.beq p.1 d) = true) (H : St n w0 a w e (h ++ t))
    (next : ∀ A c t' a w', OutD 53 4 t' (.slice A (fs ++ [f]).length c) (fs ++ [f]).length (fcV (fs ++ [f])) → St n w0 a w' ((d, .slice A (fs ++ [f]).length c) :: e) (h ++ t') → wpList Tryd.prog ops Q rest a w') : wpList Tryd.prog ops Q (o :: rest) a w :=
  wpList_plain hg fun K_ hK => by
    have hbl : Blk w g 53 f.cs.toArray := H.heap _ (List.mem_append_left _ hb)
    have hi := cstep_infoC
    cases hq : Tryd.prog.info? 53 with
    | none => rw [hq] at hi; cases hi
    | some i =>
      rw [hq] at hi
      simp only [Option.map_some, Option.some.injEq, Prod.mk.injEq] at hi
      obtain ⟨hz0, hsz, hby⟩ := hi
      have hown := hv.owns H
      obtain ⟨v', w', h1, h2, h3, _, h4⟩ := run_append_own_at (P := Tryd.prog) w w0.heap.size 54 o.type 53 i _ 4 48 (by kernel_rfl) hq hz0 hsz hby rfl (by omega) v fs.length (fcV fs) hown ⟨g, 0, none⟩ 1 1 f.cs rfl (fun j y hy => by
        rw [Addr.add_lit, Nat.zero_add, hbl.cell, List.getElem?_toArray]
        exact hy) (fun y hy => by
        simp only [Fc.cs, List.mem_cons, List.not_mem_nil, or_false] at hy
        rcases hy with rfl | rfl | rfl | rfl
        · rfl
        · rfl
        · exact h1c
        · rfl) (by simp only [maxLen]; omega) (by omega) H.below.size
      obtain ⟨t', hv', H', _⟩ := H.appD hv h2 h3 h4 (by omega)
      obtain ⟨A', c', rfl, _⟩ := hv'.form
      unfold Oper.wp
      simp [execOp, ho, resolve, invoke, builtin, H.ev hx, H.ev hy, h1, Result.andThen]
      refine hK _ _ ?_
      rw [hdst]
      have e1 : fs.length + 1 = (fs ++ [f]).length := by simp
      rw [← fcV_snoc, e1] at hv'
      rw [e1]
      exact next A' c' t' _ _ hv' (H'.put _ hl hf)
end
end Go.Proofs.YtonhkclkddobhaaDoor
