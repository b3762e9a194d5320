/- Package disk (layer 14): what Copy calls: maps.Clone, slices.Clone; Copy. -/
import Derived.Test.YtiebelmglchbdaaPf
import Derived.Test.YtiebelmglchbdaaPq
import Derived.Shelf.SlMaps.Clone
namespace Go.Proofs.Ytiebelmglchbdaa
set_option linter.unusedVariables false
set_option linter.unusedSimpArgs false
set_option maxRecDepth 100000
open Go Go.RowKit

set_option maxHeartbeats 2000000 in
theorem cloneB_any {b c : Nat} {es : Array MapEntry} (w : World) (hb : w.heap[b]? = some (.map es c)) : Calls Try.prog 43 #[.map (some b)] w fun r w' => r = .returned (.map (some w.heap.size)) ∧ w' = w.alloc (.map es c) := by
  have hq := fun w => run_eql_map_nil_sl (P := Try.prog) w 54 _ _ (some b) Try.underlying54
  go_enter Try.func43, Try.ntmps43
  go_wp2
  rw [run_callFunc_extern (by kernel_rfl : Try.prog.funcs[52]? = some Try.f52) (by kernel_rfl) (by kernel_rfl) (by kernel_rfl) (e := Extern.MapsClone.clone) (by kernel_rfl), run_maps_clone_sl w 54 hb]
  simp only [Result.andThen]
  rw [Oper.upon_value]
  go_wp2
  rw [run_typeAssert_map_sl _ 54 _ _ _ _ Try.underlying54]
  simp only [Result.andThen]
  rw [Oper.upon_value]
  go_wp2
  go_ret
  exact ⟨rfl, rfl⟩
set_option maxHeartbeats 2000000 in
theorem cloneI_any {b c : Nat} {es : Array MapEntry} (w : World) (hb : w.heap[b]? = some (.map es c)) : Calls Try.prog 45 #[.map (some b)] w fun r w' => r = .returned (.map (some w.heap.size)) ∧ w' = w.alloc (.map es c) := by
  have hq := fun w => run_eql_map_nil_sl (P := Try.prog) w 56 _ _ (some b) Try.underlying56
  go_enter Try.func45, Try.ntmps45
  go_wp2
  rw [run_callFunc_extern (by kernel_rfl : Try.prog.funcs[52]? = some Try.f52) (by kernel_rfl) (by kernel_rfl) (by kernel_rfl) (e := Extern.MapsClone.clone) (by kernel_rfl), run_maps_clone_sl w 56 hb]
  simp only [Result.andThen]
  rw [Oper.upon_value]
  go_wp2
  rw [run_typeAssert_map_sl _ 56 _ _ _ _ Try.underlying56]
  simp only [Result.andThen]
  rw [Oper.upon_value]
  go_wp2
  go_ret
  exact ⟨rfl, rfl⟩
theorem Kn.more {w0 w w' : World} {h : Hep} (K : Kn w0 w h) (hb : Below w.heap.size w w') : Kn w0 w' h := ⟨K.below.trans (hb.mono K.below.size), fun p hp => (K.heap p hp).below hb (K.heap p hp).lt, K.own, K.apart⟩
theorem Kn.cons {w0 w w' : World} {h : Hep} {g : Nat} {t : Tid} {cs : Array Value} (K : Kn w0 w h) (hb : Below w.heap.size w w') (hg : w.heap.size ≤ g) (hB : Blk w' g t cs) : Kn w0 w' ((g, t, cs) :: h) := by
  refine ⟨K.below.trans (hb.mono K.below.size), fun p hp => ?_, fun p hp => ?_, List.pairwise_cons.2 ⟨fun q hq => Nat.ne_of_gt (Nat.lt_of_lt_of_le (K.heap q hq).lt hg), K.apart⟩⟩
  · rcases List.mem_cons.1 hp with rfl | hp
    · exact hB
    · exact (K.heap p hp).below hb (K.heap p hp).lt
  · rcases List.mem_cons.1 hp with rfl | hp
    · exact Nat.le_trans K.below.size hg
    · exact K.own p hp
theorem clone_K {F : FuncId} {w0 w : World} {h : Hep} {b c : Nat} {es : List EntI} (hc : ∀ w : World, w.heap[b]? = some (.map (entsI es) c) → Calls Try.prog F #[.map (some b)] w fun r w' => r = .returned (.map (some w.heap.size)) ∧ w' = w.alloc (.map (entsI es) c)) (hb : Blk w b (.map (entsI es) c) #[]) (K : Kn w0 w h) : Calls Try.prog F #[.map (some b)] w fun r w' => ∃ g, r = .returned (.map (some g)) ∧ Below w.heap.size w w' ∧ Kn w0 w' ((g, .map (entsI es) c, #[]) :: h) := by
  refine (hc w hb.2).mono ?_
  rintro r w' ⟨e, rfl⟩
  have hA := MapKept.heap_alloc w (.map (entsI es) c)
  have hbel : Below w.heap.size w (w.alloc (.map (entsI es) c)) := (Below.refl _ _).alloc (Nat.le_refl _) _
  exact ⟨_, e, hbel, K.cons hbel (Nat.le_refl _) ⟨rfl, hA.1⟩⟩
theorem bs_none (W : World) : (Instr.buildSlice 55 0 [].toArray).run Try.prog W = .ok (.slice (some ⟨W.heap.size, 0, none⟩) 0 0) (W.alloc (.cells #[] 82)) := by kernel_rfl
theorem sl_isnilW {A : Option Addr} {m c : Nat} {b : Bool} (h : A.isNone = b) (p q : Operand) (W : World) : (do eqGuard .eql 55 p q (.slice A m c) (.slice none 0 0); binOp .eql 55 (.slice A m c) (.slice none 0 0) : Sem Value).run Try.prog W = .ok (.bool b) W := by
  subst h
  cases A <;> kernel_rfl
section
variable {P : Program} {n : Nat} {w0 w w' : World} {a : Act} {e : Env} {h t hh : Hep} {Q : Exit → Act → World → Prop} {ops : Array Oper} {rest : List Oper} {o : Oper}
/-- A row's copy. -/
theorem pl_appL {d : Nat} {x y : Operand} {g1 gs cs : Nat} {cur : Array Value} {L : List (Nat × List UInt8)} (hcur : Blk w gs (.ty 82) cur) (hL : ∀ p ∈ L, p.2.length = 512) (hc : cur.toList.take (L.length * 513) = dwcs L) (ho : o.op = .call { callee := .builtin .append, args := #[x, y], argTypes := #[55, 55] }) (hx : sev e x = some (.slice (some ⟨g1, 0, none⟩) 0 0)) (hy : sev e y = some (.slice (some ⟨gs, 0, none⟩) L.length cs))
    (hs : L.length ≤ 100000) (hg : o.guard = none) (hdst : o.dst = some d) (hl : Nat.blt d n = true) (hf : e.all (fun p => !Nat.beq p.1 d) = true) (H : St n w0 a w e ((g1, .ty 82, #[]) :: hh))
    (next : ∀ A c t' a w', OutD 82 513 t' (.slice A L.length c) L.length (dwcs L) → St n w0 a w' ((d, .slice A L.length c) :: e) (t' ++ hh) → wpList Try.prog ops Q rest a w') : wpList Try.prog ops Q (o :: rest) a w :=
  wpList_plain hg fun K_ hK => by
    have hv : OutD 82 513 [(g1, .ty 82, #[])] (.slice (some ⟨g1, 0, none⟩) 0 0) 0 [] := .inr ⟨g1, 0, #[], rfl, rfl, Nat.le_refl _, Nat.zero_le _, rfl, rfl⟩
    have H2 : St n w0 a w e (hh ++ [(g1, .ty 82, #[])]) := H.perm' (show ((g1, Tid.ty 82, #[]) :: hh).Perm (hh ++ [(g1, Tid.ty 82, #[])]) from @List.perm_append_comm _ [(g1, Tid.ty 82, #[])] hh)
    have hb := hcur
    have hi := write_infoP
    cases hq : Try.prog.info? 82 with
    | none => rw [hq] at hi; cases hi
    | some i =>
      rw [hq] at hi
      simp only [Option.map_some, Option.some.injEq, Prod.mk.injEq] at hi
      obtain ⟨hz0, hsz, hby⟩ := hi
      have hown := hv.owns H2
      obtain ⟨v', w', h1, h2, h3, _, h4⟩ := run_append_own_at (P := Try.prog) w w0.heap.size 55 o.type 82 i _ 513 520 Try.underlying55 hq hz0 hsz hby (dwa_size (p := (0, zeroB)) zero_len) (by omega) _ 0 [] hown ⟨gs, 0, none⟩ L.length cs (dwcs L) (dwcs_len hL) (fun j y hy => by
        rw [Addr.add_lit, Nat.zero_add, hb.cell, ← Array.getElem?_toList]
        rw [← hc, List.getElem?_take] at hy
        split at hy
        · exact hy
        · cases hy) (fun u hu => by
        obtain ⟨p, _, hp⟩ := List.mem_flatMap.1 hu
        exact dwv_one p u hp) (by simp only [maxLen]; omega) (by omega) H.below.size
      rw [Nat.zero_add, List.nil_append] at h2
      obtain ⟨t', hv', H'⟩ : ∃ t', OutD 82 513 t' v' L.length (dwcs L) ∧ St n w0 a w' e (hh ++ t') := by
        rcases Nat.eq_zero_or_pos L.length with h0 | h0
        · rcases h2.2 with ⟨e1, _⟩ | ⟨g, cap, cur', e1, hB, hcu, q1, q2, q3, q4⟩
          · subst e1
            refine ⟨[], .inl ⟨rfl, rfl, h0, List.eq_nil_of_length_eq_zero (by rw [dwcs_len hL, h0])⟩, ?_⟩
            rw [List.append_nil]
            have hap := List.pairwise_append.1 H2.apart
            refine ⟨H2.size, H2.defers, H2.env, H2.below.grown h3 H2.below.size (fun g' hg' => ?_), fun p hp => ?_, fun p hp => H2.own p (List.mem_append_left _ hp), hap.1⟩
            · injection hg' with hg'
              rw [← hg']
              exact H2.own _ (List.mem_append_right _ (List.mem_singleton.2 rfl))
            · have hbl := H2.heap p (List.mem_append_left _ hp)
              exact hbl.as (h3.block p.1 hbl.lt (fun e1 => by
                injection e1 with e1
                exact hap.2.2 p hp _ (List.mem_singleton.2 rfl) e1))
          · have hfar : ∀ p ∈ hh, p.1 ≠ g := fun p hp => by
              rcases h4 with hb4 | hb4
              · rw [e1] at hb4
                injection hb4 with hb4
                have hap := List.pairwise_append.1 H2.apart
                have := hap.2.2 p hp (g1, .ty 82, #[]) (List.mem_singleton.2 rfl)
                rw [show g = g1 from hb4]
                exact this
              · rw [e1] at hb4
                injection hb4 with hb4
                have hb4 : g = w.heap.size := hb4
                rw [hb4]
                exact Nat.ne_of_lt (H2.heap p (List.mem_append_left _ hp)).lt
            have hap := List.pairwise_append.1 H2.apart
            refine ⟨[(g, .ty 82, cur')], .inr ⟨g, cap, cur', rfl, e1, q1, q2, q3, q4⟩, H2.size, H2.defers, H2.env, H2.below.grown h3 H2.below.size (fun g' hg' => ?_), fun p hp => ?_, fun p hp => ?_, List.pairwise_append.2 ⟨hap.1, List.pairwise_singleton _ _, fun p hp q hq2 => by rw [List.mem_singleton.1 hq2]; exact hfar p hp⟩⟩
            · injection hg' with hg'
              rw [← hg']
              exact H2.own _ (List.mem_append_right _ (List.mem_singleton.2 rfl))
            · rcases List.mem_append.1 hp with hp | hp
              · have hbl := H2.heap p (List.mem_append_left _ hp)
                exact hbl.as (h3.block p.1 hbl.lt (fun e1 => by
                  injection e1 with e1
                  exact hap.2.2 p hp _ (List.mem_singleton.2 rfl) e1))
              · rw [List.mem_singleton.1 hp]
                exact hcu
            · rcases List.mem_append.1 hp with hp | hp
              · exact H2.own p (List.mem_append_left _ hp)
              · rw [List.mem_singleton.1 hp]
                exact hB
        · obtain ⟨t', q1, q2, _⟩ := H2.appD hv h2 h3 h4 h0
          exact ⟨t', q1, q2⟩
      obtain ⟨A, c, rfl, _⟩ := hv'.form
      have H3 : St n w0 a w' e (t' ++ hh) := H'.perm' List.perm_append_comm
      unfold Oper.wp
      simp [execOp, ho, resolve, invoke, builtin, H.ev hx, H.ev hy, h1, Result.andThen]
      refine hK _ _ (next A c t' _ _ hv' ?_)
      rw [hdst]
      exact H3.put _ hl hf
theorem ObJ.call {f : FuncId} {args : List Operand} {tys : Array TypeId} {vs : List Value} {Post : Value → World → Prop} (hg : o.guard = none) (ho : o.op = .call { callee := .value (.func f), args := args.toArray, argTypes := tys }) (hf : Ours P f) (hx : sevs e args = some vs) (H : St n w0 a w e h) (hc : Calls P f vs.toArray w (fun r W' => ∃ v, r = .returned v ∧ Post v W')) : ObJ P ops Q o a w (fun a' w' => ∃ v, a' = a.put o.dst v ∧ Post v w') := by
  refine .inl ⟨by simp [Region.wanted, hg], ?_⟩
  unfold Oper.wp
  rw [run_call ho hf rfl, H.evs hx, Oper.upon_enter]
  refine hc.mono ?_
  rintro r W' ⟨v, rfl, hp⟩
  exact ⟨v, rfl, hp⟩
end
/-- What the copies tell, one behind the other. -/
def CC (w0 : World) (h : Hep) (es : List EntI) (c : Nat) (ls : List EntI) (cq : Nat) (L : List (Nat × List UInt8)) : Nat → Act → World → Prop
  | 0, _, _ => True
  | 1, a, w => ∃ g4, a.tmps[13]? = some (.map (some g4)) ∧ Kn w0 w ((g4, .map (entsI es) c, #[]) :: h)
  | 2, a, w => ∃ g4 A9 c9 t9, a.tmps[13]? = some (.map (some g4)) ∧ a.tmps[18]? = some (.slice A9 L.length c9) ∧ OutD 82 513 t9 (.slice A9 L.length c9) L.length (dwcs L) ∧ Kn w0 w (t9 ++ ((g4, .map (entsI es) c, #[]) :: h))
  | _, a, w => ∃ g4 A9 c9 t9 g14, a.tmps[13]? = some (.map (some g4)) ∧ a.tmps[18]? = some (.slice A9 L.length c9) ∧ a.tmps[23]? = some (.map (some g14)) ∧ OutD 82 513 t9 (.slice A9 L.length c9) L.length (dwcs L) ∧ Kn w0 w ((g14, .map (entsI ls) cq, #[]) :: (t9 ++ ((g4, .map (entsI es) c, #[]) :: h)))
theorem put_ne {a : Act} {d k : Nat} {v x : Value} (h : k ≠ d) (hx : a.tmps[k]? = some x) : (a.put (some d) v).tmps[k]? = some x := by
  show (a.tmps.setIfInBounds d v)[k]? = some x
  rw [Array.getElem?_setIfInBounds_ne (Ne.symm h)]
  exact hx
theorem put_eq {a : Act} {d : Nat} {v : Value} (h : d < a.tmps.size) : (a.put (some d) v).tmps[d]? = some v := by
  show (a.tmps.setIfInBounds d v)[d]? = some v
  simp [h]
theorem CC.put {w0 : World} {h : Hep} {es ls : List EntI} {c cq : Nat} {L : List (Nat × List UInt8)} {d : Nat} (h1 : 13 ≠ d) (h2 : 18 ≠ d) (h3 : 23 ≠ d) : ∀ (j : Nat) {a : Act} {w w' : World} {v : Value}, CC w0 h es c ls cq L j a w → Below w.heap.size w w' → CC w0 h es c ls cq L j (a.put (some d) v) w'
  | 0, a, w, w', v, _, _ => trivial
  | 1, a, w, w', v, ⟨g4, q1, K⟩, hb => ⟨g4, put_ne h1 q1, K.more hb⟩
  | 2, a, w, w', v, ⟨g4, A9, c9, t9, q1, q2, q3, K⟩, hb => ⟨g4, A9, c9, t9, put_ne h1 q1, put_ne h2 q2, q3, K.more hb⟩
  | _ + 3, a, w, w', v, ⟨g4, A9, c9, t9, g14, q1, q2, q4, q3, K⟩, hb => ⟨g4, A9, c9, t9, g14, put_ne h1 q1, put_ne h2 q2, put_ne h3 q4, q3, K.more hb⟩
instance {v : Value} : Lasts ((fun _ _ => True : Value → World → Prop) v) := ⟨fun _ _ _ _ => trivial⟩
attribute [local irreducible] bvs dwa entsI zeroB lastsB stepP lastN
set_option maxHeartbeats 4000000 in
theorem cloneW_nil (w : World) (K : Kn w w ([] : Hep)) : Calls Try.prog 44 #[.slice none 0 0] w (fun rr w' => rr = .returned (.slice none 0 0) ∧ Kn w w' ([] : Hep)) := by
  refine calls_kn (vs := [.slice none 0 0]) 8 Try.func44 rfl Try.ntmps44 rfl K (fun a W H => ?_)
  replace H : St 8 w a W [(0, .slice none 0 0)] (([] : Hep)) := H
  refine sqR H gs0 fun Z_ z_ => rS 1 rfl <| rN0 z_ ?_
  try clear H a W
  intro a W H
  refine wp_seq_k (fun K2 hK2 => ?_)
  refine sqR H gs0 fun Z_ z_ => rS 1 rfl <| rV rfl (does_binOp rfl rfl rfl (sl_isnilW rfl _ _)) <| rK [1, 0] [] [] <| rN0 z_ ?_
  try clear H a W
  intro a W H
  refine wp_cond_true (H.ev rfl) ?_
  refine sqR H gs0 fun Z_ z_ => rK [1, 0] [] [] <| rS 1 rfl <| rK [1, 0] [] [] <| rN0 z_ ?_
  try clear H a W
  intro a W H
  refine wp_ret ?_
  repeat (first | (with_reducible refine then_ret ?_) | (with_reducible refine blk_ret ?_))
  refine end_tmp (p := 2) rfl rfl H (fun hb => ?_)
  exact ⟨rfl, H.kn⟩
set_option maxHeartbeats 4000000 in
theorem cloneW_some {gs cs : Nat} {cur : Array Value} {L : List (Nat × List UInt8)} (hL : ∀ p ∈ L, p.2.length = 512) (hc : cur.toList.take (L.length * 513) = dwcs L) (hn : L.length ≤ 10000) (w : World) (hB : Blk w gs (.ty 82) cur) (K : Kn w w ([] : Hep)) : Calls Try.prog 44 #[.slice (some ⟨gs, 0, none⟩) L.length cs] w (fun rr w' => ∃ i : Option Addr × Nat × Hep, rr = .returned (.slice i.1 L.length i.2.1) ∧ OutD 82 513 i.2.2 (.slice i.1 L.length i.2.1) L.length (dwcs L) ∧ Kn w w' i.2.2) := by
  refine calls_kn (vs := [.slice (some ⟨gs, 0, none⟩) L.length cs]) 8 Try.func44 rfl Try.ntmps44 rfl K (fun a W H => ?_)
  replace H : St 8 w a W [(0, .slice (some ⟨gs, 0, none⟩) L.length cs)] (([] : Hep)) := H
  refine sqR H gs0 fun Z_ z_ => rS 1 rfl <| rN0 z_ ?_
  try clear H a W
  intro a W H
  refine wp_seq_k (fun K2 hK2 => ?_)
  refine sqR H gs0 fun Z_ z_ => rS 1 rfl <| rV rfl (does_binOp rfl rfl rfl (sl_isnilW rfl _ _)) <| rK [1, 0] [] [] <| rN0 z_ ?_
  try clear H a W
  intro a W H
  refine wp_cond_false (H.ev rfl) ?_
  refine wp_skip ?_
  refine hK2 _ _ ?_
  clear hK2
  refine wp_seq_k (fun K4 hK4 => ?_)
  refine rgP H gs0 (rM (F := fun g => .slice (some ⟨g, 0, none⟩) 0 0) (t := 82) (z := #[]) rfl (made_evP (F := fun g => .slice (some ⟨g, 0, none⟩) 0 0) (vs := []) rfl (by kernel_rfl) bs_none) fun g1 => rS 1 rfl <| rI0 ?_)
  try clear H a W
  intro a W H
  refine pl_appL (g1 := g1) (hh := ([] : Hep)) (hB.below H.below hB.lt) hL hc rfl rfl rfl (by omega) rfl rfl rfl rfl H ?_
  try clear H a W
  intro A9 c9 t9 a W hod9 H
  replace H : St 8 w a W [(7, .slice A9 L.length c9), (6, .slice (some ⟨gs, 0, none⟩) L.length cs), (5, .slice (some ⟨g1, 0, none⟩) 0 0), (4, .bool false), (2, .slice none 0 0), (0, .slice (some ⟨gs, 0, none⟩) L.length cs)] ((t9 ++ ([] : Hep))) := H
  refine rgO H gs0 (rK [1, 1, 1, 1, 0] [] [] <| rS 1 rfl <| rK [1, 0, 0, 0, 0, 0] [] [] <| rZ0 ?_)
  try clear H a W
  intro a W H
  refine hK4 _ _ ?_
  clear hK4
  refine wp_ret ?_
  repeat (first | (with_reducible refine then_ret ?_) | (with_reducible refine blk_ret ?_))
  refine end_tmp (p := 2) rfl rfl H (fun hb => ?_)
  exact ⟨(A9, c9, t9), rfl, hod9, by have h_ := H.kn; rwa [List.append_nil] at h_⟩
theorem Kn.join2 {w0 w w' : World} {h t : Hep} (K : Kn w0 w h) (K2 : Kn w w' t) : Kn w0 w' (t ++ h) := by
  refine ⟨K.below.trans (K2.below.mono K.below.size), fun p hp => ?_, fun p hp => ?_, List.pairwise_append.2 ⟨K2.apart, K.apart, fun p hp q hq => Nat.ne_of_gt (Nat.lt_of_lt_of_le (K.heap q hq).lt (K2.own p hp))⟩⟩
  · rcases List.mem_append.1 hp with hp | hp
    · exact K2.heap p hp
    · exact (K.heap p hp).below K2.below (K.heap p hp).lt
  · rcases List.mem_append.1 hp with hp | hp
    · exact Nat.le_trans K.below.size (K2.own p hp)
    · exact K.own p hp
theorem cloneW_K {t : Hep} {A : Option Addr} {cap : Nat} {L : List (Nat × List UInt8)} (hod : OutD 82 513 t (.slice A L.length cap) L.length (dwcs L)) (hL : ∀ p ∈ L, p.2.length = 512) (hn : L.length ≤ 10000) (w : World) (ht : ∀ p ∈ t, Blk w p.1 p.2.1 p.2.2) : Calls Try.prog 44 #[.slice A L.length cap] w (fun rr w' => ∃ i : Option Addr × Nat × Hep, rr = .returned (.slice i.1 L.length i.2.1) ∧ OutD 82 513 i.2.2 (.slice i.1 L.length i.2.1) L.length (dwcs L) ∧ Kn w w' i.2.2) := by
  have K : Kn w w ([] : Hep) := ⟨Below.refl _ _, fun p hp => (by cases hp), fun p hp => (by cases hp), List.Pairwise.nil⟩
  rcases hod with ⟨_, e2, e3, e4⟩ | ⟨g, cap', cur, e1, e2, h1, h2, h3, h4⟩
  · injection e2 with e5 e6 e7
    subst e5 e7
    rw [e3, e4]
    refine (cloneW_nil w K).mono ?_
    rintro rr w' ⟨e, K'⟩
    exact ⟨(none, 0, []), e, .inl ⟨rfl, rfl, rfl, rfl⟩, K'⟩
  · injection e2 with e5 e6 e7
    subst e5 e7
    exact cloneW_some hL h4 hn w (ht (g, .ty 82, cur) (by rw [e1]; exact List.mem_singleton.2 rfl)) K
end Go.Proofs.Ytiebelmglchbdaa
