/- Walks that name no world: a region that draws its order, of operations that leave what was there (d2). No dump is imported. -/
import Derived.Test.YtiebelmglchbdaaZa
namespace Go.Proofs.Ytiebelmglchbdaa
set_option linter.unusedVariables false
set_option linter.unusedSimpArgs false
open Go Go.RowKit

/-- One operation: its slot, its value or what holds of it, which operations' values it hangs on. -/
inductive It2 where
  | v (d : Nat) (V : Value) (ps : List Nat)
  | f (d : Nat) (F : Value → World → Prop) (ps : List Nat)
  | u (d : Nat) (ps : List Nat)
def It2.fct : It2 → Fct
  | .v d V ps => ⟨d, fun u _ => u = V, ps, none, false⟩
  | .f d F ps => ⟨d, F, ps, none, false⟩
  | .u d ps => ⟨d, fun u _ => u = undef, ps, none, false⟩
def Chain2 (plan : List It2) (w : World) (K : Env → Prop) : List Nat → Env → Prop
  | [], e => K e
  | j :: r, e => match plan[j]? with
    | some (.v d V _) => Chain2 plan w K r ((d, V) :: e)
    | some (.f d F _) => ∀ v, F v w → Chain2 plan w K r ((d, v) :: e)
    | some (.u d _) => Chain2 plan w K r ((d, undef) :: e)
    | none => Chain2 plan w K r e
def Obs2 (P : Program) (ops : Array Oper) (Q : Exit → Act → World → Prop) (n : Nat) (w0 : World) (e : Env) (h : Hep) (G : List (World → Prop)) (plan : List It2) : List Oper → List It2 → Prop
  | o :: os, .v d V ps :: r => (∀ a w, Chain2 plan w (fun e' => St n w0 a w e' h → GS G w → ObS P ops Q o a w (fun u _ => u = V)) ps e) ∧ Obs2 P ops Q n w0 e h G plan os r
  | o :: os, .f d F ps :: r => ((∀ a w, Chain2 plan w (fun e' => St n w0 a w e' h → GS G w → ObS P ops Q o a w F) ps e) ∧ ∀ v, Lasts (F v)) ∧ Obs2 P ops Q n w0 e h G plan os r
  | o :: os, .u d ps :: r => (∀ a w, Chain2 plan w (fun e' => St n w0 a w e' h → GS G w → Region.wanted o (yielded ops a.tmps) = false) ps e) ∧ Obs2 P ops Q n w0 e h G plan os r
  | _, _ => True
def nxt2 : List It2 → (Env → List (World → Prop) → Prop) → Env → List (World → Prop) → Prop
  | [], K, e, G => K e G
  | .v d V _ :: r, K, e, G => nxt2 r K ((d, V) :: e) G
  | .f d F _ :: r, K, e, G => ∀ v, nxt2 r K ((d, v) :: e) (F v :: G)
  | .u d _ :: r, K, e, G => nxt2 r K ((d, undef) :: e) G
section
variable {P : Program} {n : Nat} {w0 w w' : World} {a : Act} {e e' : Env} {h h' : Hep} {G G' : List (World → Prop)} {Q : Exit → Act → World → Prop} {ops : Array Oper} {rest l : List Oper} {o : Oper} {plan : List It2}
theorem Chain2.out {K : Env → Prop} : ∀ {ps : List Nat} {e : Env}, Chain2 plan w K ps e → Chain (plan.map It2.fct) w K ps e
  | [], e, hc => hc
  | j :: r, e, hc => by
    unfold Chain2 at hc
    unfold Chain
    rw [List.getElem?_map]
    cases hj : plan[j]? with
    | none =>
      rw [hj] at hc
      exact Chain2.out hc
    | some it =>
      rw [hj] at hc
      cases it with
      | v d V ps =>
        intro v hv
        have hv : v = V := hv
        subst hv
        exact Chain2.out hc
      | f d F ps => exact fun v hv => Chain2.out (hc v hv)
      | u d ps =>
        intro v hv
        have hv : v = undef := hv
        subst hv
        exact Chain2.out hc
theorem Chain.mapK {K K' : Env → Prop} {w : World} {pl : List Fct} (hk : ∀ e, K e → K' e) : ∀ {ps : List Nat} {e : Env}, Chain pl w K ps e → Chain pl w K' ps e := fun {ps e} hc => Chain.imp hk hc
theorem Obs2.out {ms : List Nat} : ∀ (k : Nat) {os : List Oper} {t : List It2}, (∀ i, ownJ ms (plan.map It2.fct) i = true) → Obs2 P ops Q n w0 e h G plan os t → ObsJ P (fun w w' => Below w.heap.size w w') (fun w w' => Below w.heap.size w w') (GS G) ms ops Q n w0 e h (plan.map It2.fct) k os (t.map It2.fct)
  | k, [], t, hn, ho => by cases t <;> trivial
  | k, o :: os, [], hn, ho => trivial
  | k, o :: os, .v d V ps :: t, hn, ho => ⟨⟨fun a w => Chain.mapK (fun e' hx H hJ => .inl (hx H (hJ (hn k)))) (Chain2.out (ho.1 a w)), fun v w w' hv _ => hv, fun _ v w w' hv _ => hv⟩, Obs2.out (k + 1) hn ho.2⟩
  | k, o :: os, .f d F ps :: t, hn, ho => ⟨⟨fun a w => Chain.mapK (fun e' hx H hJ => .inl (hx H (hJ (hn k)))) (Chain2.out (ho.1.1 a w)), fun v w w' hv hb => (ho.1.2 v).lasts _ _ hv hb, fun _ v w w' hv hb => (ho.1.2 v).lasts _ _ hv hb⟩, Obs2.out (k + 1) hn ho.2⟩
  | k, o :: os, .u d ps :: t, hn, ho => ⟨⟨fun a w => Chain.mapK (fun e' hx H hJ => .inr ⟨hx H (hJ (hn k)), undef, rfl, Below.refl _ _, rfl⟩) (Chain2.out (ho.1 a w)), fun v w w' hv _ => hv, fun _ v w w' hv _ => hv⟩, Obs2.out (k + 1) hn ho.2⟩
theorem no_own (ms : List Nat) (plan : List It2) (i : Nat) : ownJ ms (plan.map It2.fct) i = true := by
  unfold ownJ
  rw [List.all_eq_true]
  intro j _
  rw [List.getElem?_map]
  cases plan[j]? with
  | none => rfl
  | some it => cases it <;> rfl
/-- What follows, told by the values of all. -/
theorem nxt2_of {K : Env → List (World → Prop) → Prop} (a : Act) (w : World) : ∀ {t : List It2} {e : Env} {G : List (World → Prop)}, nxt2 t K e G → St n w0 a w e h → GS G w → (∀ it ∈ t, ∃ v, a.tmps[it.fct.d]? = some v ∧ it.fct.F v w) → ∃ e' G', K e' G' ∧ St n w0 a w e' h ∧ GS G' w
  | [], e, G, hx, H, g, hv => ⟨e, G, hx, H, g⟩
  | .v d V ps :: t, e, G, hx, H, g, hv => by
    obtain ⟨v, h1, h2⟩ := hv _ List.mem_cons_self
    have h2 : v = V := h2
    subst h2
    refine nxt2_of a w (t := t) hx ⟨H.size, H.defers, fun p hp => ?_, H.below, H.heap, H.own, H.apart⟩ g fun it hi => hv it (List.mem_cons_of_mem _ hi)
    rcases List.mem_cons.1 hp with rfl | hp
    · exact h1
    · exact H.env p hp
  | .f d F ps :: t, e, G, hx, H, g, hv => by
    obtain ⟨v, h1, h2⟩ := hv _ List.mem_cons_self
    refine nxt2_of a w (t := t) (hx v) ⟨H.size, H.defers, fun p hp => ?_, H.below, H.heap, H.own, H.apart⟩ ⟨h2, g⟩ fun it hi => hv it (List.mem_cons_of_mem _ hi)
    rcases List.mem_cons.1 hp with rfl | hp
    · exact h1
    · exact H.env p hp
  | .u d ps :: t, e, G, hx, H, g, hv => by
    obtain ⟨v, h1, h2⟩ := hv _ List.mem_cons_self
    have h2 : v = undef := h2
    subst h2
    refine nxt2_of a w (t := t) hx ⟨H.size, H.defers, fun p hp => ?_, H.below, H.heap, H.own, H.apart⟩ g fun it hi => hv it (List.mem_cons_of_mem _ hi)
    rcases List.mem_cons.1 hp with rfl | hp
    · exact h1
    · exact H.env p hp
/-- **The region.** -/
theorem d2 {id : Nat} (plan : List It2) (hf : P.follows .mixedOrders = true) (hk : planOkF ops n e (plan.map It2.fct) (masks ops) = true) (H : St n w0 a w e h) (g : GS G w) [hL : LastsL G] (ho : Obs2 P ops Q n w0 e h G plan ops.toList plan)
    (tail : nxt2 plan (fun e' G' => Rn P n w0 Q ops (ops.toList.drop plan.length) e' h G') e G) : (Code.region id ops true).wp P Q a w := by
  refine wp_region_any hf ?_
  have none_ : ∀ i, ¬ (Array.replicate ops.size false).getD i false = true := fun i hi => by
    by_cases h : i < ops.size
    · simp [h] at hi
    · simp [h] at hi
  have hlen : (plan.map It2.fct).length = plan.length := List.length_map _
  refine any_planJ (J := GS G) (fun w w' h hb => hL.all _ _ h hb) (fun a w w' H hb => H.call hb) (fun a w w' H hb => H.call hb) rfl hk (Obs2.out 0 (no_own _ _) ho) (fun a w hv hst hg => ?_) ops.size _ a w.drew (by simp) (fun i o _ hi => absurd hi (none_ i)) (fun i _ => none_ i) ?_ ⟨⟨H.drew, fun j _ _ hj => absurd hj (none_ j)⟩, fun _ => hL.all _ _ g (Below.refl _ _).drew⟩
  · obtain ⟨e', G', h1, h2, h3⟩ := nxt2_of a w tail hst (hg fun j it hj => by
      rw [List.getElem?_map] at hj
      obtain ⟨x, _, rfl⟩ := Option.map_eq_some_iff.1 hj
      cases x <;> rfl) fun it hi => by
        obtain ⟨j, hj⟩ := List.mem_iff_getElem?.1 hi
        exact hv j it.fct (by rw [List.getElem?_map, hj]; rfl) (by cases it <;> rfl)
    rw [hlen]
    exact h1 a w h2 h3
  · have := left_le (Array.replicate ops.size false) (plan.map It2.fct).length
    unfold planOkF at hk
    simp only [Bool.and_eq_true] at hk
    have := Nat.le_of_ble_eq_true hk.1.1.1.1.1.1.1.1
    omega
/-! A region, and what follows it. -/
theorem sqR {id : Nat} {y : Code} (H : St n w0 a w e h) (g : GS G w) (hx : ∀ K : Act → World → Prop, (∀ a w, y.wp P Q a w → K a w) → Rn P n w0 (Exit.then K Q) l.toArray l e h G) : (Code.seq (.region id l.toArray false) y).wp P Q a w := wp_seq_k fun K hK => rgP H g (hx K hK)
theorem sqD {id : Nat} {y : Code} (plan : List It2) (hf : P.follows .mixedOrders = true) (hk : planOkF ops n e (plan.map It2.fct) (masks ops) = true) (H : St n w0 a w e h) (g : GS G w) [hL : LastsL G] (ho : ∀ K : Act → World → Prop, Obs2 P ops (Exit.then K Q) n w0 e h G plan ops.toList plan)
    (hx : ∀ K : Act → World → Prop, (∀ a w, y.wp P Q a w → K a w) → nxt2 plan (fun e' G' => Rn P n w0 (Exit.then K Q) ops (ops.toList.drop plan.length) e' h G') e G) : (Code.seq (.region id ops true) y).wp P Q a w := wp_seq_k fun K hK => d2 plan hf hk H g (ho K) (hx K hK)
theorem rN {y : Code} {K : Act → World → Prop} (hK : ∀ a w, y.wp P Q a w → K a w) (next : ∀ a w, St n w0 a w e h → GS G w → y.wp P Q a w) : Rn P n w0 (Exit.then K Q) ops [] e h G := fun a w H g => pl_end (hK a w (next a w H g))
theorem rN0 {y : Code} {K : Act → World → Prop} (hK : ∀ a w, y.wp P Q a w → K a w) (next : ∀ a w, St n w0 a w e h → y.wp P Q a w) : Rn P n w0 (Exit.then K Q) ops [] e h G := fun a w H _ => pl_end (hK a w (next a w H))
theorem cdT {c : Operand} {x y : Code} (H : St n w0 a w e h) (hc : sev e c = some (.bool true)) (next : y.wp P Q a w) : (Code.seq (.cond c .skip x) y).wp P Q a w := wp_seq (wp_cond_true (H.ev hc) (wp_skip next))
theorem cdF {c : Operand} {x y : Code} (H : St n w0 a w e h) (hc : sev e c = some (.bool false)) (next : y.wp P Q a w) : (Code.seq (.cond c x .skip) y).wp P Q a w := wp_seq (wp_cond_false (H.ev hc) (wp_skip next))
theorem oU (hw : wantS ops e o = some false) : ∀ a w, St n w0 a w e h → GS G w → Region.wanted o (yielded ops a.tmps) = false := fun a w H _ => wantS_of H hw
/-- What an operation of it comes to. -/
theorem oV {V : Value} (hw : wantS ops e o = some true) (hd : Does P Q n w0 e h o V) : ∀ a w, St n w0 a w e h → GS G w → ObS P ops Q o a w (fun u _ => u = V) := fun a w H _ => ⟨wantS_of H hw, Oper.wp_mono (fun a' w' hx => ⟨V, hx.1, hx.2, rfl⟩) (hd a w H)⟩
theorem oS {V : Value} (hw : wantS ops e o = some true) (hs : simV e o.op = some V) : ∀ a w, St n w0 a w e h → GS G w → ObS P ops Q o a w (fun u _ => u = V) := fun a w H _ => ⟨wantS_of H hw, by
  unfold Oper.wp
  rw [simV_of H hs]
  exact ⟨V, rfl, Below.refl _ _, rfl⟩⟩
theorem oC {F : Value → World → Prop} {f : FuncId} {args : List Operand} {tys : Array TypeId} {vs : List Value} (hw : wantS ops e o = some true) (ho : o.op = .call { callee := .value (.func f), args := args.toArray, argTypes := tys }) (hf : Ours P f) (hx : sevs e args = some vs)
    (hc : ∀ a w, St n w0 a w e h → GS G w → Calls P f vs.toArray w (fun r W' => ∃ v, r = .returned v ∧ Below w.heap.size w W' ∧ F v W')) : ∀ a w, St n w0 a w e h → GS G w → ObS P ops Q o a w F := fun a w H g => ob_callS H (fun a w H => wantS_of H hw) ho hf hx (hc a w H g)
theorem oCV {V : Value} {f : FuncId} {args : List Operand} {tys : Array TypeId} {vs : List Value} (hw : wantS ops e o = some true) (ho : o.op = .call { callee := .value (.func f), args := args.toArray, argTypes := tys }) (hf : Ours P f) (hx : sevs e args = some vs)
    (hc : ∀ a w, St n w0 a w e h → GS G w → Calls P f vs.toArray w (fun r W' => r = .returned V ∧ Below w.heap.size w W')) : ∀ a w, St n w0 a w e h → GS G w → ObS P ops Q o a w (fun u _ => u = V) := fun a w H g => ob_calS H (fun a w H => wantS_of H hw) ho hf hx (hc a w H g)
/-- A new variable's block is known from now on. -/
theorem rNw {t : Tid} {z : Array Value} {E : Value → Env} (next : ∀ g : Nat, Rn P n w0 Q ops l (E (.pointer (some ⟨g, 0, none⟩))) ((g, t, z) :: h) G) : ∀ v, Rn P n w0 Q ops l (E v) h (NewF w0.heap.size h t z v :: G) := fun v a w H g => by
  obtain ⟨⟨g1, rfl, hb, hB, hn⟩, g⟩ := g
  exact next g1 a w (H.add hb hB hn) g
instance {B : Nat} {h : Hep} {t : TypeId} {z : Array Value} {v : Value} : Lasts (NewF B h t z v) := ⟨fun w w' hv hb => NewF.sb _ _ _ hv hb⟩
theorem oN {t : TypeId} {z : Array Value} (hg : o.guard = none) (ho : o.op = .alloc t) (hz : ∀ W, (Instr.alloc t true (.tuple #[])).run P W = .ok (.pointer (some ⟨W.heap.size, 0, none⟩)) (W.alloc (.cells z t))) : ∀ a w, St n w0 a w e h → GS G w → ObS P ops Q o a w (NewF w0.heap.size h t z) := fun a w H _ => ob_new H (news_of ho hz) hg
end
end Go.Proofs.Ytiebelmglchbdaa
