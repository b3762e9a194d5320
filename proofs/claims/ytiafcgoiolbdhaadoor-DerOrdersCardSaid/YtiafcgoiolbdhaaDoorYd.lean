/- Words, contracts and walks (Nx, Xe, Xf, Ny, Xg, Xh, Ze), laid together. No condition. -/
import Derived.Test.YtiafcgoiolbdhaaDoorYc
import Derived.LaidEqlPtr
namespace Go.Proofs.YtiafcgoiolbdhaaDoor
set_option linter.unusedVariables false
set_option linter.unusedSimpArgs false
set_option maxRecDepth 100000
open Go Go.RowKit
theorem number_any {v : Value} {l : List UInt8} (w : World) (hv : BF l v w) (hl : l.length < 9223372036854775808) : Calls Tryd.prog 60 #[v] w (fun rr w' => rr = .returned (.int .i64 (numD l)) ∧ Below w.heap.size w w') := by
  obtain ⟨A, n, c, rfl, hb⟩ := hv
  obtain ⟨g, o, h⟩ := hb.nat (Nat.le_refl _)
  have := hb.len
  exact number_walk (N := min n 8) w hb.len (by omega) h rfl
theorem head_any {v : Value} {l : List UInt8} (w : World) (hv : BF l v w) (hl : l.length < 9223372036854775808) : Calls Tryd.prog 59 #[v] w (fun rr w' => ∃ v, rr = .returned v ∧ Below w.heap.size w w' ∧ ∃ (f e : Nat) (ok : Bool), v = .tuple #[.int .i64 (f : Int), .int .i64 (e : Int), .bool ok] ∧ spanR l f e ok) := by
  obtain ⟨A, n, c, rfl, hb⟩ := hv
  obtain ⟨g, o, h⟩ := hb.nat (Nat.le_refl _)
  have := hb.len
  refine (head_walk w hb.len (by omega) h).mono ?_
  rintro rr w' ⟨f, e, ok, rfl, hbel, hs⟩
  exact ⟨_, rfl, hbel, f, e, ok, rfl, hs⟩
theorem arcs_any {v : Value} {l : List UInt8} (w : World) (hv : BF l v w) (hl : l.length ≤ 100000) : Calls Tryd.prog 61 #[v] w (fun rr w' => ∃ v, rr = .returned v ∧ Below w.heap.size w w' ∧ w'.ownsRow w.heap.size 47 1 v (arcsD l 0 []).length ((arcsD l 0 []).map nvD)) := by
  obtain ⟨A, n, c, rfl, hb⟩ := hv
  obtain ⟨g, o, h⟩ := hb.nat (Nat.le_refl _)
  have := hb.len
  exact arcs_walk w (by omega) hb.len (by omega) h
theorem tl_bytP {w : World} {P : Nat → Prop} {n c : Nat} {A : Option Addr} {l : List UInt8} (h : BP w P A n c l) {k : Nat} (hk : k ≤ n) :
    ∃ A', (∀ W, (Instr.sliceAt 23 (.slice A n c) (some (.int .i64 (k : Int))) none none).run Tryd.prog W = .ok (.slice A' (n - k) (c - k)) W) ∧ BP w P A' (n - k) (c - k) (l.drop k) := by
  have hu : Tryd.prog.underlying 23 = some (.slice (Tryd.prog.elem 23)) := by kernel_rfl
  have hel : Tryd.prog.elem 23 = 5 := by kernel_rfl
  have hnc := h.cap
  refine ⟨if c = k then A else A.map (fun a => a.add k), fun W => ?_, ?_⟩
  · rw [run_sliceAt_slice W 23 _ _ _ _ hu, run_slice_l W 23 A n c hu _ _ (by omega) (by omega), hel, size_u8 u8_info]
    simp only [Result.andThen, sliced, Int.toNat_natCast, Nat.mul_one]
  · refine ⟨by rw [List.length_drop, h.len], by omega, fun e => ?_, fun hp => ?_⟩
    · split at e
      · omega
      · cases A with
        | none => have := h.nil_ rfl; omega
        | some a => cases e
    · obtain ⟨b, o, e, hb, hc⟩ := h.at_ (by omega)
      subst e
      rw [if_neg (by omega)]
      refine ⟨b, o + k, by simp [Addr.add_lit], hb, fun j x hx => ?_⟩
      rw [List.getElem?_drop] at hx
      have := hc _ x hx
      rw [← Nat.add_assoc] at this
      exact this
theorem cut_bytP {w : World} {P : Nat → Prop} {n c : Nat} {A : Option Addr} {l : List UInt8} (h : BP w P A n c l) {i j : Nat} (hij : i ≤ j) (hj : j ≤ n) :
    ∃ A', (∀ W, (Instr.sliceAt 23 (.slice A n c) (some (.int .i64 (i : Int))) (some (.int .i64 (j : Int))) none).run Tryd.prog W = .ok (.slice A' (j - i) (c - i)) W) ∧ BP w P A' (j - i) (c - i) ((l.take j).drop i) := by
  have hu : Tryd.prog.underlying 23 = some (.slice (Tryd.prog.elem 23)) := by kernel_rfl
  have hel : Tryd.prog.elem 23 = 5 := by kernel_rfl
  have hnc := h.cap
  have hln := h.len
  refine ⟨if c = i then A else A.map (fun a => a.add i), fun W => ?_, ?_⟩
  · rw [run_sliceAt_slice W 23 _ _ _ _ hu, run_slice_lh W 23 A n c hu _ _ _ _ (by omega) (by omega) (by omega), hel, size_u8 u8_info]
    simp only [Result.andThen, sliced, Int.toNat_natCast, Nat.mul_one]
  · refine ⟨by rw [List.length_drop, List.length_take]; omega, by omega, fun e => ?_, fun hp => ?_⟩
    · split at e
      · omega
      · cases A with
        | none => have := h.nil_ rfl; omega
        | some a => cases e
    · obtain ⟨b, o, e, hb, hc⟩ := h.at_ (by omega)
      subst e
      rw [if_neg (by omega)]
      refine ⟨b, o + i, by simp [Addr.add_lit], hb, fun q x hx => ?_⟩
      rw [List.getElem?_drop, List.getElem?_take] at hx
      split at hx
      · have := hc _ x hx
        rw [← Nat.add_assoc] at this
        exact this
      · cases hx
section
variable {P : Program} {n : Nat} {w0 w w' : World} {a : Act} {e : Env} {h t t2 : Hep} {Q : Exit → Act → World → Prop} {ops : Array Oper} {rest : List Oper} {o : Oper} {E : TypeId} {sz k : Nat} {v : Value} {xs : List Value}
/-- A function's end: a row that its variable holds, and two values. -/
theorem end_cell_tt {fn : Func} {R : Ending → World → Prop} {p q r : Tmp} {t t' : TypeId} {g k : Nat} {cs : Array Value} {u v : Value} {d : TypeDesc} (hr : fn.results = #[.cell p t, .tmp q, .tmp r]) (hp : look e p = some (.pointer (some ⟨g, 0, none⟩))) (hq : look e q = some u) (hq2 : look e r = some v) (hk : h[k]? = some (g, .ty t', cs))
    (hu : P.underlying t = some d) (hd : (match d with | .struct _ | .array _ _ => true | _ => false) = true) (hi : (P.info? t).map (·.size) = some cs.size) (H : St n w0 a w e h) (hR : Below w0.heap.size w0 w → R (.returned (.tuple #[.agg cs, u, v])) w) : bodyPost P fn R .ret a w := by
  refine bodyPost_ret ?_ H.defers (hR H.below)
  obtain ⟨h1, h2⟩ := run_cell hp hk hu hd hi H
  have h3 := H.ev (x := .tmp q) hq
  have h4 := H.ev (x := .tmp r) hq2
  simp [Act.eval] at h3 h4
  simp [results, hr, h1, asAddr, h2, h3, h4]
end
/-- A value reads as a tree, from bytes of blocks that were there and from rows that are told (t). -/
inductive DQ (w : World) (P : Nat → Prop) (t : Hep) : DT → DH → Prop
  | mk {x : DH} {b : List UInt8} {a : List Nat} {ks : List DT} (sub : Nat → DH)
      (hk : -9223372036854775808 ≤ x.k ∧ x.k < 9223372036854775808) (hn : -9223372036854775808 ≤ x.n ∧ x.n < 9223372036854775808)
      (hm : x.b.n < 9223372036854775808 ∧ x.t.length < 9223372036854775808 ∧ x.a.n < 9223372036854775808 ∧ x.ks.n < 9223372036854775808)
      (hb : BP w P x.b.A x.b.n x.b.c b) (hal : a.length = x.a.n) (hac : x.a.n ≤ x.a.c) (han : x.a.A = none → x.a.c = 0) (hax : ∀ y ∈ a, y < 18446744073709551616)
      (ha : 0 < x.a.n → ∃ (g : Nat) (cur : Array Value), (g, 47, cur) ∈ t ∧ x.a.A = some ⟨g, 0, none⟩ ∧ ∀ j y : Nat, a[j]? = some y → cur[j]? = some (.int .u64 (y : Int)))
      (hl : ks.length = x.ks.n) (hcap : x.ks.n ≤ x.ks.c)
      (hc : 0 < x.ks.n → ∃ (g : Nat) (cur : Array Value), (g, 27, cur) ∈ t ∧ x.ks.A = some ⟨g, 0, none⟩ ∧ ∀ i, i < x.ks.n → ∀ (j : Nat) (v : Value), (sub i).cs[j]? = some v → cur[i * 7 + j]? = some v)
      (hs : ∀ (i : Nat) (T : DT), ks[i]? = some T → DQ w P t T (sub i)) : DQ w P t (.mk x.k x.f x.n b x.t a ks) x
theorem DQ.go {w w' : World} {P P' : Nat → Prop} {t t' : Hep} {T : DT} {x : DH} (h : DQ w P t T x) (hk : ∀ p : Addr, P p.block → w'.cell? p = w.cell? p) (hp : ∀ b, P b → P' b) (ht : ∀ p ∈ t, p ∈ t') : DQ w' P' t' T x := by
  induction h with
  | mk sub h1 h2 h3 h4 h5 h5c h5n h5x h6 h7 h8 h9 h10 ih =>
    exact .mk sub h1 h2 h3 (h4.go hk hp) h5 h5c h5n h5x (fun hn => by
      obtain ⟨g, cur, hg, e, hc⟩ := h6 hn
      exact ⟨g, cur, ht _ hg, e, hc⟩) h7 h8 (fun hn => by
      obtain ⟨g, cur, hg, e, hc⟩ := h9 hn
      exact ⟨g, cur, ht _ hg, e, hc⟩) ih
/-- .. as a value that reads as it. -/
theorem DQ.dp {w w' : World} {P P' : Nat → Prop} {t : Hep} {T : DT} {x : DH} (h : DQ w P t T x) (hk : ∀ p : Addr, P p.block → w'.cell? p = w.cell? p) (hp : ∀ b, P b → P' b) (ht : ∀ p ∈ t, Blk w' p.1 p.2.1 p.2.2 ∧ P' p.1) : DP w' P' T x := by
  induction h with
  | mk sub h1 h2 h3 h4 h5 h5c h5n h5x h6 h7 h8 h9 h10 ih =>
    exact .mk sub h1 h2 h3 (h4.go hk hp) ⟨h5, h5c, h5n, h5x, fun hn => by
      obtain ⟨g, cur, hg, e, hc⟩ := h6 hn
      refine ⟨g, 0, e, (ht _ hg).2, fun j y hy => ?_⟩
      rw [Nat.zero_add, (ht _ hg).1.cell]
      exact hc j y hy⟩ h7 h8 (fun hn => by
      obtain ⟨g, cur, hg, e, hc⟩ := h9 hn
      refine ⟨g, 0, e, (ht _ hg).2, fun i hi j v hv => ?_⟩
      rw [Nat.zero_add, (ht _ hg).1.cell]
      exact hc i hi j v hv) ih
/-- Kids that were read so far. -/
structure KD (w : World) (P : Nat → Prop) (t : Hep) (xs : List DH) (Ts : List DT) : Prop where
  len : Ts.length = xs.length
  at_ : ∀ (i : Nat) (x : DH) (T : DT), xs[i]? = some x → Ts[i]? = some T → DQ w P t T x
theorem KD.nil (w : World) (P : Nat → Prop) (t : Hep) : KD w P t [] [] := ⟨rfl, fun i x T hx => by simp at hx⟩
theorem KD.more {w : World} {P : Nat → Prop} {t t' : Hep} {xs : List DH} {Ts : List DT} (K : KD w P t xs Ts) (ht : ∀ p ∈ t, p ∈ t') : KD w P t' xs Ts := ⟨K.len, fun i x T hx hT => (K.at_ i x T hx hT).go (fun _ _ => rfl) (fun _ h => h) ht⟩
theorem KD.snoc {w : World} {P : Nat → Prop} {t : Hep} {xs : List DH} {Ts : List DT} {x : DH} {T : DT} (K : KD w P t xs Ts) (hx : DQ w P t T x) : KD w P t (xs ++ [x]) (Ts ++ [T]) := by
  have hl := K.len
  refine ⟨by simp [hl], fun i y U hy hU => ?_⟩
  by_cases hi : i < xs.length
  · rw [List.getElem?_append_left hi] at hy
    rw [List.getElem?_append_left (by omega)] at hU
    exact K.at_ i y U hy hU
  · rw [List.getElem?_append_right (by omega)] at hy
    rw [List.getElem?_append_right (by omega)] at hU
    have hi0 : i - xs.length = 0 := by
      have := (List.getElem?_eq_some_iff.1 hy).1
      simpa using this
    rw [hi0] at hy
    rw [show i - Ts.length = 0 by omega] at hU
    injection hy with hy
    injection hU with hU
    subst hy hU
    exact hx
/-- What the reader answers of bytes l, up to d one within the other. -/
def RdF (d : Nat) (l : List UInt8) (P : Nat → Prop) (W : World) (v : Value) (t : Hep) : Prop := ∃ (x : DH) (j : Nat) (ok : Bool), v = .tuple #[.agg x.cs, .int .i64 (j : Int), .bool ok] ∧ (ok = true → ∃ T, readD d l = some (T, j) ∧ DQ W P t T x) ∧ (ok = false → readD d l = none)
def RdOk (d : Nat) : Prop := ∀ (W : World) (P : Nat → Prop) {A : Option Addr} {n c : Nat} {l : List UInt8}, (∀ b, P b → b < W.heap.size) → BP W P A n c l → n ≤ 100000 → Calls Tryd.prog 40 #[.slice A n c, .int .i64 ((d : Nat) : Int)] W (fun rr w' => ∃ v t, rr = .returned v ∧ Below W.heap.size W w' ∧ NR W.heap.size t w' ∧ RdF d l P W v t)
/-- A new row of one kid. -/
def KR (x : DH) (v : Value) (w : World) : Prop := ∃ g, v = .slice (some ⟨g, 0, none⟩) 1 1 ∧ Blk w g 27 x.cs
instance {x : DH} {v : Value} : Lasts (KR x v) := ⟨fun w w' ⟨g, e, h⟩ hb => ⟨g, e, h.below hb h.lt⟩⟩
section
variable {n : Nat} {w0 w w' : World} {a : Act} {e : Env} {h t t2 : Hep} {Q : Exit → Act → World → Prop} {ops : Array Oper} {rest : List Oper} {o : Oper} {P : Nat → Prop}
theorem ob_kid1 {y : Operand} {x : DH} (H : St n w0 a w e h) (hw : ∀ a w, St n w0 a w e h → Region.wanted o (yielded ops a.tmps) = true) (ho : o.op = .buildSlice 25 1 #[(0, y)]) (hy : sev e y = some (.agg x.cs)) : ObS Tryd.prog ops Q o a w (KR x) := by
  refine ob_runR H hw ⟨_, _, ?_, (Below.refl _ _).alloc (Nat.le_refl _) _, w.heap.size, rfl, Blk.new _ _ _⟩
  simp [execOp, ho, H.ev hy, run_der1, Result.andThen]
/-- One kid more. -/
theorem pl_kid {d : Nat} {x y : Operand} {v z : Value} {xs : List DH} {u : DH} (ho : o.op = .call { callee := .builtin .append, args := #[x, y], argTypes := #[25, 25] }) (hx : sev e x = some v) (hy : sev e y = some z)
    (hv : OutD 27 7 t v xs.length (kidV xs)) (hz : KR u z w) (hs : xs.length ≤ 100000) (hg : o.guard = none) (hdst : o.dst = some d) (hl : Nat.blt d n = true) (hf : e.all (fun p => !Nat.beq p.1 d) = true) (H : St n w0 a w e (h ++ (t ++ t2)))
    (next : ∀ v' t' a w', OutD 27 7 t' v' (xs ++ [u]).length (kidV (xs ++ [u])) → St n w0 a w' ((d, v') :: e) (h ++ (t' ++ t2)) → wpList Tryd.prog ops Q rest a w') : wpList Tryd.prog ops Q (o :: rest) a w :=
  wpList_plain hg fun K_ hK => by
    have hp : ∀ s : Hep, (h ++ (s ++ t2)).Perm ((h ++ t2) ++ s) := fun s => by
      rw [List.append_assoc]
      exact List.Perm.append_left _ List.perm_append_comm
    replace H := H.perm' (hp t)
    obtain ⟨g, rfl, hb⟩ := hz
    have hi := der_infoD
    cases hq : Tryd.prog.info? 27 with
    | none => rw [hq] at hi; cases hi
    | some i =>
      rw [hq] at hi
      simp only [Option.map_some, Option.some.injEq, Prod.mk.injEq] at hi
      obtain ⟨hz0, hsz, hby⟩ := hi
      have hown := hv.owns H
      obtain ⟨v', w', h1, h2, h3, _, h4⟩ := run_append_own_at (P := Tryd.prog) w w0.heap.size 25 o.type 27 i _ 7 112 Tryd.underlying25 hq hz0 hsz hby rfl (by omega) v xs.length (kidV xs) hown ⟨g, 0, none⟩ 1 1 u.cs.toList (by rw [Array.length_toList, u.size]) (fun j y hy => by
        rw [Addr.add_lit, Nat.zero_add, hb.cell]
        rw [Array.getElem?_toList] at hy
        exact hy) (fun y hy => by
        have := Array.all_eq_true'.1 u.one y (by simpa using hy)
        exact this) (by simp only [maxLen]; omega) (by omega) H.below.size
      obtain ⟨t', hv', H', _⟩ := H.appD hv h2 h3 h4 (by omega)
      unfold Oper.wp
      simp [execOp, ho, resolve, invoke, builtin, H.ev hx, H.ev hy, h1, Result.andThen]
      refine hK _ _ (next v' t' _ _ ?_ ?_)
      · rw [List.length_append, kidV_snoc]
        exact hv'
      · rw [hdst]
        exact (H'.perm' (hp t').symm).put _ hl hf
/-- A call of the reader. -/
theorem pl_read {d k : Nat} {args : List Operand} {tys : Array TypeId} {A : Option Addr} {m c : Nat} {l : List UInt8} (ho : o.op = .call { callee := .value (.func 40), args := args.toArray, argTypes := tys }) (hx : sevs e args = some [.slice A m c, .int .i64 ((k : Nat) : Int)]) (hr : RdOk k)
    (hP : ∀ b, P b → b < w0.heap.size) (hb : BP w0 P A m c l) (hm : m ≤ 100000) (hg : o.guard = none) (hdst : o.dst = some d) (hl : Nat.blt d n = true) (hf : e.all (fun p => !Nat.beq p.1 d) = true) (H : St n w0 a w e h)
    (next : ∀ (x : DH) (j : Nat) (ok : Bool) (t : Hep) a w', (ok = true → ∃ T, readD k l = some (T, j) ∧ DQ w0 P t T x) → (ok = false → readD k l = none) → St n w0 a w' ((d, .tuple #[.agg x.cs, .int .i64 (j : Int), .bool ok]) :: e) (h ++ t) → wpList Tryd.prog ops Q rest a w') : wpList Tryd.prog ops Q (o :: rest) a w :=
  wpList_plain hg fun K hK => by
    have hcell : ∀ p : Addr, P p.block → w.cell? p = w0.cell? p := fun p hp => H.below.cell (hP _ hp)
    unfold Oper.wp
    rw [run_call ho ⟨_, Tryd.func40, by kernel_rfl⟩ rfl, H.evs hx, Oper.upon_enter]
    refine (hr w P (fun b hp => Nat.lt_of_lt_of_le (hP b hp) H.below.size) (hb.go hcell (fun _ h => h)) hm).mono ?_
    rintro r W' ⟨v, t, rfl, hbel, hn, x, j, ok, rfl, h1, h2⟩
    refine hK _ _ (next x j ok t _ _ (fun e1 => ?_) h2 ?_)
    · obtain ⟨T, h3, h4⟩ := h1 e1
      exact ⟨T, h3, h4.go (fun p hp => (hcell p hp).symm) (fun _ h => h) (fun _ h => h)⟩
    · rw [hdst]
      exact (H.news hbel hn).put _ hl hf
end
theorem dq_leaf {w : World} {P : Nat → Prop} {t : Hep} {k n : Int} {f : Bool} {bs : SL} {tx b : List UInt8} (hk : -9223372036854775808 ≤ k ∧ k < 9223372036854775808) (hn : -9223372036854775808 ≤ n ∧ n < 9223372036854775808)
    (hm : bs.n < 9223372036854775808 ∧ tx.length < 9223372036854775808) (hb : BP w P bs.A bs.n bs.c b) : DQ w P t (.mk k f n b tx [] []) (DH.mk k f n bs tx SL.no SL.no) :=
  DQ.mk (x := DH.mk k f n bs tx SL.no SL.no) (fun _ => DH.no) hk hn ⟨hm.1, hm.2, show (0 : Nat) < 9223372036854775808 by decide, show (0 : Nat) < 9223372036854775808 by decide⟩ hb rfl (Nat.le_refl _) (fun _ => rfl) (fun y hy => by cases hy) (fun h => absurd (show 0 < 0 from h) (by decide)) rfl (Nat.le_refl _) (fun h => absurd (show 0 < 0 from h) (by decide)) (fun i T h => by simp at h)
theorem dq_arcs {w : World} {P : Nat → Prop} {t : Hep} {k n : Int} {f : Bool} {A : Option Addr} {vn c : Nat} {l : List Nat} (hv : OutD 47 1 t (.slice A vn c) l.length (l.map nvD)) (hl : ∀ x ∈ l, x < 18446744073709551616) (hm : l.length < 9223372036854775808) (hk : -9223372036854775808 ≤ k ∧ k < 9223372036854775808) (hn : -9223372036854775808 ≤ n ∧ n < 9223372036854775808) :
    DQ w P t (.mk k f n [] [] l []) (DH.mk k f n SL.no [] (SL.mk A vn c) SL.no) := by
  obtain ⟨A', c', e1, hc⟩ := hv.form
  injection e1 with e1 e2 e3
  subst e1 e2 e3
  refine DQ.mk (x := DH.mk k f n SL.no [] (SL.mk A l.length c) SL.no) (fun _ => DH.no) hk hn ⟨show (0 : Nat) < 9223372036854775808 by decide, show (0 : Nat) < 9223372036854775808 by decide, hm, show (0 : Nat) < 9223372036854775808 by decide⟩ (BP.nil _ _) rfl hc (fun e => ?_) hl (fun h0 => ?_) rfl (Nat.le_refl _) (fun h => absurd (show 0 < 0 from h) (by decide)) (fun i T h => by simp at h)
  · rcases hv with ⟨_, e2, _, _⟩ | ⟨g, cap, cur, _, e2, _⟩
    · injection e2
    · injection e2 with e3
      have e : A = none := e
      rw [e] at e3
      cases e3
  · obtain ⟨g, cur, rfl, rfl, hcell⟩ := hv.at_ h0
    exact ⟨g, cur, List.mem_singleton.2 rfl, rfl, fun j y hy => hcell j _ (by rw [List.getElem?_map, hy]; rfl)⟩
theorem dq_kids {w : World} {P : Nat → Prop} {t t2 : Hep} {k n : Int} {f : Bool} {A : Option Addr} {vn c : Nat} {xs : List DH} {Ts : List DT} (hv : OutD 27 7 t (.slice A vn c) xs.length (kidV xs)) (K : KD w P t2 xs Ts) (hk : -9223372036854775808 ≤ k ∧ k < 9223372036854775808) (hn : -9223372036854775808 ≤ n ∧ n < 9223372036854775808)
    (hm : xs.length < 9223372036854775808) : DQ w P (t ++ t2) (.mk k f n [] [] [] Ts) (DH.mk k f n SL.no [] SL.no (SL.mk A vn c)) := by
  obtain ⟨A', c', e1, hc⟩ := hv.form
  injection e1 with e1 e2 e3
  subst e1 e2 e3
  refine DQ.mk (x := DH.mk k f n SL.no [] SL.no (SL.mk A xs.length c)) (fun i => xs.getD i DH.no) hk hn ⟨show (0 : Nat) < 9223372036854775808 by decide, show (0 : Nat) < 9223372036854775808 by decide, show (0 : Nat) < 9223372036854775808 by decide, hm⟩ (BP.nil _ _) rfl (Nat.le_refl _) (fun _ => rfl) (fun y hy => by cases hy) (fun h => absurd (show 0 < 0 from h) (by decide)) K.len hc (fun h0 => ?_) (fun i T hT => ?_)
  · obtain ⟨g, cur, rfl, rfl, hcell⟩ := hv.at_ h0
    refine ⟨g, cur, List.mem_append.2 (.inl (List.mem_singleton.2 rfl)), rfl, fun i hi j u hu => ?_⟩
    have hi : i < xs.length := hi
    refine hcell _ _ (kidV_get (List.getElem?_eq_getElem hi) ?_)
    rw [List.getD_eq_getElem?_getD, List.getElem?_eq_getElem hi] at hu
    exact hu
  · have hl := K.len
    have hi : i < xs.length := by have := (List.getElem?_eq_some_iff.1 hT).1; omega
    have hx : xs[i]? = some xs[i] := List.getElem?_eq_getElem hi
    rw [List.getD_eq_getElem?_getD, hx]
    exact (K.at_ i _ T hx hT).go (fun _ _ => rfl) (fun _ h => h) (fun p hp => List.mem_append.2 (.inr hp))
theorem span_pos {l : List UInt8} {i j : Nat} (h : spanD l = some (i, j)) : 2 ≤ j ∧ j ≤ l.length := by
  unfold spanD at h
  repeat' split at h
  all_goals first
    | (cases h; done)
    | (injection h with h; injection h with h1 h2; omega)
theorem read_pos {d : Nat} {l : List UInt8} {T : DT} {j : Nat} (h : readD d l = some (T, j)) : 2 ≤ j ∧ j ≤ l.length := by
  cases d with
  | zero => cases h
  | succ d =>
    unfold readD at h
    split at h
    · cases h
    · rename_i i j' hs
      obtain ⟨T', _, e⟩ := Option.map_eq_some_iff.1 h
      injection e with _ e
      subst e
      exact span_pos hs
theorem rdKids_fuel (rd : List UInt8 → Option (DT × Nat)) (hrd : ∀ l T j, rd l = some (T, j) → 1 ≤ j) : ∀ (m f : Nat) (l : List UInt8), l.length ≤ m → l.length ≤ f → rdKids rd f l = rdKids rd l.length l := by
  intro m
  induction m with
  | zero =>
    intro f l hm hf
    obtain rfl : l = [] := List.eq_nil_of_length_eq_zero (by omega)
    cases f <;> rfl
  | succ m ih =>
    intro f l hm hf
    cases l with
    | nil => cases f <;> rfl
    | cons x c =>
      rw [List.length_cons] at hm hf
      obtain ⟨f, rfl⟩ : ∃ k, f = k + 1 := ⟨f - 1, by omega⟩
      rw [List.length_cons]
      unfold rdKids
      cases hr : rd (x :: c) with
      | none => rfl
      | some p =>
        obtain ⟨T, j⟩ := p
        have := hrd _ _ _ hr
        dsimp only
        have hl : ((x :: c).drop j).length ≤ c.length := by
          rw [List.length_drop, List.length_cons]
          omega
        rw [ih f _ (by omega) (by omega), ih c.length _ (by omega) hl]
/-- The kids of a content. -/
def rdK (d : Nat) (l : List UInt8) : Option (List DT) := rdKids (readD d) l.length l
theorem rdK_nil (d : Nat) : rdK d [] = some [] := rfl
theorem rdK_none {d : Nat} {l : List UInt8} (h0 : 0 < l.length) (h : readD d l = none) : rdK d l = none := by
  unfold rdK
  cases l with
  | nil => simp at h0
  | cons x c =>
    rw [List.length_cons]
    unfold rdKids
    rw [h]
theorem rdK_some {d : Nat} {l : List UInt8} {T : DT} {j : Nat} (h0 : 0 < l.length) (h : readD d l = some (T, j)) : rdK d l = (rdK d (l.drop j)).map (T :: ·) := by
  have hj := read_pos h
  unfold rdK
  cases l with
  | nil => simp at h0
  | cons x c =>
    rw [List.length_cons]
    conv => lhs; unfold rdKids
    rw [h]
    dsimp only
    rw [rdKids_fuel (readD d) (fun l T j h => by have := read_pos h; omega) c.length c.length _ (by rw [List.length_drop, List.length_cons]; omega) (by rw [List.length_drop, List.length_cons]; omega)]
theorem readD_succ {d : Nat} {l : List UInt8} {i j : Nat} (h : spanD l = some (i, j)) : readD (d + 1) l = (makeD (kindD (l.getD 0 0).toNat) (l.getD 0 0).toNat ((l.take j).drop i) (rdK d ((l.take j).drop i))).map (·, j) := by
  unfold readD rdK
  rw [h]
theorem readD_no {d : Nat} {l : List UInt8} (h : spanD l = none) : readD (d + 1) l = none := by
  unfold readD
  rw [h]
/-- The kind that is found, of the first m. -/
def ktD (x : Nat) : Nat → Int
  | 0 => 0
  | m + 1 => if tagD ((m : Int) + 1) 0 = (x : Int) then (m : Int) + 1 else ktD x m
theorem kt_all : (List.range 256).all (fun x => decide ((if 160 ≤ x ∧ x ≤ 190 then (8 : Int) else ktD x 10) = kindD x)) = true := by decide +kernel
theorem kt_end {x : Nat} (h : x < 256) : (if 160 ≤ x ∧ x ≤ 190 then (8 : Int) else ktD x 10) = kindD x := of_decide_eq_true (List.all_eq_true.1 kt_all x (List.mem_range.2 h))
theorem kind_le (x : Nat) : 0 ≤ kindD x ∧ kindD x ≤ 10 := by
  unfold kindD
  repeat' split
  all_goals omega
theorem arcs_lt : ∀ (l : List UInt8) (n : Nat) (acc : List Nat), n < 144115188075855872 → (∀ x ∈ acc, x < 18446744073709551616) → ∀ x ∈ arcsD l n acc, x < 18446744073709551616
  | [], n, acc, hn, ha => ha
  | b :: r, n, acc, hn, ha => by
    unfold arcsD
    have hb : b.toNat < 256 := b.toNat_lt
    split
    · exact arcs_lt r _ acc (by omega) ha
    · refine arcs_lt r 0 _ (by omega) fun x hx => ?_
      split at hx
      · rcases List.mem_cons.1 hx with rfl | hx
        · omega
        · rw [List.mem_singleton.1 hx]
          omega
      · rcases List.mem_append.1 hx with hx | hx
        · exact ha x hx
        · rw [List.mem_singleton.1 hx]
          omega
end Go.Proofs.YtiafcgoiolbdhaaDoor
namespace Go.Proofs.YtiafcgoiolbdhaaDoor
set_option linter.unusedVariables false
set_option linter.unusedSimpArgs false
set_option maxRecDepth 100000
open Go Go.RowKit
/-- A value reads as a tree, where C tells cells. -/
inductive DC (C : Nat → Nat → Value → Prop) : DT → DH → Prop
  | mk {x : DH} {b : List UInt8} {a : List Nat} {ks : List DT} (sub : Nat → DH)
      (hk : -9223372036854775808 ≤ x.k ∧ x.k < 9223372036854775808) (hn : -9223372036854775808 ≤ x.n ∧ x.n < 9223372036854775808)
      (hm : x.b.n < 9223372036854775808 ∧ x.t.length < 9223372036854775808 ∧ x.a.n < 9223372036854775808 ∧ x.ks.n < 9223372036854775808)
      (hbl : b.length = x.b.n) (hbc : x.b.n ≤ x.b.c) (hbn : x.b.A = none → x.b.c = 0) (hb : 0 < x.b.n → ∃ g o : Nat, x.b.A = some ⟨g, o, none⟩ ∧ ∀ (j : Nat) (y : UInt8), b[j]? = some y → C g (o + j) (.int .u8 (y.toNat : Int)))
      (hal : a.length = x.a.n) (hac : x.a.n ≤ x.a.c) (han : x.a.A = none → x.a.c = 0) (hax : ∀ y ∈ a, y < 18446744073709551616) (ha : 0 < x.a.n → ∃ g o : Nat, x.a.A = some ⟨g, o, none⟩ ∧ ∀ j y : Nat, a[j]? = some y → C g (o + j) (.int .u64 (y : Int)))
      (hl : ks.length = x.ks.n) (hcap : x.ks.n ≤ x.ks.c) (hc : 0 < x.ks.n → ∃ g o : Nat, x.ks.A = some ⟨g, o, none⟩ ∧ ∀ i, i < x.ks.n → ∀ (j : Nat) (v : Value), (sub i).cs[j]? = some v → C g (o + i * 7 + j) v)
      (hs : ∀ (i : Nat) (T : DT), ks[i]? = some T → DC C T (sub i)) : DC C (.mk x.k x.f x.n b x.t a ks) x
theorem DC.mono {C C' : Nat → Nat → Value → Prop} {T : DT} {x : DH} (h : DC C T x) (hC : ∀ g k v, C g k v → C' g k v) : DC C' T x := by
  induction h with
  | mk sub h1 h2 h3 b1 b2 b3 b4 a1 a2 a3 a4 a5 k1 k2 k3 k4 ih =>
    exact .mk sub h1 h2 h3 b1 b2 b3 (fun hn => by
      obtain ⟨g, o, e, hc⟩ := b4 hn
      exact ⟨g, o, e, fun j y hy => hC _ _ _ (hc j y hy)⟩) a1 a2 a3 a4 (fun hn => by
      obtain ⟨g, o, e, hc⟩ := a5 hn
      exact ⟨g, o, e, fun j y hy => hC _ _ _ (hc j y hy)⟩) k1 k2 (fun hn => by
      obtain ⟨g, o, e, hc⟩ := k3 hn
      exact ⟨g, o, e, fun i hi j v hv => hC _ _ _ (hc i hi j v hv)⟩) ih
theorem DC.dx {C : Nat → Nat → Value → Prop} {w : World} {B : Nat} {T : DT} {x : DH} (h : DC C T x) (hC : ∀ g k v, C g k v → g < B ∧ w.cell? ⟨g, k, none⟩ = some v) : DX w B T x := by
  induction h with
  | @mk x b a ks sub h1 h2 h3 b1 b2 b3 b4 a1 a2 a3 a4 a5 k1 k2 k3 k4 ih =>
    refine .mk sub h1 h2 h3 ⟨b1, b2, b3, fun hn => ?_⟩ ⟨a1, a2, a3, a4, fun hn => ?_⟩ k1 k2 (fun hn => ?_) ih
    · obtain ⟨g, o, e, hc⟩ := b4 hn
      exact ⟨g, o, e, (hC _ _ _ (hc 0 _ (List.getElem?_eq_getElem (by omega)))).1, fun j y hy => (hC _ _ _ (hc j y hy)).2⟩
    · obtain ⟨g, o, e, hc⟩ := a5 hn
      exact ⟨g, o, e, (hC _ _ _ (hc 0 _ (List.getElem?_eq_getElem (by omega)))).1, fun j y hy => (hC _ _ _ (hc j y hy)).2⟩
    · obtain ⟨g, o, e, hc⟩ := k3 hn
      exact ⟨g, o, e, (hC _ _ _ (hc 0 hn 0 _ (show (sub 0).cs[0]? = some (.int .i64 (sub 0).k) from rfl))).1, fun i hi j v hv => (hC _ _ _ (hc i hi j v hv)).2⟩
/-- Cells of rows that are told. -/
def TN (t : Hep) (g k : Nat) (v : Value) : Prop := ∃ (T : TypeId) (cur : Array Value), (g, .ty T, cur) ∈ t ∧ cur[k]? = some v
theorem TN.more {t t' : Hep} {g k : Nat} {v : Value} (h : TN t g k v) (ht : ∀ p ∈ t, p ∈ t') : TN t' g k v := by
  obtain ⟨T, cur, hm, hc⟩ := h
  exact ⟨T, cur, ht _ hm, hc⟩
/-- .. or of what was there. -/
def TC (w0 : World) (t : Hep) (g k : Nat) (v : Value) : Prop := (g < w0.heap.size ∧ w0.cell? ⟨g, k, none⟩ = some v) ∨ TN t g k v
theorem TC.more {w0 : World} {t t' : Hep} {g k : Nat} {v : Value} (h : TC w0 t g k v) (ht : ∀ p ∈ t, p ∈ t') : TC w0 t' g k v := h.imp id fun h => h.more ht
theorem TC.at_ {n : Nat} {w0 w : World} {a : Act} {e : Env} {h : Hep} {t : Hep} (H : St n w0 a w e h) (ht : ∀ p ∈ t, p ∈ h) {g k : Nat} {v : Value} (hc : TC w0 t g k v) : g < w.heap.size ∧ w.cell? ⟨g, k, none⟩ = some v := by
  rcases hc with ⟨hg, hc⟩ | ⟨T, cur, hm, hc⟩
  · exact ⟨Nat.lt_of_lt_of_le hg H.below.size, (H.below.cell (p := ⟨g, k, none⟩) hg).trans hc⟩
  · have hb := H.heap _ (ht _ hm)
    exact ⟨hb.lt, by rw [hb.cell]; exact hc⟩
/-- A row of variables, of which nothing is frozen. -/
def Plain (w : World) (g : Nat) : Prop := ∃ (c : Array Value) (t : TypeId), w.heap[g]? = some (.cells c t (0, 0))
theorem Plain.below {w w' : World} {g : Nat} (h : Plain w g) (hg : g < w.heap.size) (hb : Below w.heap.size w w') : Plain w' g := by
  obtain ⟨c, t, e⟩ := h
  exact ⟨c, t, (hb.block g hg).trans e⟩
theorem Plain.lt {w : World} {g : Nat} (h : Plain w g) : g < w.heap.size := by
  obtain ⟨c, t, e⟩ := h
  exact (Array.getElem?_eq_some_iff.1 e).1
/-- A value reads as a tree, kids in plain rows. -/
inductive DY (w : World) : DT → DH → Prop
  | mk {x : DH} {b : List UInt8} {a : List Nat} {ks : List DT} (sub : Nat → DH)
      (hk : -9223372036854775808 ≤ x.k ∧ x.k < 9223372036854775808) (hn : -9223372036854775808 ≤ x.n ∧ x.n < 9223372036854775808)
      (hm : x.b.n < 9223372036854775808 ∧ x.t.length < 9223372036854775808 ∧ x.a.n < 9223372036854775808 ∧ x.ks.n < 9223372036854775808)
      (hb : BS w w.heap.size x.b.A x.b.n x.b.c b) (ha : NS w w.heap.size x.a.A x.a.n x.a.c a) (hl : ks.length = x.ks.n) (hcap : x.ks.n ≤ x.ks.c)
      (hc : 0 < x.ks.n → ∃ g o, x.ks.A = some ⟨g, o, none⟩ ∧ Plain w g ∧ ∀ i, i < x.ks.n → ∀ (j : Nat) (v : Value), (sub i).cs[j]? = some v → w.cell? ⟨g, o + i * 7 + j, none⟩ = some v)
      (hs : ∀ (i : Nat) (T : DT), ks[i]? = some T → DY w T (sub i)) : DY w (.mk x.k x.f x.n b x.t a ks) x
theorem DY.dx {w : World} {T : DT} {x : DH} (h : DY w T x) : DX w w.heap.size T x := by
  induction h with
  | mk sub h1 h2 h3 h4 h5 h6 h7 h8 h9 ih =>
    exact .mk sub h1 h2 h3 h4 h5 h6 h7 (fun hn => by
      obtain ⟨g, o, e, hg, hc⟩ := h8 hn
      exact ⟨g, o, e, hg.lt, hc⟩) ih
theorem DY.lasts {w w' : World} {T : DT} {x : DH} (h : DY w T x) (hb : Below w.heap.size w w') : DY w' T x := by
  induction h with
  | mk sub h1 h2 h3 h4 h5 h6 h7 h8 h9 ih =>
    exact .mk sub h1 h2 h3 ((h4.below hb).more hb.size) ((h5.keep fun p hp => hb.cell hp).more hb.size) h6 h7 (fun hn => by
      obtain ⟨g, o, e, hg, hc⟩ := h8 hn
      exact ⟨g, o, e, hg.below hg.lt hb, fun i hi j v hv => (hb.cell (p := ⟨g, o + i * 7 + j, none⟩) hg.lt).trans (hc i hi j v hv)⟩) ih
theorem DY.leaf {w : World} {k n : Int} {f : Bool} {b t : List UInt8} {a : List Nat} {x : DH} (h : DX w w.heap.size (.mk k f n b t a []) x) : DY w (.mk k f n b t a []) x := by
  generalize hT : DT.mk k f n b t a [] = T at h
  cases h with
  | mk sub h1 h2 h3 h4 h5 h6 h7 h8 h9 =>
    injection hT with e1 e2 e3 e4 e5 e6 e7
    subst e7
    exact .mk sub h1 h2 h3 h4 h5 h6 h7 (fun hn => absurd hn (by rw [← h6]; exact Nat.lt_irrefl 0)) (fun i T hT => by simp at hT)
/-- Over cells of plain rows. -/
theorem DC.dy {C : Nat → Nat → Value → Prop} {w : World} {T : DT} {x : DH} (h : DC C T x) (hC : ∀ g k v, C g k v → Plain w g ∧ w.cell? ⟨g, k, none⟩ = some v) : DY w T x := by
  induction h with
  | @mk x b a ks sub h1 h2 h3 b1 b2 b3 b4 a1 a2 a3 a4 a5 k1 k2 k3 k4 ih =>
    refine .mk sub h1 h2 h3 ⟨b1, b2, b3, fun hn => ?_⟩ ⟨a1, a2, a3, a4, fun hn => ?_⟩ k1 k2 (fun hn => ?_) ih
    · obtain ⟨g, o, e, hc⟩ := b4 hn
      exact ⟨g, o, e, (hC _ _ _ (hc 0 _ (List.getElem?_eq_getElem (by omega)))).1.lt, fun j y hy => (hC _ _ _ (hc j y hy)).2⟩
    · obtain ⟨g, o, e, hc⟩ := a5 hn
      exact ⟨g, o, e, (hC _ _ _ (hc 0 _ (List.getElem?_eq_getElem (by omega)))).1.lt, fun j y hy => (hC _ _ _ (hc j y hy)).2⟩
    · obtain ⟨g, o, e, hc⟩ := k3 hn
      exact ⟨g, o, e, (hC _ _ _ (hc 0 hn 0 _ (show (sub 0).cs[0]? = some (.int .i64 (sub 0).k) from rfl))).1, fun i hi j v hv => (hC _ _ _ (hc i hi j v hv)).2⟩
theorem TN.plain {t : Hep} {w : World} (ht : ∀ p ∈ t, Blk w p.1 p.2.1 p.2.2) {g k : Nat} {v : Value} (h : TN t g k v) : Plain w g ∧ w.cell? ⟨g, k, none⟩ = some v := by
  obtain ⟨T, cur, hm, hc⟩ := h
  have hb : Blk w g T cur := ht _ hm
  exact ⟨⟨cur, T, hb⟩, by rw [hb.cell]; exact hc⟩
def DYF (T : DT) (v : Value) (w : World) : Prop := ∃ x : DH, v = .agg x.cs ∧ DY w T x
instance {T : DT} {v : Value} : Lasts (DYF T v) := ⟨fun w w' ⟨x, e, h⟩ hb => ⟨x, e, h.lasts hb⟩⟩
section
variable {P : Program} {n : Nat} {w0 w w' : World} {a : Act} {e : Env} {h h' : Hep} {Q : Exit → Act → World → Prop} {ops : Array Oper} {rest : List Oper} {o : Oper}
theorem pl_callE {ι : Type} {vf : ι → Value} {hf' : ι → Hep} {F : ι → World → Prop} {d : Nat} {f : FuncId} {args : List Operand} {tys : Array TypeId} {vs : List Value} (ho : o.op = .call { callee := .value (.func f), args := args.toArray, argTypes := tys }) (hf : Ours P f) (hx : sevs e args = some vs)
    (hc : Kn w0 w h → Calls P f vs.toArray w (fun r W' => ∃ i, r = .returned (vf i) ∧ F i W' ∧ Kn w0 W' (hf' i))) (hg : o.guard = none) (hdst : o.dst = some d) (hl : Nat.blt d n = true) (hfr : e.all (fun p => !Nat.beq p.1 d) = true) (H : St n w0 a w e h)
    (next : ∀ i a w, F i w → St n w0 a w ((d, vf i) :: e) (hf' i) → wpList P ops Q rest a w) : wpList P ops Q (o :: rest) a w :=
  wpList_plain hg fun K hK => by
    unfold Oper.wp
    rw [run_call ho hf rfl, H.evs hx, Oper.upon_enter]
    refine (hc H.kn).mono ?_
    rintro r W' ⟨i, rfl, hF, K⟩
    refine hK _ _ (next i _ _ hF ?_)
    rw [hdst]
    exact (H.again K).put _ hl hfr
end
def rdC (st : Int) (A : Option Addr) (n c : Nat) : Array Value := #[.int .i64 st, .slice A n c]
/-- What is left to a reader. -/
def RdC (w0 : World) (l : List UInt8) (c : Array Value) : Prop := ∃ (st : Int) (A : Option Addr) (n cap : Nat), c = rdC st A n cap ∧ (st = 1 ∨ st = 2) ∧ BS w0 w0.heap.size A n cap l ∧ n < 9223372036854775808
section
variable {g : Nat} {st : Int} {A : Option Addr} {n c : Nat}
theorem fa_rdr0 (W : World) : (Instr.fieldAt 95 (.pointer (some ⟨g, 0, none⟩)) 0).run Tryd.prog W = .ok (.pointer (some ⟨g, 0, none⟩)) W := by kernel_rfl
theorem fa_rdr1 (W : World) : (Instr.fieldAt 95 (.pointer (some ⟨g, 0, none⟩)) 1).run Tryd.prog W = .ok (.pointer (some ⟨g, 1, none⟩)) W := by kernel_rfl
theorem ld_rdr0 (W : World) (h : Blk W g 95 (rdC st A n c)) : (Instr.loadAt 93 (.pointer (some ⟨g, 0, none⟩))).run Tryd.prog W = .ok (.int .i64 st) W := by
  have hc : W.cell? ⟨g, 0, none⟩ = some (.int .i64 st) := h.cell 0
  go_simp
theorem ld_rdr1 (W : World) (h : Blk W g 95 (rdC st A n c)) : (Instr.loadAt 23 (.pointer (some ⟨g, 1, none⟩))).run Tryd.prog W = .ok (.slice A n c) W := by
  have hc : W.cell? ⟨g, 1, none⟩ = some (.slice A n c) := h.cell 1
  go_simp
theorem st_rdr0 {u : Int} (W : World) (h : Blk W g 95 (rdC st A n c)) : (Instr.storeAt 93 (.pointer (some ⟨g, 0, none⟩)) (.int .i64 u)).run Tryd.prog W = .ok () (W.setCells g 0 [.int .i64 u]) := by
  have hc : W.cell? ⟨g, 0, none⟩ = some (.int .i64 st) := h.cell 0
  have hf := h.frozen 0
  have hs : (W.cell? ⟨g, 0, none⟩).isSome = true := by rw [hc]; rfl
  show _ = Result.ok () (W.setCell ⟨g, 0, none⟩ (.int .i64 u))
  go_simp
theorem st_rdr1 {B : Option Addr} {m d : Nat} (W : World) (h : Blk W g 95 (rdC st A n c)) : (Instr.storeAt 23 (.pointer (some ⟨g, 1, none⟩)) (.slice B m d)).run Tryd.prog W = .ok () (W.setCells g 1 [.slice B m d]) := by
  have hc : W.cell? ⟨g, 1, none⟩ = some (.slice A n c) := h.cell 1
  have hf := h.frozen 1
  have hs : (W.cell? ⟨g, 1, none⟩).isSome = true := by rw [hc]; rfl
  show _ = Result.ok () (W.setCell ⟨g, 1, none⟩ (.slice B m d))
  go_simp
theorem bd_rdr (W : World) : (Instr.build 95 [(0, .int .i64 1), (1, .slice A n c)].toArray).run Tryd.prog W = .ok (.agg (rdC 1 A n c)) W := by kernel_rfl
theorem bx_rdr (W : World) : (Instr.box 95 (.agg (rdC st A n c))).run Tryd.prog W = .ok (.pointer (some ⟨W.heap.size, 0, none⟩)) (W.alloc (.cells (rdC st A n c) 95)) := by kernel_rfl
theorem pn_neq (p q : Operand) (W : World) : (do eqGuard .neq 73 p q (.pointer (some ⟨g, 0, none⟩)) (.pointer none); binOp .neq 73 (.pointer (some ⟨g, 0, none⟩)) (.pointer none) : Sem Value).run Tryd.prog W = .ok (.bool true) W := by kernel_rfl
theorem sg_neq {k m : Int} {b : Bool} (h : decide (k ≠ m) = b) (p q : Operand) (W : World) : (do eqGuard .neq 93 p q (.int .i64 k) (.int .i64 m); binOp .neq 93 (.int .i64 k) (.int .i64 m) : Sem Value).run Tryd.prog W = .ok (.bool b) W := by
  have e : (!decide (k = m)) = b := by rw [← h, decide_not]
  go_simp
  exact e
end
theorem BS.headQ {w : World} {B n c : Nat} {A : Option Addr} {l : List UInt8} (h : BS w B A n c l) {k : Nat} (hk : k ≤ n) :
    ∃ A', (∀ W, (Instr.sliceAt 23 (.slice A n c) none (some (.int .i64 (k : Int))) (some (.int .i64 (k : Int)))).run Tryd.prog W = .ok (.slice A' k k) W) ∧ BS w B A' k k (l.take k) := by
  have hu : Tryd.prog.underlying 23 = some (.slice (Tryd.prog.elem 23)) := by kernel_rfl
  have hel : Tryd.prog.elem 23 = 5 := by kernel_rfl
  have hln := h.len
  have hnc := h.cap
  refine ⟨if k = 0 then A else A.map (fun a => a.add 0), fun W => ?_, ?_⟩
  · rw [run_sliceAt_slice W 23 _ _ _ _ hu, run_slice_hm W 23 A n c hu _ _ _ _ (by omega) (by omega) (by omega), hel, size_u8 u8_info]
    simp only [Result.andThen, sliced, Int.toNat_natCast, Nat.mul_one, Nat.sub_zero, Nat.zero_mul]
  · refine ⟨by rw [List.length_take]; omega, Nat.le_refl _, fun e => ?_, fun hp => ?_⟩
    · by_cases h0 : k = 0
      · exact h0
      · rw [if_neg h0] at e
        cases A with
        | none => have := h.nil_ rfl; omega
        | some a => cases e
    · obtain ⟨b, o, e, hb, hc⟩ := h.at_ (by omega)
      subst e
      rw [if_neg (by omega)]
      exact ⟨b, o, rfl, hb, fun j x hj => hc j x (by
        rw [List.getElem?_take] at hj
        split at hj
        · exact hj
        · cases hj)⟩
theorem BS.rest {w : World} {B n c : Nat} {A : Option Addr} {l : List UInt8} (h : BS w B A n c l) {k : Nat} (hk : k ≤ n) :
    ∃ A', (∀ W, (Instr.sliceAt 23 (.slice A n c) (some (.int .i64 (k : Int))) none none).run Tryd.prog W = .ok (.slice A' (n - k) (c - k)) W) ∧ BS w B A' (n - k) (c - k) (l.drop k) := by
  have hu : Tryd.prog.underlying 23 = some (.slice (Tryd.prog.elem 23)) := by kernel_rfl
  obtain ⟨A', h1, h2⟩ := BS.tail (P := Tryd.prog) 23 5 Tryd.underlying23 u8_info h hk
  exact ⟨A', fun W => by rw [run_sliceAt_slice W 23 _ _ _ _ hu]; exact h1 W, h2⟩
end Go.Proofs.YtiafcgoiolbdhaaDoor
namespace Go.Proofs.YtiafcgoiolbdhaaDoor
set_option linter.unusedVariables false
set_option linter.unusedSimpArgs false
set_option maxRecDepth 100000
open Go Go.RowKit
theorem does_oldAt {P : Program} {n : Nat} {w0 : World} {e : Env} {h : Hep} {Q : Exit → Act → World → Prop} {o : Oper} {t : TypeId} {x : Operand} {g f : Nat} {t' : Tid} {cs : Array Value} {v : Value} (ho : o.op = .load t x) (hx : sev e x = some (.pointer (some ⟨g, f, none⟩))) (hb : Blk w0 g t' cs) (hr : ∀ W, Blk W g t' cs → (Instr.loadAt t (.pointer (some ⟨g, f, none⟩))).run P W = .ok v W) : Does P Q n w0 e h o v := does_run fun a w H => by
  have hb2 := hb.below H.below hb.lt
  simp [execOp, ho, H.ev hx, hr w hb2, Result.andThen]
def gokQ (l : List UInt8) : Bool := decide (1 ≤ l.length ∧ l.length ≤ 8)
theorem gok_yes {l : List UInt8} (h : gokQ l = true) : getE l = .tuple #[.int .u64 ((accD l 0 : Nat) : Int), .int .i64 0] := getE_yes (of_decide_eq_true h)
theorem gok_no {l : List UInt8} (h : gokQ l = false) : getE l = .tuple #[.int .u64 0, .int .i64 2] := getE_no (of_decide_eq_false h)
theorem num_yes {l : List UInt8} {z : Int} (h : gokQ (takeQ l z).1 = true) : numQ l z = (accD (takeQ l z).1 0, (takeQ l z).2) := if_pos (of_decide_eq_true h)
theorem num_no {l : List UInt8} {z : Int} (h : gokQ (takeQ l z).1 = false) : numQ l z = (0, []) := if_neg (of_decide_eq_false h)
theorem er_neq {k m : Int} {b : Bool} (h : decide (k ≠ m) = b) (p q : Operand) (W : World) : (do eqGuard .neq 30 p q (.int .i64 k) (.int .i64 m); binOp .neq 30 (.int .i64 k) (.int .i64 m) : Sem Value).run Tryd.prog W = .ok (.bool b) W := by
  have e : (!decide (k = m)) = b := by rw [← h, decide_not]
  go_simp
  exact e
attribute [local irreducible] bvs bv byteD dvD beD putF updF rb takeQ numQ accD
set_option maxHeartbeats 4000000 in
theorem begun_any {g : Nat} {st : Int} {A : Option Addr} {m c : Nat} {w : World} (hrow : Blk w g 95 (rdC st A m c)) (hst : st = 1 ∨ st = 2) : Calls Tryd.prog 78 #[.pointer (some ⟨g, 0, none⟩)] w (fun rr w' => rr = .returned (.bool true) ∧ Below w.heap.size w w') := by
  refine calls_st (vs := [.pointer (some ⟨g, 0, none⟩)]) 12 Tryd.func78 rfl Tryd.ntmps78 rfl (fun a W H => ?_)
  replace H : St 12 w a W [(0, .pointer (some ⟨g, 0, none⟩))] [] := H
  refine sqR H gs0 fun Z_ z_ => rS 1 rfl <| rN0 z_ ?_
  try clear H a W
  intro a W H
  refine sqR H gs0 fun Z_ z_ => rS 1 rfl <| rV rfl (does_binOp rfl rfl rfl (pn_neq _ _)) <| rS 2 rfl <| rV rfl (does_nilCheckQ rfl rfl) <| rV rfl (does_fieldAddr rfl rfl fa_rdr0) <| rV rfl (does_oldAt (v := .int .i64 st) rfl rfl hrow ld_rdr0) <| rV rfl (does_binOp rfl rfl rfl (sg_neq (k := st) (m := 0) (decide_eq_true (by omega)) _ _)) <| rS 1 rfl <| rK [1, 1, 1, 1, 1, 1, 1, 1, 1, 0] [] [] <| rS 1 rfl <| rK [1, 0, 0, 0, 0, 0, 0, 0, 0, 0, 0] [] [] <| rN0 z_ ?_
  try clear H a W
  intro a W H
  refine wp_ret ?_
  repeat (first | (with_reducible refine then_ret ?_) | (with_reducible refine blk_ret ?_))
  refine end_tmp (p := 2) rfl rfl H (fun hb => ?_)
  exact ⟨rfl, hb⟩
set_option maxHeartbeats 4000000 in
theorem left_any {g : Nat} {st : Int} {A : Option Addr} {m c : Nat} {w : World} (hrow : Blk w g 95 (rdC st A m c)) (hst : st = 1 ∨ st = 2) : Calls Tryd.prog 75 #[.pointer (some ⟨g, 0, none⟩)] w (fun rr w' => rr = .returned (.int .i64 ((m : Nat) : Int)) ∧ Below w.heap.size w w') := by
  refine calls_st (vs := [.pointer (some ⟨g, 0, none⟩)]) 11 Tryd.func75 rfl Tryd.ntmps75 rfl (fun a W H => ?_)
  replace H : St 11 w a W [(0, .pointer (some ⟨g, 0, none⟩))] [] := H
  refine sqR H gs0 fun Z_ z_ => rS 1 rfl <| rN0 z_ ?_
  try clear H a W
  intro a W H
  refine wp_seq_k (fun K2 hK2 => ?_)
  refine sqR H gs0 fun Z_ z_ => rS 1 rfl <| rV rfl (does_call rfl ⟨_, Tryd.func78, by kernel_rfl⟩ rfl (fun W hb => begun_any (hrow.below hb hrow.lt) hst)) <| rS 1 rfl <| rK [1, 0, 0] [] [] <| rN0 z_ ?_
  try clear H a W
  intro a W H
  refine wp_cond_false (H.ev rfl) ?_
  refine wp_skip ?_
  refine hK2 _ _ ?_
  clear hK2
  refine sqR H gs0 fun Z_ z_ => rS 1 rfl <| rV rfl (does_nilCheckQ rfl rfl) <| rV rfl (does_fieldAddr rfl rfl fa_rdr1) <| rV rfl (does_oldAt (v := .slice A m c) rfl rfl hrow ld_rdr1) <| rV rfl (does_len Tryd.underlying23 rfl rfl) <| rK [1, 1, 1, 1, 1, 1, 0] [] [] <| rS 1 rfl <| rK [1, 0, 0, 0, 0, 0, 0, 0] [] [] <| rN0 z_ ?_
  try clear H a W
  intro a W H
  refine wp_ret ?_
  repeat (first | (with_reducible refine then_ret ?_) | (with_reducible refine blk_ret ?_))
  refine end_tmp (p := 2) rfl rfl H (fun hb => ?_)
  exact ⟨rfl, hb⟩
set_option maxHeartbeats 4000000 in
theorem fail_K {g : Nat} {st : Int} {A : Option Addr} {m c : Nat} {hh : Hep} (hst : st = 1 ∨ st = 2) (w0 w : World) (K : Kn w0 w ([(g, 95, rdC st A m c)] ++ hh)) : Calls Tryd.prog 74 #[.pointer (some ⟨g, 0, none⟩)] w (fun rr w' => ∃ i : Unit, rr = .returned (.tuple #[]) ∧ True ∧ Kn w0 w' ([(g, 95, rdC 2 none 0 0)] ++ hh)) := by
  refine calls_kn (vs := [.pointer (some ⟨g, 0, none⟩)]) 10 Tryd.func74 rfl Tryd.ntmps74 rfl K (fun a W H => ?_)
  replace H : St 10 w0 a W [(0, .pointer (some ⟨g, 0, none⟩))] ((g, 95, (rdC st A m c)) :: hh) := H
  refine sqR H gs0 fun Z_ z_ => rS 1 rfl <| rCV rfl rfl ⟨_, Tryd.func78, by kernel_rfl⟩ rfl (fun a W H _ => (begun_any (H.blk (k := 0) rfl) hst)) <| rK [1, 0] [] [] <| rN0 z_ ?_
  try clear H a W
  intro a W H
  refine wp_cond_true (H.ev rfl) ?_
  refine rgP H gs0 (rS 2 rfl <| rV rfl (does_nilCheckQ rfl rfl) <| rV rfl (does_fieldAddr rfl rfl fa_rdr0) <| rX [1] (c := (rdC 2 A m c)) ⟨rfl, rfl⟩ rfl rfl rfl (st_rdr0 (u := 2)) rfl <| rV rfl (does_nilCheckQ rfl rfl) <| rV rfl (does_fieldAddr rfl rfl fa_rdr1) <| rX [1] (c := (rdC 2 none 0 0)) ⟨rfl, rfl⟩ rfl rfl rfl st_rdr1 rfl <| rK [0, 0, 0, 0, 0, 0, 0, 0] [] [] <| rZ0 ?_)
  try clear H a W
  intro a W H
  refine end_none rfl H (fun hk_ => ?_)
  exact ⟨(), rfl, trivial, hk_⟩
theorem takeQ_yes {l : List UInt8} {z : Int} (h : 0 ≤ z ∧ z ≤ (l.length : Int)) : takeQ l z = (l.take z.toNat, l.drop z.toNat) := by
  unfold takeQ
  exact if_pos h
theorem takeQ_no {l : List UInt8} {z : Int} (h : ¬ (0 ≤ z ∧ z ≤ (l.length : Int))) : takeQ l z = ([], []) := by
  unfold takeQ
  exact if_neg h
theorem does_sliceM {P : Program} {n : Nat} {w0 : World} {e : Env} {h : Hep} {Q : Exit → Act → World → Prop} {o : Oper} {t : TypeId} {x y z : Operand} {u v p q : Value} (ho : o.op = .slice t x none (some y) (some z)) (hx : sev e x = some u) (hy : sev e y = some p) (hz : sev e z = some q) (hv : ∀ W, (Instr.sliceAt t u none (some p) (some q)).run P W = .ok v W) : Does P Q n w0 e h o v := does_run fun a w H => by
  unfold execOp
  simp only [ho, Option.map_some, Option.map_none, H.ev hx, H.ev hy, H.ev hz, Sem.run_bind, hv, Result.andThen_ok, Sem.run_pure]
set_option maxHeartbeats 4000000 in
theorem rbytes_K {g : Nat} {st : Int} {A : Option Addr} {m c : Nat} {hh : Hep} {l : List UInt8} (z : Int) (hst : st = 1 ∨ st = 2) (w0 w : World) (hbs : BS w0 w0.heap.size A m c l) (hm : m < 9223372036854775808) (K : Kn w0 w ([(g, 95, rdC st A m c)] ++ hh)) : Calls Tryd.prog 58 #[.pointer (some ⟨g, 0, none⟩), .int .i64 z] w (fun rr w' => ∃ i : Value × Array Value, rr = .returned i.1 ∧ (BF (takeQ l z).1 i.1 w0 ∧ RdC w0 (takeQ l z).2 i.2) ∧ Kn w0 w' ([(g, 95, i.2)] ++ hh)) := by
  have hlm := hbs.len
  refine calls_kn (vs := [.pointer (some ⟨g, 0, none⟩), .int .i64 z]) 41 Tryd.func58 rfl Tryd.ntmps58 rfl K (fun a W H => ?_)
  replace H : St 41 w0 a W [(0, .pointer (some ⟨g, 0, none⟩)), (1, .int .i64 z)] ((g, 95, (rdC st A m c)) :: hh) := H
  refine sqR H gs0 fun Z_ z_ => rS 1 rfl <| rN0 z_ ?_
  try clear H a W
  intro a W H
  refine wp_seq_k (fun K2 hK2 => ?_)
  refine wp_seq_k (fun K3 hK3 => ?_)
  cases hq1 : decide (z < 0) with
  | true =>
    have hq1p := of_decide_eq_true hq1
    refine rgP H gs0 (rS 1 rfl <| rCV rfl rfl ⟨_, Tryd.func78, by kernel_rfl⟩ rfl (fun a W H _ => (begun_any (H.blk (k := 0) rfl) hst)) <| rS 3 rfl <| rV rfl (does_binOp rfl rfl rfl (zd_lss_int (k := z) (m := 0) hq1 _ _)) <| rS 10 rfl <| rK [1, 0, 0, 0, 0, 0, 0, 0, 0, 0, 0, 0, 0, 0, 0, 0] [] [] <| rZ0 ?_)
    try clear H a W
    intro a W H
    refine hK3 _ _ ?_
    clear hK3
    refine wp_cond_true (H.ev rfl) ?_
    refine wp_seq_k (fun K4 hK4 => ?_)
    refine rgP H gs0 (rS 1 rfl <| rI0 ?_)
    try clear H a W
    intro a W H
    refine pl_callE rfl ⟨_, Tryd.func74, by kernel_rfl⟩ rfl (fun K_ => fail_K (hh := hh) hst w0 _ K_) rfl rfl rfl rfl H ?_
    try clear H a W
    rintro ⟨⟩ a W - H
    replace H : St 41 w0 a W [(23, .tuple #[]), (22, .pointer (some ⟨g, 0, none⟩)), (21, .bool true), (4, .slice none 0 0), (0, .pointer (some ⟨g, 0, none⟩)), (1, .int .i64 z)] ((g, 95, (rdC 2 none 0 0)) :: hh) := H
    refine rgO H gs0 (rK [0, 0, 0] [] [] <| rZ0 ?_)
    try clear H a W
    intro a W H
    refine hK4 _ _ ?_
    clear hK4
    refine sqR H gs0 fun Z_ z_ => rK [0] [] [] <| rS 1 rfl <| rN0 z_ ?_
    try clear H a W
    intro a W H
    refine wp_ret ?_
    repeat (first | (with_reducible refine then_ret ?_) | (with_reducible refine blk_ret ?_))
    refine end_tmp (p := 4) rfl rfl H (fun hb => ?_)
    refine ⟨(.slice none 0 0, rdC 2 none 0 0), rfl, ⟨?_, ?_⟩, H.kn⟩
    · rw [takeQ_no (by omega)]
      exact BF.nil _
    · rw [takeQ_no (by omega)]
      exact ⟨2, none, 0, 0, rfl, .inr rfl, BS.nil _ _, by decide⟩
  | false =>
    have hq1p := of_decide_eq_false hq1
    refine rgP H gs0 (rS 1 rfl <| rCV rfl rfl ⟨_, Tryd.func78, by kernel_rfl⟩ rfl (fun a W H _ => (begun_any (H.blk (k := 0) rfl) hst)) <| rS 3 rfl <| rV rfl (does_binOp rfl rfl rfl (zd_lss_int (k := z) (m := 0) hq1 _ _)) <| rS 4 rfl <| rV rfl (does_nilCheckQ rfl rfl) <| rV rfl (does_fieldAddr rfl rfl fa_rdr1) <| rV rfl (does_loadAt (v := .slice A m c) rfl rfl (k := 0) rfl ld_rdr1) <| rV rfl (does_len Tryd.underlying23 rfl rfl) <| rV rfl (does_binOp rfl rfl rfl (zd_gtr_int (k := z) (m := ((m : Nat) : Int)) rfl _ _)) <| rS 1 rfl <| rK [1, 0, 0, 0, 0, 0, 0, 0, 0, 0, 0, 0, 0, 0, 0, 0] [] [] <| rZ0 ?_)
    try clear H a W
    intro a W H
    refine hK3 _ _ ?_
    clear hK3
    cases hq2 : decide (((m : Nat) : Int) < z) with
    | true =>
      rw [hq2] at H
      have hq2p := of_decide_eq_true hq2
      refine wp_cond_true (H.ev rfl) ?_
      refine wp_seq_k (fun K6 hK6 => ?_)
      refine rgP H gs0 (rS 1 rfl <| rI0 ?_)
      try clear H a W
      intro a W H
      refine pl_callE rfl ⟨_, Tryd.func74, by kernel_rfl⟩ rfl (fun K_ => fail_K (hh := hh) hst w0 _ K_) rfl rfl rfl rfl H ?_
      try clear H a W
      rintro ⟨⟩ a W - H
      replace H : St 41 w0 a W [(23, .tuple #[]), (22, .pointer (some ⟨g, 0, none⟩)), (21, .bool true), (4, .slice none 0 0), (0, .pointer (some ⟨g, 0, none⟩)), (1, .int .i64 z)] ((g, 95, (rdC 2 none 0 0)) :: hh) := H
      refine rgO H gs0 (rK [0, 0, 0] [] [] <| rZ0 ?_)
      try clear H a W
      intro a W H
      refine hK6 _ _ ?_
      clear hK6
      refine sqR H gs0 fun Z_ z_ => rK [0] [] [] <| rS 1 rfl <| rN0 z_ ?_
      try clear H a W
      intro a W H
      refine wp_ret ?_
      repeat (first | (with_reducible refine then_ret ?_) | (with_reducible refine blk_ret ?_))
      refine end_tmp (p := 4) rfl rfl H (fun hb => ?_)
      refine ⟨(.slice none 0 0, rdC 2 none 0 0), rfl, ⟨?_, ?_⟩, H.kn⟩
      · rw [takeQ_no (by omega)]
        exact BF.nil _
      · rw [takeQ_no (by omega)]
        exact ⟨2, none, 0, 0, rfl, .inr rfl, BS.nil _ _, by decide⟩
    | false =>
      rw [hq2] at H
      have hq2p := of_decide_eq_false hq2
      refine wp_cond_false (H.ev rfl) ?_
      refine wp_skip ?_
      refine hK2 _ _ ?_
      clear hK2
      refine wp_seq_k (fun K8 hK8 => ?_)
      have hz0 : 0 ≤ z := by omega
      have hzm : z.toNat ≤ m := by omega
      obtain ⟨A1, hs1, hb1⟩ := hbs.headQ hzm
      obtain ⟨A2, hs2, hb2⟩ := hbs.rest hzm
      refine rgP H gs0 (rS 1 rfl <| rV rfl (does_nilCheckQ rfl rfl) <| rV rfl (does_fieldAddr rfl rfl fa_rdr1) <| rV rfl (does_loadAt (v := .slice A m c) rfl rfl (k := 0) rfl ld_rdr1) <| rS 2 rfl <| rV rfl (does_sliceM rfl rfl (by show some (Value.int .i64 z) = some (.int .i64 ((z.toNat : Nat) : Int)); rw [Int.toNat_of_nonneg (by omega)]) (by show some (Value.int .i64 z) = some (.int .i64 ((z.toNat : Nat) : Int)); rw [Int.toNat_of_nonneg (by omega)]) hs1) <| rS 1 rfl <| rK [1, 0, 0, 0, 0, 0, 0, 0, 0] [] [] <| rZ0 ?_)
      try clear H a W
      intro a W H
      refine hK8 _ _ ?_
      clear hK8
      refine sqR H gs0 fun Z_ z_ => rS 2 rfl <| rV rfl (does_nilCheckQ rfl rfl) <| rV rfl (does_fieldAddr rfl rfl fa_rdr1) <| rV rfl (does_loadAt (v := .slice A m c) rfl rfl (k := 0) rfl ld_rdr1) <| rS 1 rfl <| rV rfl (does_slice rfl rfl (vl := some (.int .i64 ((z.toNat : Nat) : Int))) (vh := none) (by show some (some (Value.int .i64 z)) = some (some (.int .i64 ((z.toNat : Nat) : Int))); rw [Int.toNat_of_nonneg (by omega)]) rfl hs2) <| rV rfl (does_nilCheckQ rfl rfl) <| rV rfl (does_fieldAddr rfl rfl fa_rdr1) <| rX [1] (c := (rdC st A2 (m - z.toNat) (c - z.toNat))) ⟨rfl, rfl⟩ rfl rfl rfl st_rdr1 rfl <| rK [0, 0, 0, 0, 0, 0, 0, 0, 0, 1, 1, 0, 0] [] [] <| rN0 z_ ?_
      try clear H a W
      intro a W H
      refine sqR H gs0 fun Z_ z_ => rS 1 rfl <| rK [1, 1, 0] [] [] <| rS 1 rfl <| rK [1, 0, 0] [] [] <| rN0 z_ ?_
      try clear H a W
      intro a W H
      refine wp_ret ?_
      repeat (first | (with_reducible refine then_ret ?_) | (with_reducible refine blk_ret ?_))
      refine end_tmp (p := 4) rfl rfl H (fun hb => ?_)
      refine ⟨(.slice A1 z.toNat z.toNat, rdC st A2 (m - z.toNat) (c - z.toNat)), rfl, ⟨?_, ?_⟩, H.kn⟩
      · rw [takeQ_yes ⟨by omega, by rw [hbs.len]; omega⟩]
        exact ⟨_, _, _, rfl, hb1⟩
      · rw [takeQ_yes ⟨by omega, by rw [hbs.len]; omega⟩]
        exact ⟨st, A2, _, _, rfl, hst, hb2, by omega⟩
/-- .. over what is left to it. -/
theorem bytes_R {g : Nat} {c : Array Value} {hh : Hep} {l : List UInt8} (z : Int) (w0 w : World) (hr : RdC w0 l c) (K : Kn w0 w ([(g, 95, c)] ++ hh)) : Calls Tryd.prog 58 #[.pointer (some ⟨g, 0, none⟩), .int .i64 z] w (fun rr w' => ∃ i : Value × Array Value, rr = .returned i.1 ∧ (BF (takeQ l z).1 i.1 w0 ∧ RdC w0 (takeQ l z).2 i.2) ∧ Kn w0 w' ([(g, 95, i.2)] ++ hh)) := by
  obtain ⟨st, A, m, cap, rfl, hst, hbs, hm⟩ := hr
  exact rbytes_K z hst w0 w hbs hm K
theorem fail_R {g : Nat} {c : Array Value} {hh : Hep} {l : List UInt8} (w0 w : World) (hr : RdC w0 l c) (K : Kn w0 w ([(g, 95, c)] ++ hh)) : Calls Tryd.prog 74 #[.pointer (some ⟨g, 0, none⟩)] w (fun rr w' => ∃ i : Unit, rr = .returned (.tuple #[]) ∧ True ∧ Kn w0 w' ([(g, 95, rdC 2 none 0 0)] ++ hh)) := by
  obtain ⟨st, A, m, cap, rfl, hst, hbs, hm⟩ := hr
  exact fail_K hst w0 w K
theorem left_R {g : Nat} {c : Array Value} {w0 w : World} {l : List UInt8} (hr : RdC w0 l c) (hb : Blk w g 95 c) : Calls Tryd.prog 75 #[.pointer (some ⟨g, 0, none⟩)] w (fun r W' => r = .returned (.int .i64 ((l.length : Nat) : Int)) ∧ Below w.heap.size w W') := by
  obtain ⟨st, A, m, cap, rfl, hst, hbs, hm⟩ := hr
  rw [hbs.len]
  exact left_any hb hst
theorem takeQ_small (l : List UInt8) (z : Int) (h : l.length < 9223372036854775808) : (takeQ l z).1.length < 9223372036854775808 := by
  have := takeQ_le l z
  omega
set_option maxHeartbeats 4000000 in
theorem num_R {g : Nat} {c : Array Value} {hh : Hep} {l : List UInt8} (z : Int) (hl : l.length < 9223372036854775808) (w0 w : World) (hr : RdC w0 l c) (K : Kn w0 w ([(g, 95, c)] ++ hh)) : Calls Tryd.prog 54 #[.pointer (some ⟨g, 0, none⟩), .int .i64 z] w (fun rr w' => ∃ c' : Array Value, rr = .returned (.int .u64 (((numQ l z).1 : Nat) : Int)) ∧ RdC w0 (numQ l z).2 c' ∧ Kn w0 w' ([(g, 95, c')] ++ hh)) := by
  refine calls_kn (vs := [.pointer (some ⟨g, 0, none⟩), .int .i64 z]) 19 Tryd.func54 rfl Tryd.ntmps54 rfl K (fun a W H => ?_)
  replace H : St 19 w0 a W [(0, .pointer (some ⟨g, 0, none⟩)), (1, .int .i64 z)] ((g, 95, c) :: hh) := H
  refine sqR H gs0 fun Z_ z_ => rS 1 rfl <| rN0 z_ ?_
  try clear H a W
  intro a W H
  refine wp_seq_k (fun K2 hK2 => ?_)
  cases hq1 : gokQ (takeQ l z).1 with
  | true =>
    refine rgP H gs0 (rS 2 rfl <| rI0 ?_)
    try clear H a W
    intro a W H
    refine pl_callE rfl ⟨_, Tryd.func58, by kernel_rfl⟩ rfl (fun K_ => bytes_R (hh := hh) z w0 _ hr K_) rfl rfl rfl rfl H ?_
    try clear H a W
    rintro ⟨vq, cq⟩ a W ⟨hvq, hcq⟩ H
    replace H : St 19 w0 a W [(10, vq), (9, .int .i64 z), (8, .pointer (some ⟨g, 0, none⟩)), (4, .int .u64 0), (0, .pointer (some ⟨g, 0, none⟩)), (1, .int .i64 z)] ((g, 95, cq) :: hh) := H
    refine rgO H gs0 (rCV rfl rfl ⟨_, Tryd.func73, by kernel_rfl⟩ rfl (fun a W H _ => (by have h_ := get_any (bf_old hvq H) (by have := takeQ_small l z hl; omega); rw [gok_yes hq1] at h_; exact h_)) <| rS 5 rfl <| rK [1, 1, 0, 0, 0, 0, 0, 0, 0, 1, 1, 0] [] [] <| rZ0 ?_)
    try clear H a W
    intro a W H
    refine hK2 _ _ ?_
    clear hK2
    refine wp_seq_k (fun K3 hK3 => ?_)
    refine sqR H gs0 fun Z_ z_ => rS 1 rfl <| rV rfl (does_binOp rfl rfl rfl (er_neq (k := 0) (m := 0) (decide_eq_false (by decide)) _ _)) <| rK [1, 0, 0] [] [] <| rN0 z_ ?_
    try clear H a W
    intro a W H
    refine wp_cond_false (H.ev rfl) ?_
    refine wp_skip ?_
    refine hK3 _ _ ?_
    clear hK3
    refine sqR H gs0 fun Z_ z_ => rS 1 rfl <| rK [1, 1, 1, 0] [] [] <| rS 1 rfl <| rK [1, 0, 0, 0, 0] [] [] <| rN0 z_ ?_
    try clear H a W
    intro a W H
    refine wp_ret ?_
    repeat (first | (with_reducible refine then_ret ?_) | (with_reducible refine blk_ret ?_))
    refine end_tmp (p := 4) rfl rfl H (fun hb => ?_)
    refine ⟨cq, ?_, ?_, H.kn⟩
    · rw [show (numQ l z).1 = accD (takeQ l z).1 0 from by rw [num_yes hq1]]; rfl
    · rw [num_yes hq1]
      exact hcq
  | false =>
    refine rgP H gs0 (rS 2 rfl <| rI0 ?_)
    try clear H a W
    intro a W H
    refine pl_callE rfl ⟨_, Tryd.func58, by kernel_rfl⟩ rfl (fun K_ => bytes_R (hh := hh) z w0 _ hr K_) rfl rfl rfl rfl H ?_
    try clear H a W
    rintro ⟨vq, cq⟩ a W ⟨hvq, hcq⟩ H
    replace H : St 19 w0 a W [(10, vq), (9, .int .i64 z), (8, .pointer (some ⟨g, 0, none⟩)), (4, .int .u64 0), (0, .pointer (some ⟨g, 0, none⟩)), (1, .int .i64 z)] ((g, 95, cq) :: hh) := H
    refine rgO H gs0 (rCV rfl rfl ⟨_, Tryd.func73, by kernel_rfl⟩ rfl (fun a W H _ => (by have h_ := get_any (bf_old hvq H) (by have := takeQ_small l z hl; omega); rw [gok_no hq1] at h_; exact h_)) <| rS 5 rfl <| rK [1, 1, 0, 0, 0, 0, 0, 0, 0, 1, 1, 0] [] [] <| rZ0 ?_)
    try clear H a W
    intro a W H
    refine hK2 _ _ ?_
    clear hK2
    refine wp_seq_k (fun K6 hK6 => ?_)
    refine sqR H gs0 fun Z_ z_ => rS 1 rfl <| rV rfl (does_binOp rfl rfl rfl (er_neq (k := 2) (m := 0) (decide_eq_true (by decide)) _ _)) <| rK [1, 0, 0] [] [] <| rN0 z_ ?_
    try clear H a W
    intro a W H
    refine wp_cond_true (H.ev rfl) ?_
    refine rgP H gs0 (rS 1 rfl <| rI0 ?_)
    try clear H a W
    intro a W H
    refine pl_callE rfl ⟨_, Tryd.func74, by kernel_rfl⟩ rfl (fun K_ => fail_R (hh := hh) w0 _ hcq K_) rfl rfl rfl rfl H ?_
    try clear H a W
    rintro ⟨⟩ a W - H
    replace H : St 19 w0 a W [(17, .tuple #[]), (16, .pointer (some ⟨g, 0, none⟩)), (15, .bool true), (5, .int .u64 0), (4, .int .u64 0), (0, .pointer (some ⟨g, 0, none⟩))] ((g, 95, (rdC 2 none 0 0)) :: hh) := H
    refine rgO H gs0 (rK [0, 0, 0, 1, 1, 0] [] [] <| rZ0 ?_)
    try clear H a W
    intro a W H
    refine hK6 _ _ ?_
    clear hK6
    refine sqR H gs0 fun Z_ z_ => rS 1 rfl <| rK [1, 1, 0] [] [] <| rS 1 rfl <| rK [1, 0, 0] [] [] <| rN0 z_ ?_
    try clear H a W
    intro a W H
    refine wp_ret ?_
    repeat (first | (with_reducible refine then_ret ?_) | (with_reducible refine blk_ret ?_))
    refine end_tmp (p := 4) rfl rfl H (fun hb => ?_)
    refine ⟨rdC 2 none 0 0, ?_, ?_, H.kn⟩
    · rw [num_no hq1]; rfl
    · rw [num_no hq1]
      exact ⟨2, none, 0, 0, rfl, .inr rfl, BS.nil _ _, by decide⟩
set_option maxHeartbeats 4000000 in
theorem wread_any {Ab : Option Addr} {nb cb : Nat} {lb : List UInt8} (w : World) (hFb : BF lb (.slice Ab nb cb) w) (hlb : lb.length ≤ 900000) : Calls Tryd.prog 38 #[.slice Ab nb cb] w (fun rr w' => ∃ (wm : World) (g : Nat) (c : Array Value), rr = .returned (.pointer (some ⟨g, 0, none⟩)) ∧ Below w.heap.size w wm ∧ Kn wm w' [(g, 95, c)] ∧ RdC wm lb c) := by
  refine calls_st (vs := [.slice Ab nb cb]) 8 Tryd.func38 rfl Tryd.ntmps38 rfl (fun a W H => ?_)
  replace H : St 8 w a W [(0, .slice Ab nb cb)] [] := H
  refine sqR H gs0 fun Z_ z_ => rS 1 rfl <| rN0 z_ ?_
  try clear H a W
  intro a W H
  refine wp_seq_k (fun K2 hK2 => ?_)
  refine rgP H gs0 (rS 1 rfl <| rO rfl (fun a W H _ => ob_rows1S H (wanted_none rfl) rfl rfl (bf_old hFb H)) fun v4 => rI ?_)
  try clear H a W
  rintro a W H ⟨hv4, -⟩
  refine pl_R (R := SB) (F := OF w.heap.size [] lb) sb_st (ob_callS H (wanted_none rfl) rfl ⟨_, Tryd.func45, by kernel_rfl⟩ rfl (by have h_ := of_call H (join_any hv4.rf (by simp) (by simp only [List.flatten_cons, List.flatten_nil, List.length_append, List.length_nil]; omega)); rw [flat1] at h_; exact h_)) rfl rfl rfl H ?_
  try clear H a W
  rintro v1 a W hv1 hR_ H
  obtain ⟨A1, m1, c1, rfl, hb1⟩ := hv1.bf
  obtain ⟨wm, H, HKm, hbm⟩ : ∃ wm, St 8 wm a W [(5, .slice A1 m1 c1), (4, v4), (3, .slice Ab nb cb), (2, .pointer none), (0, .slice Ab nb cb)] [] ∧ Kn w wm [] ∧ BS wm wm.heap.size A1 m1 c1 lb := ⟨W, H.rebase, H.kn, hb1⟩
  refine rgO H gs0 (rV rfl (does_build rfl rfl bd_rdr) <| rB rfl rfl rfl bx_rdr fun g1 => rK [1, 1, 1, 1, 1, 0] [] [] <| rS 1 rfl <| rK [1, 0, 0, 0, 0, 0, 0] [] [] <| rZ0 ?_)
  try clear H a W
  intro a W H
  refine hK2 _ _ ?_
  clear hK2
  refine wp_ret ?_
  repeat (first | (with_reducible refine then_ret ?_) | (with_reducible refine blk_ret ?_))
  refine end_tmp (p := 2) rfl rfl H (fun hb => ?_)
  exact ⟨wm, g1, rdC 1 A1 m1 c1, rfl, HKm.below, H.kn, 1, A1, m1, c1, rfl, .inl rfl, hbm, by rw [← hbm.len]; omega⟩
end Go.Proofs.YtiafcgoiolbdhaaDoor
namespace Go.Proofs.YtiafcgoiolbdhaaDoor
set_option linter.unusedVariables false
set_option linter.unusedSimpArgs false
set_option maxRecDepth 100000
open Go Go.RowKit
theorem st_derK {g : Nat} {ty : TypeId} {x : DH} {u : Int} (W : World) (h : Blk W g ty x.cs) : (Instr.storeAt 22 (.pointer (some ⟨g, 0, none⟩)) (.int .i64 u)).run Tryd.prog W = .ok () (W.setCells g 0 [.int .i64 u]) := by
  have hc : W.cell? ⟨g, 0, none⟩ = some (.int .i64 x.k) := h.cell 0
  have hf := h.frozen 0
  have hs : (W.cell? ⟨g, 0, none⟩).isSome = true := by rw [hc]; rfl
  show _ = Result.ok () (W.setCell ⟨g, 0, none⟩ (.int .i64 u))
  go_simp
theorem sv_derK {k m : Int} {f : Bool} {t : List UInt8} {b ar ks : SL} {u : Int} : setV (DH.mk k f m b t ar ks).cs 0 [.int .i64 u] = (DH.mk u f m b t ar ks).cs := rfl
theorem st_derF {g : Nat} {ty : TypeId} {x : DH} {u : Bool} (W : World) (h : Blk W g ty x.cs) : (Instr.storeAt 4 (.pointer (some ⟨g, 1, none⟩)) (.bool u)).run Tryd.prog W = .ok () (W.setCells g 1 [.bool u]) := by
  have hc : W.cell? ⟨g, 1, none⟩ = some (.bool x.f) := h.cell 1
  have hf := h.frozen 1
  have hs : (W.cell? ⟨g, 1, none⟩).isSome = true := by rw [hc]; rfl
  show _ = Result.ok () (W.setCell ⟨g, 1, none⟩ (.bool u))
  go_simp
theorem sv_derF {k m : Int} {f : Bool} {t : List UInt8} {b ar ks : SL} {u : Bool} : setV (DH.mk k f m b t ar ks).cs 1 [.bool u] = (DH.mk k u m b t ar ks).cs := rfl
theorem st_derN {g : Nat} {ty : TypeId} {x : DH} {u : Int} (W : World) (h : Blk W g ty x.cs) : (Instr.storeAt 2 (.pointer (some ⟨g, 2, none⟩)) (.int .i64 u)).run Tryd.prog W = .ok () (W.setCells g 2 [.int .i64 u]) := by
  have hc : W.cell? ⟨g, 2, none⟩ = some (.int .i64 x.n) := h.cell 2
  have hf := h.frozen 2
  have hs : (W.cell? ⟨g, 2, none⟩).isSome = true := by rw [hc]; rfl
  show _ = Result.ok () (W.setCell ⟨g, 2, none⟩ (.int .i64 u))
  go_simp
theorem sv_derN {k m : Int} {f : Bool} {t : List UInt8} {b ar ks : SL} {u : Int} : setV (DH.mk k f m b t ar ks).cs 2 [.int .i64 u] = (DH.mk k f u b t ar ks).cs := rfl
theorem st_derB {g : Nat} {ty : TypeId} {x : DH} {u : SL} (W : World) (h : Blk W g ty x.cs) : (Instr.storeAt 23 (.pointer (some ⟨g, 3, none⟩)) (.slice u.A u.n u.c)).run Tryd.prog W = .ok () (W.setCells g 3 [.slice u.A u.n u.c]) := by
  have hc : W.cell? ⟨g, 3, none⟩ = some (.slice x.b.A x.b.n x.b.c) := h.cell 3
  have hf := h.frozen 3
  have hs : (W.cell? ⟨g, 3, none⟩).isSome = true := by rw [hc]; rfl
  show _ = Result.ok () (W.setCell ⟨g, 3, none⟩ (.slice u.A u.n u.c))
  go_simp
theorem sv_derB {k m : Int} {f : Bool} {t : List UInt8} {b ar ks : SL} {u : SL} : setV (DH.mk k f m b t ar ks).cs 3 [.slice u.A u.n u.c] = (DH.mk k f m u t ar ks).cs := rfl
theorem st_derT {g : Nat} {ty : TypeId} {x : DH} {u : List UInt8} (W : World) (h : Blk W g ty x.cs) : (Instr.storeAt 9 (.pointer (some ⟨g, 4, none⟩)) (.string (strB u))).run Tryd.prog W = .ok () (W.setCells g 4 [.string (strB u)]) := by
  have hc : W.cell? ⟨g, 4, none⟩ = some (.string (strB x.t)) := h.cell 4
  have hf := h.frozen 4
  have hs : (W.cell? ⟨g, 4, none⟩).isSome = true := by rw [hc]; rfl
  show _ = Result.ok () (W.setCell ⟨g, 4, none⟩ (.string (strB u)))
  go_simp
theorem sv_derT {k m : Int} {f : Bool} {t : List UInt8} {b ar ks : SL} {u : List UInt8} : setV (DH.mk k f m b t ar ks).cs 4 [.string (strB u)] = (DH.mk k f m b u ar ks).cs := rfl
theorem st_derA {g : Nat} {ty : TypeId} {x : DH} {u : SL} (W : World) (h : Blk W g ty x.cs) : (Instr.storeAt 24 (.pointer (some ⟨g, 5, none⟩)) (.slice u.A u.n u.c)).run Tryd.prog W = .ok () (W.setCells g 5 [.slice u.A u.n u.c]) := by
  have hc : W.cell? ⟨g, 5, none⟩ = some (.slice x.a.A x.a.n x.a.c) := h.cell 5
  have hf := h.frozen 5
  have hs : (W.cell? ⟨g, 5, none⟩).isSome = true := by rw [hc]; rfl
  show _ = Result.ok () (W.setCell ⟨g, 5, none⟩ (.slice u.A u.n u.c))
  go_simp
theorem sv_derA {k m : Int} {f : Bool} {t : List UInt8} {b ar ks : SL} {u : SL} : setV (DH.mk k f m b t ar ks).cs 5 [.slice u.A u.n u.c] = (DH.mk k f m b t u ks).cs := rfl
theorem st_derS {g : Nat} {ty : TypeId} {x : DH} {u : SL} (W : World) (h : Blk W g ty x.cs) : (Instr.storeAt 25 (.pointer (some ⟨g, 6, none⟩)) (.slice u.A u.n u.c)).run Tryd.prog W = .ok () (W.setCells g 6 [.slice u.A u.n u.c]) := by
  have hc : W.cell? ⟨g, 6, none⟩ = some (.slice x.ks.A x.ks.n x.ks.c) := h.cell 6
  have hf := h.frozen 6
  have hs : (W.cell? ⟨g, 6, none⟩).isSome = true := by rw [hc]; rfl
  show _ = Result.ok () (W.setCell ⟨g, 6, none⟩ (.slice u.A u.n u.c))
  go_simp
theorem sv_derS {k m : Int} {f : Bool} {t : List UInt8} {b ar ks : SL} {u : SL} : setV (DH.mk k f m b t ar ks).cs 6 [.slice u.A u.n u.c] = (DH.mk k f m b t ar u).cs := rfl
theorem bd_der0 (W : World) : (Instr.build 27 #[]).run Tryd.prog W = .ok (.agg (DH.mk 0 false 0 SL.no [] SL.no SL.no).cs) W := by kernel_rfl
theorem bd_derK (k : Int) (W : World) : (Instr.build 27 [(0, .int .i64 k)].toArray).run Tryd.prog W = .ok (.agg (DH.mk k false 0 SL.no [] SL.no SL.no).cs) W := by kernel_rfl
theorem kt_yes {x m : Nat} (h : tagD ((m : Int) + 1) 0 = (x : Int)) : ktD x (m + 1) = (m : Int) + 1 := if_pos h
theorem kt_no {x m : Nat} (h : ¬ tagD ((m : Int) + 1) 0 = (x : Int)) : ktD x (m + 1) = ktD x m := if_neg h
theorem cv_b64 {x : Nat} (hx : x < 256) (W : World) : (convert 5 2 (.int .u8 (x : Int))).run Tryd.prog W = .ok (.int .i64 (x : Int)) W := by
  have e : IntKind.i64.wrap (x : Int) = (x : Int) := IntWalk.i64_in _ (by omega)
  go_simp
theorem n0_in : -9223372036854775808 ≤ (0 : Int) ∧ (0 : Int) < 9223372036854775808 := by decide
theorem one255 {l : List UInt8} (h : l.length = 1) : l = [255] ↔ (((l.getD 0 0).toNat : Nat) : Int) = 255 := by
  obtain ⟨x, rfl⟩ : ∃ x, l = [x] := by
    rcases l with _ | ⟨x, _ | ⟨y, r⟩⟩
    · simp at h
    · exact ⟨x, rfl⟩
    · simp at h
  have e : ([x] : List UInt8).getD 0 0 = x := rfl
  rw [e]
  constructor
  · intro h
    injection h with h
    subst h
    rfl
  · intro h
    have : x.toNat = (255 : UInt8).toNat := by
      have : (255 : UInt8).toNat = 255 := rfl
      omega
    rw [UInt8.toNat_inj.1 this]
theorem numD_in (l : List UInt8) : -9223372036854775808 ≤ numD l ∧ numD l < 9223372036854775808 := by
  have key : ∀ x : Nat, x < 18446744073709551616 → -9223372036854775808 ≤ s64 x ∧ s64 x < 9223372036854775808 := fun x h => by
    unfold s64
    split <;> omega
  exact key _ (accD_lt (l.take 8) (if 128 ≤ (l.getD 0 0).toNat then 72057594037927935 else 0) (by split <;> omega))
theorem readD_0 (l : List UInt8) : readD 0 l = none := rfl
theorem arcs_len (l : List UInt8) : (arcsD l 0 []).length ≤ 2 * l.length := by
  rw [arcs_end]
  exact arA_len l l.length
theorem tag8 {x : Nat} (h : x < 256) (h8 : kindD x = 8) : 160 ≤ x ∧ x ≤ 190 := by
  unfold kindD at h8
  repeat' split at h8
  all_goals first | omega | (exfalso; revert h8; decide)
attribute [local irreducible] tagD kindD numD arcsD rdK readD
set_option maxHeartbeats 4000000 in
theorem read_zero {lb : List UInt8} {Ab : Option Addr} {nb cb : Nat} {P : Nat → Prop} (w : World) (hP : ∀ b, P b → b < w.heap.size) (hbp : BP w P Ab nb cb lb) (hnb : nb ≤ 100000) : Calls Tryd.prog 40 #[.slice Ab nb cb, .int .i64 ((0 : Nat) : Int)] w (fun rr w' => ∃ v t, rr = .returned v ∧ Below w.heap.size w w' ∧ NR w.heap.size t w' ∧ RdF 0 lb P w v t) := by
  have hbs := hbp.bs hP
  have hlb := hbp.len
  have hbfb : BF lb (.slice Ab nb cb) w := ⟨_, _, _, rfl, hbs⟩
  obtain ⟨gbx, obx, hbb⟩ := hbs.nat (Nat.le_refl _)
  refine calls_st (vs := [.slice Ab nb cb, .int .i64 ((0 : Nat) : Int)]) 139 Tryd.func40 rfl Tryd.ntmps40 rfl (fun a W H => ?_)
  replace H : St 139 w a W [(0, .slice Ab nb cb), (1, .int .i64 ((0 : Nat) : Int))] [] := H
  refine sqR H gs0 fun Z_ z_ => rA rfl rfl al_der fun g1 => rS 2 rfl <| rN0 z_ ?_
  try clear H a W
  intro a W H
  refine wp_seq_k (fun K2 hK2 => ?_)
  refine rgP H gs0 (rS 1 rfl <| rI0 ?_)
  try clear H a W
  intro a W H
  refine pl_R (R := SB) (F := fun v _ => ∃ (f e : Nat) (ok : Bool), v = .tuple #[.int .i64 (f : Int), .int .i64 (e : Int), .bool ok] ∧ spanR lb f e ok) sb_st (ob_callS H (wanted_none rfl) rfl ⟨_, Tryd.func59, by kernel_rfl⟩ rfl (head_any _ (bf_old hbfb H) (by omega))) rfl rfl rfl H ?_
  try clear H a W
  rintro _ a W ⟨sf, se, ok, rfl, hsp⟩ hR_ H
  clear hR_
  replace H : St 139 w a W [(18, .tuple #[.int .i64 (sf : Int), .int .i64 (se : Int), .bool ok]), (17, .slice Ab nb cb), (6, .bool false), (5, .int .i64 0), (4, .pointer (some ⟨g1, 0, none⟩)), (0, .slice Ab nb cb), (1, .int .i64 ((0 : Nat) : Int))] [(g1, 27, DH.no.cs)] := H
  refine rgO H gs0 (rS 7 rfl <| rK [1, 1, 1, 0, 0, 0, 0, 0, 0] [] [] <| rZ0 ?_)
  try clear H a W
  intro a W H
  refine hK2 _ _ ?_
  clear hK2
  refine wp_seq_k (fun K3 hK3 => ?_)
  refine wp_seq_k (fun K4 hK4 => ?_)
  cases hq1 : ok with
  | true =>
    rw [hq1] at H
    refine rgP H gs0 (rS 4 rfl <| rV rfl (does_binOp rfl rfl rfl (zd_lss_int (k := ((0 : Nat) : Int)) (m := 1) (decide_eq_true (by omega)) _ _)) <| rS 1 rfl <| rK [1, 0, 0, 0, 0, 0, 0] [] [] <| rZ0 ?_)
    try clear H a W
    intro a W H
    refine hK4 _ _ ?_
    clear hK4
    refine wp_cond_true (H.ev rfl) ?_
    refine sqR H gs0 fun Z_ z_ => rV rfl (does_build (ps := []) rfl rfl bd_der0) <| rW [1] ⟨rfl, rfl⟩ rfl rfl rfl (info_der (DH.mk 0 false 0 SL.no [] SL.no SL.no)) (size_der DH.no (DH.mk 0 false 0 SL.no [] SL.no SL.no)) (DH.mk 0 false 0 SL.no [] SL.no SL.no).one <| rK [1, 1, 1, 1, 1, 0] [] [] <| rS 1 rfl <| rK [1, 1, 1, 1, 1, 0] [] [] <| rS 1 rfl <| rK [1, 1, 0, 0] [] [] <| rN0 z_ ?_
    try clear H a W
    intro a W H
    refine wp_ret ?_
    repeat (first | (with_reducible refine then_ret ?_) | (with_reducible refine blk_ret ?_))
    refine end_cell_tt (p := 4) (q := 5) (r := 6) rfl rfl rfl rfl (k := 0) rfl Tryd.underlying27 rfl (info_der _) H (fun hb => ?_)
    replace H : St 139 w a W [(6, .bool false), (5, .int .i64 0), (8, .int .i64 ((se : Nat) : Int)), (7, .int .i64 ((sf : Nat) : Int)), (4, .pointer (some ⟨g1, 0, none⟩)), (0, .slice Ab nb cb), (1, .int .i64 ((0 : Nat) : Int))] ([(g1, 27, (DH.mk 0 false 0 SL.no [] SL.no SL.no).cs)] ++ ([] : Hep)) := by rw [List.append_nil]; exact H
    refine ⟨_, ([] : Hep), rfl, hb, H.nr, (DH.mk 0 false 0 SL.no [] SL.no SL.no), _, _, rfl, ?_, ?_⟩
    · intro h_; cases h_
    · intro _
      exact readD_0 _
  | false =>
    rw [hq1] at H
    refine rgP H gs0 (rS 6 rfl <| rK [1, 0, 0, 0, 0, 0, 0] [] [] <| rZ0 ?_)
    try clear H a W
    intro a W H
    refine hK4 _ _ ?_
    clear hK4
    refine wp_cond_true (H.ev rfl) ?_
    refine sqR H gs0 fun Z_ z_ => rV rfl (does_build (ps := []) rfl rfl bd_der0) <| rW [1] ⟨rfl, rfl⟩ rfl rfl rfl (info_der (DH.mk 0 false 0 SL.no [] SL.no SL.no)) (size_der DH.no (DH.mk 0 false 0 SL.no [] SL.no SL.no)) (DH.mk 0 false 0 SL.no [] SL.no SL.no).one <| rK [1, 1, 1, 1, 1, 0] [] [] <| rS 1 rfl <| rK [1, 1, 1, 1, 1, 0] [] [] <| rS 1 rfl <| rK [1, 1, 0, 0] [] [] <| rN0 z_ ?_
    try clear H a W
    intro a W H
    refine wp_ret ?_
    repeat (first | (with_reducible refine then_ret ?_) | (with_reducible refine blk_ret ?_))
    refine end_cell_tt (p := 4) (q := 5) (r := 6) rfl rfl rfl rfl (k := 0) rfl Tryd.underlying27 rfl (info_der _) H (fun hb => ?_)
    replace H : St 139 w a W [(6, .bool false), (5, .int .i64 0), (8, .int .i64 ((se : Nat) : Int)), (7, .int .i64 ((sf : Nat) : Int)), (4, .pointer (some ⟨g1, 0, none⟩)), (0, .slice Ab nb cb), (1, .int .i64 ((0 : Nat) : Int))] ([(g1, 27, (DH.mk 0 false 0 SL.no [] SL.no SL.no).cs)] ++ ([] : Hep)) := by rw [List.append_nil]; exact H
    refine ⟨_, ([] : Hep), rfl, hb, H.nr, (DH.mk 0 false 0 SL.no [] SL.no SL.no), _, _, rfl, ?_, ?_⟩
    · intro h_; cases h_
    · intro _
      exact readD_0 _
set_option maxHeartbeats 4000000 in
theorem read_step {lb : List UInt8} {Ab : Option Addr} {nb cb : Nat} {P : Nat → Prop} (w : World) (hP : ∀ b, P b → b < w.heap.size) (hbp : BP w P Ab nb cb lb) (hnb : nb ≤ 100000) {d : Nat} (hd : d ≤ 1000) (ih : RdOk d) : Calls Tryd.prog 40 #[.slice Ab nb cb, .int .i64 ((d + 1 : Nat) : Int)] w (fun rr w' => ∃ v t, rr = .returned v ∧ Below w.heap.size w w' ∧ NR w.heap.size t w' ∧ RdF (d + 1) lb P w v t) := by
  have hbs := hbp.bs hP
  have hlb := hbp.len
  have hbfb : BF lb (.slice Ab nb cb) w := ⟨_, _, _, rfl, hbs⟩
  obtain ⟨gbx, obx, hbb⟩ := hbs.nat (Nat.le_refl _)
  refine calls_st (vs := [.slice Ab nb cb, .int .i64 ((d + 1 : Nat) : Int)]) 139 Tryd.func40 rfl Tryd.ntmps40 rfl (fun a W H => ?_)
  replace H : St 139 w a W [(0, .slice Ab nb cb), (1, .int .i64 ((d + 1 : Nat) : Int))] [] := H
  refine sqR H gs0 fun Z_ z_ => rA rfl rfl al_der fun g1 => rS 2 rfl <| rN0 z_ ?_
  try clear H a W
  intro a W H
  refine wp_seq_k (fun K2 hK2 => ?_)
  refine rgP H gs0 (rS 1 rfl <| rI0 ?_)
  try clear H a W
  intro a W H
  refine pl_R (R := SB) (F := fun v _ => ∃ (f e : Nat) (ok : Bool), v = .tuple #[.int .i64 (f : Int), .int .i64 (e : Int), .bool ok] ∧ spanR lb f e ok) sb_st (ob_callS H (wanted_none rfl) rfl ⟨_, Tryd.func59, by kernel_rfl⟩ rfl (head_any _ (bf_old hbfb H) (by omega))) rfl rfl rfl H ?_
  try clear H a W
  rintro _ a W ⟨sf, se, ok, rfl, hsp⟩ hR_ H
  clear hR_
  replace H : St 139 w a W [(18, .tuple #[.int .i64 (sf : Int), .int .i64 (se : Int), .bool ok]), (17, .slice Ab nb cb), (6, .bool false), (5, .int .i64 0), (4, .pointer (some ⟨g1, 0, none⟩)), (0, .slice Ab nb cb), (1, .int .i64 ((d + 1 : Nat) : Int))] [(g1, 27, DH.no.cs)] := H
  refine rgO H gs0 (rS 7 rfl <| rK [1, 1, 1, 0, 0, 0, 0, 0, 0] [] [] <| rZ0 ?_)
  try clear H a W
  intro a W H
  refine hK2 _ _ ?_
  clear hK2
  refine wp_seq_k (fun K3 hK3 => ?_)
  refine wp_seq_k (fun K4 hK4 => ?_)
  cases hq1 : ok with
  | true =>
    rw [hq1] at H
    refine rgP H gs0 (rS 4 rfl <| rV rfl (does_binOp rfl rfl rfl (zd_lss_int (k := ((d + 1 : Nat) : Int)) (m := 1) (decide_eq_false (by omega)) _ _)) <| rS 1 rfl <| rK [1, 0, 0, 0, 0, 0, 0] [] [] <| rZ0 ?_)
    try clear H a W
    intro a W H
    have hsp1 : spanD lb = some (sf, se) ∧ 2 ≤ sf ∧ sf ≤ se ∧ se ≤ lb.length := by unfold spanR at hsp; rw [if_pos hq1] at hsp; exact hsp
    obtain ⟨hspan, hsf, hse, hsl⟩ := hsp1
    rw [hlb] at hsl
    obtain ⟨Ac, hcut, hbcP⟩ := cut_bytP hbp hse hsl
    obtain ⟨nc, hnc⟩ : ∃ nc, se - sf = nc := ⟨_, rfl⟩
    obtain ⟨cc, hcc⟩ : ∃ cc, cb - sf = cc := ⟨_, rfl⟩
    obtain ⟨lc, hlcd⟩ : ∃ lc, (lb.take se).drop sf = lc := ⟨_, rfl⟩
    rw [hnc, hcc] at hcut
    rw [hnc, hcc, hlcd] at hbcP
    have hlc := hbcP.len
    have hbfc : BF lc (.slice Ac nc cc) w := ⟨_, _, _, rfl, hbcP.bs hP⟩
    obtain ⟨gcx, ocx, hbc⟩ := (hbcP.bs hP).nat (Nat.le_refl _)
    obtain ⟨A1, htl1⟩ : ∃ A1, 1 ≤ nc → ((∀ W, (Instr.sliceAt 23 (.slice Ac nc cc) (some (.int .i64 ((1 : Nat) : Int))) none none).run Tryd.prog W = .ok (.slice A1 (nc - 1) (cc - 1)) W) ∧ BP w P A1 (nc - 1) (cc - 1) (lc.drop 1)) := by
      by_cases h1 : 1 ≤ nc
      · obtain ⟨A1, h2⟩ := tl_bytP hbcP h1
        exact ⟨A1, fun _ => h2⟩
      · exact ⟨none, fun h2 => absurd h2 h1⟩
    have hx0 := byt_lt lb 0
    refine hK4 _ _ ?_
    clear hK4
    refine wp_cond_false (H.ev rfl) ?_
    refine wp_skip ?_
    refine hK3 _ _ ?_
    clear hK3
    refine sqR H gs0 fun Z_ z_ => rS 3 rfl <| rV rfl (does_slice rfl rfl (vl := some (.int .i64 (sf : Int))) (vh := some (.int .i64 (se : Int))) rfl rfl hcut) <| rS 1 rfl <| rK [1, 0, 0, 0, 0, 0, 1, 0] [] [] <| rN0 z_ ?_
    try clear H a W
    intro a W H
    refine sqR H gs0 fun Z_ z_ => rV rfl (does_build (ps := []) rfl rfl bd_der0) <| rA rfl rfl al_der fun g2 => rW [1] ⟨rfl, rfl⟩ rfl rfl rfl (info_der (DH.mk 0 false 0 SL.no [] SL.no SL.no)) (size_der DH.no (DH.mk 0 false 0 SL.no [] SL.no SL.no)) (DH.mk 0 false 0 SL.no [] SL.no SL.no).one <| rK [1, 0] [] [] <| rN0 z_ ?_
    try clear H a W
    intro a W H
    refine wp_seq_k (fun K7 hK7 => ?_)
    refine sqR H gs0 fun Z_ z_ => rS 1 rfl <| rN0 z_ ?_
    try clear H a W
    intro a W H
    replace H : St 139 w a W [(12, .int .i64 (((0 : Nat) : Int) + 1)), (11, .pointer (some ⟨g2, 0, none⟩)), (10, .slice Ac nc cc), (8, .int .i64 ((se : Nat) : Int)), (4, .pointer (some ⟨g1, 0, none⟩)), (0, .slice Ab nb cb), (1, .int .i64 ((d + 1 : Nat) : Int))] [(g2, 27, (DH.mk (ktD (lb.getD 0 0).toNat 0) false 0 SL.no [] SL.no SL.no).cs), (g1, 27, DH.no.cs)] := H.pick [0, 1, 2, 3, 6, 7, 8] [0, 1] rfl
    refine wp_block ?_
    replace H : St 139 w a W [(12, .int .i64 (((0 : Nat) : Int) + 1)), (11, .pointer (some ⟨g2, 0, none⟩)), (10, .slice Ac nc cc), (8, .int .i64 ((se : Nat) : Int)), (4, .pointer (some ⟨g1, 0, none⟩)), (0, .slice Ab nb cb), (1, .int .i64 ((d + 1 : Nat) : Int))] [(g2, 27, (DH.mk (ktD (lb.getD 0 0).toNat 0) false 0 SL.no [] SL.no SL.no).cs), (g1, 27, DH.no.cs)] := H.pick [0, 1, 2, 3, 4, 5, 6] [0, 1] rfl
    refine wp_rounds 10 (fun k a W => St 139 w a W [(12, .int .i64 (((k : Nat) : Int) + 1)), (11, .pointer (some ⟨g2, 0, none⟩)), (10, .slice Ac nc cc), (8, .int .i64 ((se : Nat) : Int)), (4, .pointer (some ⟨g1, 0, none⟩)), (0, .slice Ab nb cb), (1, .int .i64 ((d + 1 : Nat) : Int))] [(g2, 27, (DH.mk (ktD (lb.getD 0 0).toNat k) false 0 SL.no [] SL.no SL.no).cs), (g1, 27, DH.no.cs)]) (k0 := 0) H (by omega) ?_
    try clear H a W
    intro k a W hk H
    by_cases hk2 : k < 10
    · refine wp_seq_k (fun K9 hK9 => ?_)
      refine sqR H gs0 fun Z_ z_ => rS 1 rfl <| rV rfl (does_binOp rfl rfl rfl (zd_leq_derkind (k := (((k : Nat) : Int) + 1)) (m := 10) (decide_eq_true (by omega)) _ _)) <| rN0 z_ ?_
      try clear H a W
      intro a W H
      refine wp_cond_true (H.ev rfl) ?_
      refine wp_skip ?_
      refine hK9 _ _ ?_
      clear hK9
      refine wp_seq_k (fun K11 hK11 => ?_)
      refine wp_block ?_
      refine sqD [.v 38 _ [], .v 39 _ [0], .v 40 _ [1], .v 41 _ [], .v 42 _ [3], .v 43 _ [4], .v 44 _ [5], .v 45 _ [2, 6]] (by kernel_rfl) (by kernel_rfl) H gs0 (fun _ => ⟨oS rfl rfl, oV rfl (does_build rfl rfl (bd_derK (((k : Nat) : Int) + 1))), oV rfl (does_call rfl ⟨_, Tryd.func49, by kernel_rfl⟩ rfl (fun W hb => rtag_any _ W n0_in)), oS rfl rfl, oV rfl (does_indexAddr rfl rfl rfl (ia_bytD (j := 0) (hbb (by omega)).1 (by omega))), oV rfl (does_loadCell (v := .int .u8 (((lb.getD 0 0).toNat : Nat) : Int)) rfl rfl ((hbb (by omega)).2.2 0 (by omega)) (hbb (by omega)).2.1 ld_bytD), oV rfl (does_convert rfl rfl (cv_bi (byt_lt _ _))), oV rfl (does_binOp rfl rfl rfl (zd_eql_int (k := (tagD (((k : Nat) : Int) + 1) 0)) (m := (((lb.getD 0 0).toNat : Nat) : Int)) rfl _ _)), trivial⟩) fun Z_ z_ => rN0 z_ ?_
      try clear H a W
      intro a W H
      cases hq2 : decide ((tagD (((k : Nat) : Int) + 1) 0) = (((lb.getD 0 0).toNat : Nat) : Int)) with
      | true =>
        rw [hq2] at H
        have hq2p := of_decide_eq_true hq2
        refine wp_cond_true (H.ev rfl) ?_
        refine rgP H gs0 (rS 1 rfl <| rV rfl (does_fieldAddr rfl rfl fa_der0) <| rX [1] (c := (DH.mk (((k : Nat) : Int) + 1) false 0 SL.no [] SL.no SL.no).cs) ⟨rfl, rfl⟩ rfl rfl rfl (st_derK (u := (((k : Nat) : Int) + 1))) sv_derK <| rZ0 ?_)
        try clear H a W
        intro a W H
        refine blk_normal ?_
        refine hK11 _ _ ?_
        clear hK11
        refine rgP H gs0 (rS 1 rfl <| rV rfl (does_binOp rfl rfl rfl (zd_add_derkind (k := (((k : Nat) : Int) + 1)) (m := 1) (c := (((k : Nat) : Int) + 1) + 1) rfl (by omega) _ _)) <| rK [1, 1, 1, 1, 1, 1, 1, 1, 1, 1, 1, 1, 1, 1, 0] [] [] <| rS 1 rfl <| rZ0 ?_)
        try clear H a W
        intro a W H
        refine ⟨k + 1, by omega, by omega, ?_⟩
        show St 139 w a W [(12, .int .i64 (((k + 1 : Nat) : Int) + 1)), (11, .pointer (some ⟨g2, 0, none⟩)), (10, .slice Ac nc cc), (8, .int .i64 ((se : Nat) : Int)), (4, .pointer (some ⟨g1, 0, none⟩)), (0, .slice Ab nb cb), (1, .int .i64 ((d + 1 : Nat) : Int))] [(g2, 27, (DH.mk (ktD (lb.getD 0 0).toNat (k + 1)) false 0 SL.no [] SL.no SL.no).cs), (g1, 27, DH.no.cs)]
        rw [kt_yes hq2p, show (((k + 1 : Nat) : Int)) = ((k : Nat) : Int) + 1 from by omega]
        exact H.pick [0, 15, 16, 17, 18, 19, 20] [0, 1] rfl
      | false =>
        rw [hq2] at H
        have hq2p := of_decide_eq_false hq2
        refine wp_cond_false (H.ev rfl) ?_
        refine wp_skip ?_
        refine blk_normal ?_
        refine hK11 _ _ ?_
        clear hK11
        refine rgP H gs0 (rS 1 rfl <| rV rfl (does_binOp rfl rfl rfl (zd_add_derkind (k := (((k : Nat) : Int) + 1)) (m := 1) (c := (((k : Nat) : Int) + 1) + 1) rfl (by omega) _ _)) <| rK [1, 1, 1, 1, 1, 1, 1, 1, 1, 1, 1, 1, 0] [] [] <| rS 1 rfl <| rZ0 ?_)
        try clear H a W
        intro a W H
        refine ⟨k + 1, by omega, by omega, ?_⟩
        show St 139 w a W [(12, .int .i64 (((k + 1 : Nat) : Int) + 1)), (11, .pointer (some ⟨g2, 0, none⟩)), (10, .slice Ac nc cc), (8, .int .i64 ((se : Nat) : Int)), (4, .pointer (some ⟨g1, 0, none⟩)), (0, .slice Ab nb cb), (1, .int .i64 ((d + 1 : Nat) : Int))] [(g2, 27, (DH.mk (ktD (lb.getD 0 0).toNat (k + 1)) false 0 SL.no [] SL.no SL.no).cs), (g1, 27, DH.no.cs)]
        rw [kt_no hq2p, show (((k + 1 : Nat) : Int)) = ((k : Nat) : Int) + 1 from by omega]
        exact H.pick [0, 13, 14, 15, 16, 17, 18] [0, 1] rfl
    · obtain rfl : 10 = k := by omega
      refine wp_seq_k (fun K13 hK13 => ?_)
      refine sqR H gs0 fun Z_ z_ => rS 1 rfl <| rV rfl (does_binOp rfl rfl rfl (zd_leq_derkind (k := (((10 : Nat) : Int) + 1)) (m := 10) (decide_eq_false (by omega)) _ _)) <| rK [1, 0] [] [] <| rN0 z_ ?_
      try clear H a W
      intro a W H
      refine wp_cond_false (H.ev rfl) ?_
      refine wp_exit ?_
      repeat (with_reducible refine then_exit ?_)
      refine blk_exit ?_
      refine hK7 _ _ ?_
      clear hK7
      obtain ⟨K, hK⟩ : ∃ K, kindD (lb.getD 0 0).toNat = K := ⟨_, rfl⟩
      obtain ⟨N, hN⟩ : ∃ N : Int, (if 160 ≤ (lb.getD 0 0).toNat ∧ (lb.getD 0 0).toNat ≤ 190 then (((lb.getD 0 0).toNat : Nat) : Int) - 160 else 0) = N := ⟨_, rfl⟩
      have hkt := kt_end (x := (lb.getD 0 0).toNat) hx0
      have hK10 := kind_le (lb.getD 0 0).toNat
      rw [hK] at hK10
      have hN0 : -9223372036854775808 ≤ N ∧ N < 9223372036854775808 := by rw [← hN]; split <;> omega
      refine wp_seq_k (fun K15 hK15 => ?_)
      have J15 : ∀ a W, St 139 w a W [(11, .pointer (some ⟨g2, 0, none⟩)), (10, .slice Ac nc cc), (8, .int .i64 ((se : Nat) : Int)), (4, .pointer (some ⟨g1, 0, none⟩)), (1, .int .i64 ((d + 1 : Nat) : Int))] [(g2, 27, (DH.mk K false N SL.no [] SL.no SL.no).cs), (g1, 27, DH.no.cs)] → K15 a W := by
        try clear H a W
        intro a W H
        refine hK15 _ _ ?_
        clear hK15
        refine wp_seq_k (fun K16 hK16 => ?_)
        refine sqR H gs0 fun Z_ z_ => rV rfl (does_fieldAddr rfl rfl fa_der0) <| rV rfl (does_loadAt (v := .int .i64 K) rfl rfl (k := 0) rfl ld_derK) <| rK [1, 0] [] [] <| rN0 z_ ?_
        try clear H a W
        intro a W H
        refine wp_block ?_
        refine sqR H gs0 fun Z_ z_ => rV rfl (does_binOp rfl rfl rfl (zd_eql_derkind (k := K) (m := 1) rfl _ _)) <| rS 1 rfl <| rK [1, 0] [] [] <| rN0 z_ ?_
        try clear H a W
        intro a W H
        cases hq3 : decide (K = 1) with
        | true =>
          rw [hq3] at H
          have hq3p := of_decide_eq_true hq3
          refine wp_cond_true (H.ev rfl) ?_
          cases hq4 : decide (((nc : Nat) : Int) = 1) with
          | true =>
            have hq4p := of_decide_eq_true hq4
            refine rgP H gs0 (rS 1 rfl <| rV rfl (does_len Tryd.underlying23 rfl rfl) <| rV rfl (does_binOp rfl rfl rfl (zd_eql_int (k := ((nc : Nat) : Int)) (m := 1) hq4 _ _)) <| rS 2 rfl <| rV rfl (does_indexAddr rfl rfl rfl (ia_bytD (j := 0) (hbc (by omega)).1 (by omega))) <| rV rfl (does_loadCell (v := .int .u8 (((lc.getD 0 0).toNat : Nat) : Int)) rfl rfl ((hbc (by omega)).2.2 0 (by omega)) (hbc (by omega)).2.1 ld_bytD) <| rV rfl (does_binOp rfl rfl rfl (zd_eql_u8 (k := (((lc.getD 0 0).toNat : Nat) : Int)) (m := 255) rfl _ _)) <| rS 1 rfl <| rV rfl (does_fieldAddr rfl rfl fa_der1) <| rX [1] (c := (DH.mk K (decide ((((lc.getD 0 0).toNat : Nat) : Int) = 255)) N SL.no [] SL.no SL.no).cs) ⟨rfl, rfl⟩ rfl rfl rfl (st_derF (u := (decide ((((lc.getD 0 0).toNat : Nat) : Int) = 255)))) sv_derF <| rK [0, 0, 0, 0, 0, 0, 0, 0, 0, 0, 0, 0, 1, 0, 1, 1, 0] [] [] <| rZ0 ?_)
            try clear H a W
            intro a W H
            refine blk_normal ?_
            refine hK16 _ _ ?_
            clear hK16
            refine wp_seq_k (fun K19 hK19 => ?_)
            refine drawnT [.val 134 (.agg ((DH.mk K (decide ((((lc.getD 0 0).toNat : Nat) : Int) = 255)) N SL.no [] SL.no SL.no).cs)) [] [0], .val 135 (.int .i64 ((se : Nat) : Int)) [] [], .val 136 (.pointer (some ⟨g2, 0, none⟩)) [] [], .val 137 (.int .i64 K) [2] [0], .val 138 (.bool (decide (K ≠ 0))) [3] [], .sto 1 g1 27 (DH.no.cs) ((DH.mk K (decide ((((lc.getD 0 0).toNat : Nat) : Int) = 255)) N SL.no [] SL.no SL.no).cs) [0], .val 5 (.int .i64 ((se : Nat) : Int)) [1] [], .val 6 (.bool (decide (K ≠ 0))) [4] []] [0, 0, 0, 4, 8, 1, 35, 127] (by kernel_rfl) (by kernel_rfl) (by kernel_rfl) H ⟨⟨does_load rfl rfl (k := 0) rfl Tryd.underlying27 rfl (info_der (DH.mk K (decide ((((lc.getD 0 0).toNat : Nat) : Int) = 255)) N SL.no [] SL.no SL.no)), wanted_none rfl⟩, ⟨does_move rfl rfl, wanted_none rfl⟩, ⟨does_fieldAddr rfl rfl fa_der0, wanted_none rfl⟩, ⟨does_loadAt (v := .int .i64 K) rfl rfl (k := 0) rfl ld_derK, wanted_none rfl⟩, ⟨does_binOp rfl rfl rfl (zd_neq_derkind (k := K) (m := 0) rfl _ _), wanted_none rfl⟩, ⟨rfl, rfl, sto_row rfl rfl rfl (info_der (DH.mk K (decide ((((lc.getD 0 0).toNat : Nat) : Int) = 255)) N SL.no [] SL.no SL.no)) (size_der DH.no (DH.mk K (decide ((((lc.getD 0 0).toNat : Nat) : Int) = 255)) N SL.no [] SL.no SL.no)) (DH.mk K (decide ((((lc.getD 0 0).toNat : Nat) : Int) = 255)) N SL.no [] SL.no SL.no).one⟩, ⟨does_assign rfl rfl, wanted_none rfl⟩, ⟨does_assign rfl rfl, wanted_none rfl⟩, trivial⟩ ?_
            try clear H a W
            intro G3 a W H
            replace H : St 139 w a W [(134, .agg ((DH.mk K (decide ((((lc.getD 0 0).toNat : Nat) : Int) = 255)) N SL.no [] SL.no SL.no).cs)), (135, .int .i64 ((se : Nat) : Int)), (136, .pointer (some ⟨g2, 0, none⟩)), (137, .int .i64 K), (138, .bool (decide (K ≠ 0))), (5, .int .i64 ((se : Nat) : Int)), (6, .bool (decide (K ≠ 0))), (11, .pointer (some ⟨g2, 0, none⟩)), (8, .int .i64 ((se : Nat) : Int)), (4, .pointer (some ⟨g1, 0, none⟩))] [(g2, 27, (DH.mk K (decide ((((lc.getD 0 0).toNat : Nat) : Int) = 255)) N SL.no [] SL.no SL.no).cs), (g1, 27, (DH.mk K (decide ((((lc.getD 0 0).toNat : Nat) : Int) = 255)) N SL.no [] SL.no SL.no).cs)] := H
            refine pl_end ?_
            replace H := H.km [0, 0, 0, 0, 0, 1, 1, 0, 0] []
            refine hK19 _ _ ?_
            clear hK19
            refine wp_ret ?_
            repeat (first | (with_reducible refine then_ret ?_) | (with_reducible refine blk_ret ?_))
            refine end_cell_tt (p := 4) (q := 5) (r := 6) rfl rfl rfl rfl (k := 1) rfl Tryd.underlying27 rfl (info_der _) H (fun hb => ?_)
            replace H : St 139 w a W [(5, .int .i64 ((se : Nat) : Int)), (6, .bool (decide (K ≠ 0))), (4, .pointer (some ⟨g1, 0, none⟩))] ([(g2, 27, (DH.mk K (decide ((((lc.getD 0 0).toNat : Nat) : Int) = 255)) N SL.no [] SL.no SL.no).cs), (g1, 27, (DH.mk K (decide ((((lc.getD 0 0).toNat : Nat) : Int) = 255)) N SL.no [] SL.no SL.no).cs)] ++ ([] : Hep)) := by rw [List.append_nil]; exact H
            have hkq : K = 1 := of_decide_eq_true hq3
            have hN8 : K ≠ 8 → N = 0 := fun hne => by
              rw [← hN]
              by_cases hp_ : 160 ≤ (lb.getD 0 0).toNat ∧ (lb.getD 0 0).toNat ≤ 190
              · rw [if_pos hp_] at hkt; omega
              · rw [if_neg hp_]
            have hN1 := hN8 (by omega)
            subst hN1
            subst hkq
            refine ⟨_, ([] : Hep), rfl, hb, H.nr, (DH.mk 1 (decide ((((lc.getD 0 0).toNat : Nat) : Int) = 255)) 0 SL.no [] SL.no SL.no), _, _, rfl, ?_, ?_⟩
            · intro _
              refine ⟨.mk 1 (decide ((((lc.getD 0 0).toNat : Nat) : Int) = 255)) 0 [] [] [] [], ?_, dq_leaf (by omega) (by omega) ⟨by first | decide | (show _ < _; omega), by first | decide | omega⟩ (BP.nil _ _)⟩
              rw [readD_succ hspan, hlcd, hK]
              show some (DT.mk 1 (decide (lc = [255])) 0 [] [] [] [], se) = _
              rw [show decide (lc = [255]) = (decide ((((lc.getD 0 0).toNat : Nat) : Int) = 255)) from decide_eq_decide.2 (one255 (by omega))]
            · intro h_; exact absurd (of_decide_eq_false h_) (by decide)
          | false =>
            have hq4p := of_decide_eq_false hq4
            refine rgP H gs0 (rS 1 rfl <| rV rfl (does_len Tryd.underlying23 rfl rfl) <| rV rfl (does_binOp rfl rfl rfl (zd_eql_int (k := ((nc : Nat) : Int)) (m := 1) hq4 _ _)) <| rS 6 rfl <| rV rfl (does_fieldAddr rfl rfl fa_der1) <| rX [1] (c := (DH.mk K false N SL.no [] SL.no SL.no).cs) ⟨rfl, rfl⟩ rfl rfl rfl (st_derF (u := false)) sv_derF <| rK [0, 0, 0, 0, 0, 0, 0, 0, 0, 0, 0, 0, 1, 0, 1, 1, 0] [] [] <| rZ0 ?_)
            try clear H a W
            intro a W H
            refine blk_normal ?_
            refine hK16 _ _ ?_
            clear hK16
            refine wp_seq_k (fun K20 hK20 => ?_)
            refine drawnT [.val 134 (.agg ((DH.mk K false N SL.no [] SL.no SL.no).cs)) [] [0], .val 135 (.int .i64 ((se : Nat) : Int)) [] [], .val 136 (.pointer (some ⟨g2, 0, none⟩)) [] [], .val 137 (.int .i64 K) [2] [0], .val 138 (.bool (decide (K ≠ 0))) [3] [], .sto 1 g1 27 (DH.no.cs) ((DH.mk K false N SL.no [] SL.no SL.no).cs) [0], .val 5 (.int .i64 ((se : Nat) : Int)) [1] [], .val 6 (.bool (decide (K ≠ 0))) [4] []] [0, 0, 0, 4, 8, 1, 35, 127] (by kernel_rfl) (by kernel_rfl) (by kernel_rfl) H ⟨⟨does_load rfl rfl (k := 0) rfl Tryd.underlying27 rfl (info_der (DH.mk K false N SL.no [] SL.no SL.no)), wanted_none rfl⟩, ⟨does_move rfl rfl, wanted_none rfl⟩, ⟨does_fieldAddr rfl rfl fa_der0, wanted_none rfl⟩, ⟨does_loadAt (v := .int .i64 K) rfl rfl (k := 0) rfl ld_derK, wanted_none rfl⟩, ⟨does_binOp rfl rfl rfl (zd_neq_derkind (k := K) (m := 0) rfl _ _), wanted_none rfl⟩, ⟨rfl, rfl, sto_row rfl rfl rfl (info_der (DH.mk K false N SL.no [] SL.no SL.no)) (size_der DH.no (DH.mk K false N SL.no [] SL.no SL.no)) (DH.mk K false N SL.no [] SL.no SL.no).one⟩, ⟨does_assign rfl rfl, wanted_none rfl⟩, ⟨does_assign rfl rfl, wanted_none rfl⟩, trivial⟩ ?_
            try clear H a W
            intro G4 a W H
            replace H : St 139 w a W [(134, .agg ((DH.mk K false N SL.no [] SL.no SL.no).cs)), (135, .int .i64 ((se : Nat) : Int)), (136, .pointer (some ⟨g2, 0, none⟩)), (137, .int .i64 K), (138, .bool (decide (K ≠ 0))), (5, .int .i64 ((se : Nat) : Int)), (6, .bool (decide (K ≠ 0))), (11, .pointer (some ⟨g2, 0, none⟩)), (8, .int .i64 ((se : Nat) : Int)), (4, .pointer (some ⟨g1, 0, none⟩))] [(g2, 27, (DH.mk K false N SL.no [] SL.no SL.no).cs), (g1, 27, (DH.mk K false N SL.no [] SL.no SL.no).cs)] := H
            refine pl_end ?_
            replace H := H.km [0, 0, 0, 0, 0, 1, 1, 0, 0] []
            refine hK20 _ _ ?_
            clear hK20
            refine wp_ret ?_
            repeat (first | (with_reducible refine then_ret ?_) | (with_reducible refine blk_ret ?_))
            refine end_cell_tt (p := 4) (q := 5) (r := 6) rfl rfl rfl rfl (k := 1) rfl Tryd.underlying27 rfl (info_der _) H (fun hb => ?_)
            replace H : St 139 w a W [(5, .int .i64 ((se : Nat) : Int)), (6, .bool (decide (K ≠ 0))), (4, .pointer (some ⟨g1, 0, none⟩))] ([(g2, 27, (DH.mk K false N SL.no [] SL.no SL.no).cs), (g1, 27, (DH.mk K false N SL.no [] SL.no SL.no).cs)] ++ ([] : Hep)) := by rw [List.append_nil]; exact H
            have hkq : K = 1 := of_decide_eq_true hq3
            have hN8 : K ≠ 8 → N = 0 := fun hne => by
              rw [← hN]
              by_cases hp_ : 160 ≤ (lb.getD 0 0).toNat ∧ (lb.getD 0 0).toNat ≤ 190
              · rw [if_pos hp_] at hkt; omega
              · rw [if_neg hp_]
            have hN1 := hN8 (by omega)
            subst hN1
            subst hkq
            refine ⟨_, ([] : Hep), rfl, hb, H.nr, (DH.mk 1 false 0 SL.no [] SL.no SL.no), _, _, rfl, ?_, ?_⟩
            · intro _
              refine ⟨.mk 1 false 0 [] [] [] [], ?_, dq_leaf (by omega) (by omega) ⟨by first | decide | (show _ < _; omega), by first | decide | omega⟩ (BP.nil _ _)⟩
              rw [readD_succ hspan, hlcd, hK]
              show some (DT.mk 1 (decide (lc = [255])) 0 [] [] [] [], se) = _
              rw [decide_eq_false (fun e_ => by rw [e_] at hlc; simp at hlc; omega)]
            · intro h_; exact absurd (of_decide_eq_false h_) (by decide)
        | false =>
          rw [hq3] at H
          have hq3p := of_decide_eq_false hq3
          refine wp_cond_false (H.ev rfl) ?_
          refine sqR H gs0 fun Z_ z_ => rV rfl (does_binOp rfl rfl rfl (zd_eql_derkind (k := K) (m := 2) rfl _ _)) <| rS 1 rfl <| rK [1, 0, 0] [] [] <| rN0 z_ ?_
          try clear H a W
          intro a W H
          cases hq5 : decide (K = 2) with
          | true =>
            rw [hq5] at H
            have hq5p := of_decide_eq_true hq5
            refine wp_cond_true (H.ev rfl) ?_
            refine rgP H gs0 (rS 1 rfl <| rV rfl (does_call rfl ⟨_, Tryd.func60, by kernel_rfl⟩ rfl (fun W hb => number_any W (hbfc.below hb) (by omega))) <| rV rfl (does_fieldAddr rfl rfl fa_der2) <| rX [1] (c := (DH.mk K false (numD lc) SL.no [] SL.no SL.no).cs) ⟨rfl, rfl⟩ rfl rfl rfl (st_derN (u := (numD lc))) sv_derN <| rK [0, 0, 0, 0, 0, 1, 0, 1, 1, 0] [] [] <| rZ0 ?_)
            try clear H a W
            intro a W H
            refine blk_normal ?_
            refine hK16 _ _ ?_
            clear hK16
            refine wp_seq_k (fun K22 hK22 => ?_)
            refine drawnT [.val 134 (.agg ((DH.mk K false (numD lc) SL.no [] SL.no SL.no).cs)) [] [0], .val 135 (.int .i64 ((se : Nat) : Int)) [] [], .val 136 (.pointer (some ⟨g2, 0, none⟩)) [] [], .val 137 (.int .i64 K) [2] [0], .val 138 (.bool (decide (K ≠ 0))) [3] [], .sto 1 g1 27 (DH.no.cs) ((DH.mk K false (numD lc) SL.no [] SL.no SL.no).cs) [0], .val 5 (.int .i64 ((se : Nat) : Int)) [1] [], .val 6 (.bool (decide (K ≠ 0))) [4] []] [0, 0, 0, 4, 8, 1, 35, 127] (by kernel_rfl) (by kernel_rfl) (by kernel_rfl) H ⟨⟨does_load rfl rfl (k := 0) rfl Tryd.underlying27 rfl (info_der (DH.mk K false (numD lc) SL.no [] SL.no SL.no)), wanted_none rfl⟩, ⟨does_move rfl rfl, wanted_none rfl⟩, ⟨does_fieldAddr rfl rfl fa_der0, wanted_none rfl⟩, ⟨does_loadAt (v := .int .i64 K) rfl rfl (k := 0) rfl ld_derK, wanted_none rfl⟩, ⟨does_binOp rfl rfl rfl (zd_neq_derkind (k := K) (m := 0) rfl _ _), wanted_none rfl⟩, ⟨rfl, rfl, sto_row rfl rfl rfl (info_der (DH.mk K false (numD lc) SL.no [] SL.no SL.no)) (size_der DH.no (DH.mk K false (numD lc) SL.no [] SL.no SL.no)) (DH.mk K false (numD lc) SL.no [] SL.no SL.no).one⟩, ⟨does_assign rfl rfl, wanted_none rfl⟩, ⟨does_assign rfl rfl, wanted_none rfl⟩, trivial⟩ ?_
            try clear H a W
            intro G5 a W H
            replace H : St 139 w a W [(134, .agg ((DH.mk K false (numD lc) SL.no [] SL.no SL.no).cs)), (135, .int .i64 ((se : Nat) : Int)), (136, .pointer (some ⟨g2, 0, none⟩)), (137, .int .i64 K), (138, .bool (decide (K ≠ 0))), (5, .int .i64 ((se : Nat) : Int)), (6, .bool (decide (K ≠ 0))), (11, .pointer (some ⟨g2, 0, none⟩)), (8, .int .i64 ((se : Nat) : Int)), (4, .pointer (some ⟨g1, 0, none⟩))] [(g2, 27, (DH.mk K false (numD lc) SL.no [] SL.no SL.no).cs), (g1, 27, (DH.mk K false (numD lc) SL.no [] SL.no SL.no).cs)] := H
            refine pl_end ?_
            replace H := H.km [0, 0, 0, 0, 0, 1, 1, 0, 0] []
            refine hK22 _ _ ?_
            clear hK22
            refine wp_ret ?_
            repeat (first | (with_reducible refine then_ret ?_) | (with_reducible refine blk_ret ?_))
            refine end_cell_tt (p := 4) (q := 5) (r := 6) rfl rfl rfl rfl (k := 1) rfl Tryd.underlying27 rfl (info_der _) H (fun hb => ?_)
            replace H : St 139 w a W [(5, .int .i64 ((se : Nat) : Int)), (6, .bool (decide (K ≠ 0))), (4, .pointer (some ⟨g1, 0, none⟩))] ([(g2, 27, (DH.mk K false (numD lc) SL.no [] SL.no SL.no).cs), (g1, 27, (DH.mk K false (numD lc) SL.no [] SL.no SL.no).cs)] ++ ([] : Hep)) := by rw [List.append_nil]; exact H
            have hkq : K = 2 := of_decide_eq_true hq5
            subst hkq
            refine ⟨_, ([] : Hep), rfl, hb, H.nr, (DH.mk 2 false (numD lc) SL.no [] SL.no SL.no), _, _, rfl, ?_, ?_⟩
            · intro _
              refine ⟨.mk 2 false (numD lc) [] [] [] [], ?_, dq_leaf (by omega) (numD_in lc) ⟨by first | decide | (show _ < _; omega), by first | decide | omega⟩ (BP.nil _ _)⟩
              rw [readD_succ hspan, hlcd, hK]
              rfl
            · intro h_; exact absurd (of_decide_eq_false h_) (by decide)
          | false =>
            rw [hq5] at H
            have hq5p := of_decide_eq_false hq5
            refine wp_cond_false (H.ev rfl) ?_
            refine sqR H gs0 fun Z_ z_ => rV rfl (does_binOp rfl rfl rfl (zd_eql_derkind (k := K) (m := 3) rfl _ _)) <| rS 1 rfl <| rK [1, 0, 0] [] [] <| rN0 z_ ?_
            try clear H a W
            intro a W H
            cases hq6 : decide (K = 3) with
            | true =>
              rw [hq6] at H
              have hq6p := of_decide_eq_true hq6
              refine wp_cond_true (H.ev rfl) ?_
              refine sqR H gs0 fun Z_ z_ => rS 1 rfl <| rV rfl (does_len Tryd.underlying23 rfl rfl) <| rV rfl (does_binOp rfl rfl rfl (zd_gtr_int (k := ((nc : Nat) : Int)) (m := 0) rfl _ _)) <| rK [1, 0, 0, 0, 0, 1, 1, 1, 1, 0] [] [] <| rN0 z_ ?_
              try clear H a W
              intro a W H
              cases hq7 : decide (0 < ((nc : Nat) : Int)) with
              | true =>
                rw [hq7] at H
                have hq7p := of_decide_eq_true hq7
                refine wp_cond_true (H.ev rfl) ?_
                refine rgP H gs0 (rS 1 rfl <| rV rfl (does_slice rfl rfl (vl := some (.int .i64 ((1 : Nat) : Int))) (vh := none) rfl rfl (htl1 (by omega)).1) <| rV rfl (does_fieldAddr rfl rfl fa_der3) <| rX [1] (c := (DH.mk K false N (SL.mk A1 (nc - 1) (cc - 1)) [] SL.no SL.no).cs) ⟨rfl, rfl⟩ rfl rfl rfl (st_derB (u := (SL.mk A1 (nc - 1) (cc - 1)))) sv_derB <| rK [0, 0, 0, 0, 1, 0] [] [] <| rZ0 ?_)
                try clear H a W
                intro a W H
                refine blk_normal ?_
                refine hK16 _ _ ?_
                clear hK16
                refine wp_seq_k (fun K25 hK25 => ?_)
                refine drawnT [.val 134 (.agg ((DH.mk K false N (SL.mk A1 (nc - 1) (cc - 1)) [] SL.no SL.no).cs)) [] [0], .val 135 (.int .i64 ((se : Nat) : Int)) [] [], .val 136 (.pointer (some ⟨g2, 0, none⟩)) [] [], .val 137 (.int .i64 K) [2] [0], .val 138 (.bool (decide (K ≠ 0))) [3] [], .sto 1 g1 27 (DH.no.cs) ((DH.mk K false N (SL.mk A1 (nc - 1) (cc - 1)) [] SL.no SL.no).cs) [0], .val 5 (.int .i64 ((se : Nat) : Int)) [1] [], .val 6 (.bool (decide (K ≠ 0))) [4] []] [0, 0, 0, 4, 8, 1, 35, 127] (by kernel_rfl) (by kernel_rfl) (by kernel_rfl) H ⟨⟨does_load rfl rfl (k := 0) rfl Tryd.underlying27 rfl (info_der (DH.mk K false N (SL.mk A1 (nc - 1) (cc - 1)) [] SL.no SL.no)), wanted_none rfl⟩, ⟨does_move rfl rfl, wanted_none rfl⟩, ⟨does_fieldAddr rfl rfl fa_der0, wanted_none rfl⟩, ⟨does_loadAt (v := .int .i64 K) rfl rfl (k := 0) rfl ld_derK, wanted_none rfl⟩, ⟨does_binOp rfl rfl rfl (zd_neq_derkind (k := K) (m := 0) rfl _ _), wanted_none rfl⟩, ⟨rfl, rfl, sto_row rfl rfl rfl (info_der (DH.mk K false N (SL.mk A1 (nc - 1) (cc - 1)) [] SL.no SL.no)) (size_der DH.no (DH.mk K false N (SL.mk A1 (nc - 1) (cc - 1)) [] SL.no SL.no)) (DH.mk K false N (SL.mk A1 (nc - 1) (cc - 1)) [] SL.no SL.no).one⟩, ⟨does_assign rfl rfl, wanted_none rfl⟩, ⟨does_assign rfl rfl, wanted_none rfl⟩, trivial⟩ ?_
                try clear H a W
                intro G6 a W H
                replace H : St 139 w a W [(134, .agg ((DH.mk K false N (SL.mk A1 (nc - 1) (cc - 1)) [] SL.no SL.no).cs)), (135, .int .i64 ((se : Nat) : Int)), (136, .pointer (some ⟨g2, 0, none⟩)), (137, .int .i64 K), (138, .bool (decide (K ≠ 0))), (5, .int .i64 ((se : Nat) : Int)), (6, .bool (decide (K ≠ 0))), (11, .pointer (some ⟨g2, 0, none⟩)), (8, .int .i64 ((se : Nat) : Int)), (4, .pointer (some ⟨g1, 0, none⟩))] [(g2, 27, (DH.mk K false N (SL.mk A1 (nc - 1) (cc - 1)) [] SL.no SL.no).cs), (g1, 27, (DH.mk K false N (SL.mk A1 (nc - 1) (cc - 1)) [] SL.no SL.no).cs)] := H
                refine pl_end ?_
                replace H := H.km [0, 0, 0, 0, 0, 1, 1, 0, 0] []
                refine hK25 _ _ ?_
                clear hK25
                refine wp_ret ?_
                repeat (first | (with_reducible refine then_ret ?_) | (with_reducible refine blk_ret ?_))
                refine end_cell_tt (p := 4) (q := 5) (r := 6) rfl rfl rfl rfl (k := 1) rfl Tryd.underlying27 rfl (info_der _) H (fun hb => ?_)
                replace H : St 139 w a W [(5, .int .i64 ((se : Nat) : Int)), (6, .bool (decide (K ≠ 0))), (4, .pointer (some ⟨g1, 0, none⟩))] ([(g2, 27, (DH.mk K false N (SL.mk A1 (nc - 1) (cc - 1)) [] SL.no SL.no).cs), (g1, 27, (DH.mk K false N (SL.mk A1 (nc - 1) (cc - 1)) [] SL.no SL.no).cs)] ++ ([] : Hep)) := by rw [List.append_nil]; exact H
                have hkq : K = 3 := of_decide_eq_true hq6
                have hN8 : K ≠ 8 → N = 0 := fun hne => by
                  rw [← hN]
                  by_cases hp_ : 160 ≤ (lb.getD 0 0).toNat ∧ (lb.getD 0 0).toNat ≤ 190
                  · rw [if_pos hp_] at hkt; omega
                  · rw [if_neg hp_]
                have hN1 := hN8 (by omega)
                subst hN1
                subst hkq
                refine ⟨_, ([] : Hep), rfl, hb, H.nr, (DH.mk 3 false 0 (SL.mk A1 (nc - 1) (cc - 1)) [] SL.no SL.no), _, _, rfl, ?_, ?_⟩
                · intro _
                  refine ⟨.mk 3 false 0 (lc.drop 1) [] [] [], ?_, dq_leaf (by omega) (by omega) ⟨show nc - 1 < 9223372036854775808 by omega, by decide⟩ (htl1 (by omega)).2⟩
                  rw [readD_succ hspan, hlcd, hK]
                  rfl
                · intro h_; exact absurd (of_decide_eq_false h_) (by decide)
              | false =>
                rw [hq7] at H
                have hq7p := of_decide_eq_false hq7
                refine wp_cond_false (H.ev rfl) ?_
                refine wp_skip ?_
                refine blk_normal ?_
                refine hK16 _ _ ?_
                clear hK16
                refine wp_seq_k (fun K26 hK26 => ?_)
                refine drawnT [.val 134 (.agg ((DH.mk K false N SL.no [] SL.no SL.no).cs)) [] [0], .val 135 (.int .i64 ((se : Nat) : Int)) [] [], .val 136 (.pointer (some ⟨g2, 0, none⟩)) [] [], .val 137 (.int .i64 K) [2] [0], .val 138 (.bool (decide (K ≠ 0))) [3] [], .sto 1 g1 27 (DH.no.cs) ((DH.mk K false N SL.no [] SL.no SL.no).cs) [0], .val 5 (.int .i64 ((se : Nat) : Int)) [1] [], .val 6 (.bool (decide (K ≠ 0))) [4] []] [0, 0, 0, 4, 8, 1, 35, 127] (by kernel_rfl) (by kernel_rfl) (by kernel_rfl) H ⟨⟨does_load rfl rfl (k := 0) rfl Tryd.underlying27 rfl (info_der (DH.mk K false N SL.no [] SL.no SL.no)), wanted_none rfl⟩, ⟨does_move rfl rfl, wanted_none rfl⟩, ⟨does_fieldAddr rfl rfl fa_der0, wanted_none rfl⟩, ⟨does_loadAt (v := .int .i64 K) rfl rfl (k := 0) rfl ld_derK, wanted_none rfl⟩, ⟨does_binOp rfl rfl rfl (zd_neq_derkind (k := K) (m := 0) rfl _ _), wanted_none rfl⟩, ⟨rfl, rfl, sto_row rfl rfl rfl (info_der (DH.mk K false N SL.no [] SL.no SL.no)) (size_der DH.no (DH.mk K false N SL.no [] SL.no SL.no)) (DH.mk K false N SL.no [] SL.no SL.no).one⟩, ⟨does_assign rfl rfl, wanted_none rfl⟩, ⟨does_assign rfl rfl, wanted_none rfl⟩, trivial⟩ ?_
                try clear H a W
                intro G7 a W H
                replace H : St 139 w a W [(134, .agg ((DH.mk K false N SL.no [] SL.no SL.no).cs)), (135, .int .i64 ((se : Nat) : Int)), (136, .pointer (some ⟨g2, 0, none⟩)), (137, .int .i64 K), (138, .bool (decide (K ≠ 0))), (5, .int .i64 ((se : Nat) : Int)), (6, .bool (decide (K ≠ 0))), (88, .bool false), (11, .pointer (some ⟨g2, 0, none⟩)), (10, .slice Ac nc cc), (8, .int .i64 ((se : Nat) : Int)), (4, .pointer (some ⟨g1, 0, none⟩))] [(g2, 27, (DH.mk K false N SL.no [] SL.no SL.no).cs), (g1, 27, (DH.mk K false N SL.no [] SL.no SL.no).cs)] := H
                refine pl_end ?_
                replace H := H.km [0, 0, 0, 0, 0, 1, 1, 0, 0, 0, 0] []
                refine hK26 _ _ ?_
                clear hK26
                refine wp_ret ?_
                repeat (first | (with_reducible refine then_ret ?_) | (with_reducible refine blk_ret ?_))
                refine end_cell_tt (p := 4) (q := 5) (r := 6) rfl rfl rfl rfl (k := 1) rfl Tryd.underlying27 rfl (info_der _) H (fun hb => ?_)
                replace H : St 139 w a W [(5, .int .i64 ((se : Nat) : Int)), (6, .bool (decide (K ≠ 0))), (4, .pointer (some ⟨g1, 0, none⟩))] ([(g2, 27, (DH.mk K false N SL.no [] SL.no SL.no).cs), (g1, 27, (DH.mk K false N SL.no [] SL.no SL.no).cs)] ++ ([] : Hep)) := by rw [List.append_nil]; exact H
                have hkq : K = 3 := of_decide_eq_true hq6
                have hN8 : K ≠ 8 → N = 0 := fun hne => by
                  rw [← hN]
                  by_cases hp_ : 160 ≤ (lb.getD 0 0).toNat ∧ (lb.getD 0 0).toNat ≤ 190
                  · rw [if_pos hp_] at hkt; omega
                  · rw [if_neg hp_]
                have hN1 := hN8 (by omega)
                subst hN1
                subst hkq
                refine ⟨_, ([] : Hep), rfl, hb, H.nr, (DH.mk 3 false 0 SL.no [] SL.no SL.no), _, _, rfl, ?_, ?_⟩
                · intro _
                  refine ⟨.mk 3 false 0 [] [] [] [], ?_, dq_leaf (by omega) (by omega) ⟨by first | decide | (show _ < _; omega), by first | decide | omega⟩ (BP.nil _ _)⟩
                  rw [readD_succ hspan, hlcd, hK, show lc = [] from List.eq_nil_of_length_eq_zero (by omega)]
                  rfl
                · intro h_; exact absurd (of_decide_eq_false h_) (by decide)
            | false =>
              rw [hq6] at H
              have hq6p := of_decide_eq_false hq6
              refine wp_cond_false (H.ev rfl) ?_
              refine sqR H gs0 fun Z_ z_ => rV rfl (does_binOp rfl rfl rfl (zd_eql_derkind (k := K) (m := 4) rfl _ _)) <| rS 1 rfl <| rK [1, 0, 0] [] [] <| rN0 z_ ?_
              try clear H a W
              intro a W H
              cases hq8 : decide (K = 4) with
              | true =>
                rw [hq8] at H
                have hq8p := of_decide_eq_true hq8
                refine wp_cond_true (H.ev rfl) ?_
                refine rgP H gs0 (rS 1 rfl <| rV rfl (does_fieldAddr rfl rfl fa_der3) <| rX [1] (c := (DH.mk K false N (SL.mk Ac nc cc) [] SL.no SL.no).cs) ⟨rfl, rfl⟩ rfl rfl rfl (st_derB (u := (SL.mk Ac nc cc))) sv_derB <| rK [0, 0, 0, 0, 1, 0, 1, 1, 0] [] [] <| rZ0 ?_)
                try clear H a W
                intro a W H
                refine blk_normal ?_
                refine hK16 _ _ ?_
                clear hK16
                refine wp_seq_k (fun K28 hK28 => ?_)
                refine drawnT [.val 134 (.agg ((DH.mk K false N (SL.mk Ac nc cc) [] SL.no SL.no).cs)) [] [0], .val 135 (.int .i64 ((se : Nat) : Int)) [] [], .val 136 (.pointer (some ⟨g2, 0, none⟩)) [] [], .val 137 (.int .i64 K) [2] [0], .val 138 (.bool (decide (K ≠ 0))) [3] [], .sto 1 g1 27 (DH.no.cs) ((DH.mk K false N (SL.mk Ac nc cc) [] SL.no SL.no).cs) [0], .val 5 (.int .i64 ((se : Nat) : Int)) [1] [], .val 6 (.bool (decide (K ≠ 0))) [4] []] [0, 0, 0, 4, 8, 1, 35, 127] (by kernel_rfl) (by kernel_rfl) (by kernel_rfl) H ⟨⟨does_load rfl rfl (k := 0) rfl Tryd.underlying27 rfl (info_der (DH.mk K false N (SL.mk Ac nc cc) [] SL.no SL.no)), wanted_none rfl⟩, ⟨does_move rfl rfl, wanted_none rfl⟩, ⟨does_fieldAddr rfl rfl fa_der0, wanted_none rfl⟩, ⟨does_loadAt (v := .int .i64 K) rfl rfl (k := 0) rfl ld_derK, wanted_none rfl⟩, ⟨does_binOp rfl rfl rfl (zd_neq_derkind (k := K) (m := 0) rfl _ _), wanted_none rfl⟩, ⟨rfl, rfl, sto_row rfl rfl rfl (info_der (DH.mk K false N (SL.mk Ac nc cc) [] SL.no SL.no)) (size_der DH.no (DH.mk K false N (SL.mk Ac nc cc) [] SL.no SL.no)) (DH.mk K false N (SL.mk Ac nc cc) [] SL.no SL.no).one⟩, ⟨does_assign rfl rfl, wanted_none rfl⟩, ⟨does_assign rfl rfl, wanted_none rfl⟩, trivial⟩ ?_
                try clear H a W
                intro G8 a W H
                replace H : St 139 w a W [(134, .agg ((DH.mk K false N (SL.mk Ac nc cc) [] SL.no SL.no).cs)), (135, .int .i64 ((se : Nat) : Int)), (136, .pointer (some ⟨g2, 0, none⟩)), (137, .int .i64 K), (138, .bool (decide (K ≠ 0))), (5, .int .i64 ((se : Nat) : Int)), (6, .bool (decide (K ≠ 0))), (11, .pointer (some ⟨g2, 0, none⟩)), (8, .int .i64 ((se : Nat) : Int)), (4, .pointer (some ⟨g1, 0, none⟩))] [(g2, 27, (DH.mk K false N (SL.mk Ac nc cc) [] SL.no SL.no).cs), (g1, 27, (DH.mk K false N (SL.mk Ac nc cc) [] SL.no SL.no).cs)] := H
                refine pl_end ?_
                replace H := H.km [0, 0, 0, 0, 0, 1, 1, 0, 0] []
                refine hK28 _ _ ?_
                clear hK28
                refine wp_ret ?_
                repeat (first | (with_reducible refine then_ret ?_) | (with_reducible refine blk_ret ?_))
                refine end_cell_tt (p := 4) (q := 5) (r := 6) rfl rfl rfl rfl (k := 1) rfl Tryd.underlying27 rfl (info_der _) H (fun hb => ?_)
                replace H : St 139 w a W [(5, .int .i64 ((se : Nat) : Int)), (6, .bool (decide (K ≠ 0))), (4, .pointer (some ⟨g1, 0, none⟩))] ([(g2, 27, (DH.mk K false N (SL.mk Ac nc cc) [] SL.no SL.no).cs), (g1, 27, (DH.mk K false N (SL.mk Ac nc cc) [] SL.no SL.no).cs)] ++ ([] : Hep)) := by rw [List.append_nil]; exact H
                have hkq : K = 4 := of_decide_eq_true hq8
                have hN8 : K ≠ 8 → N = 0 := fun hne => by
                  rw [← hN]
                  by_cases hp_ : 160 ≤ (lb.getD 0 0).toNat ∧ (lb.getD 0 0).toNat ≤ 190
                  · rw [if_pos hp_] at hkt; omega
                  · rw [if_neg hp_]
                have hN1 := hN8 (by omega)
                subst hN1
                subst hkq
                refine ⟨_, ([] : Hep), rfl, hb, H.nr, (DH.mk 4 false 0 (SL.mk Ac nc cc) [] SL.no SL.no), _, _, rfl, ?_, ?_⟩
                · intro _
                  refine ⟨.mk 4 false 0 lc [] [] [], ?_, dq_leaf (by omega) (by omega) ⟨show nc < 9223372036854775808 by omega, by decide⟩ hbcP⟩
                  rw [readD_succ hspan, hlcd, hK]
                  rfl
                · intro h_; exact absurd (of_decide_eq_false h_) (by decide)
              | false =>
                rw [hq8] at H
                have hq8p := of_decide_eq_false hq8
                refine wp_cond_false (H.ev rfl) ?_
                refine sqR H gs0 fun Z_ z_ => rV rfl (does_binOp rfl rfl rfl (zd_eql_derkind (k := K) (m := 5) rfl _ _)) <| rS 1 rfl <| rK [1, 0, 0] [] [] <| rN0 z_ ?_
                try clear H a W
                intro a W H
                cases hq9 : decide (K = 5) with
                | true =>
                  rw [hq9] at H
                  have hq9p := of_decide_eq_true hq9
                  refine wp_cond_true (H.ev rfl) ?_
                  refine rgP H gs0 (rS 1 rfl <| rI0 ?_)
                  try clear H a W
                  intro a W H
                  refine pl_callOwn (h := [(g2, 27, (DH.mk K false N SL.no [] SL.no SL.no).cs), (g1, 27, DH.no.cs)]) (k := (arcsD lc 0 []).length) (xs := (arcsD lc 0 []).map nvD) rfl ⟨_, Tryd.func61, by kernel_rfl⟩ rfl (arcs_any _ (bf_old hbfc H) (by omega)) rfl rfl rfl rfl H ?_
                  try clear H a W
                  intro va ta a W hOA H
                  obtain ⟨vA, vc, rfl, hvc⟩ := hOA.form
                  replace H : St 139 w a W [(99, .slice vA (arcsD lc 0 []).length vc), (98, .slice Ac nc cc), (96, .bool true), (66, .int .i64 K), (11, .pointer (some ⟨g2, 0, none⟩)), (10, .slice Ac nc cc), (8, .int .i64 ((se : Nat) : Int)), (4, .pointer (some ⟨g1, 0, none⟩)), (1, .int .i64 ((d + 1 : Nat) : Int))] ((g2, 27, (DH.mk K false N SL.no [] SL.no SL.no).cs) :: (g1, 27, DH.no.cs) :: ta) := H
                  refine rgO H gs0 (rV rfl (does_fieldAddr rfl rfl fa_der5) <| rX [1] (c := (DH.mk K false N SL.no [] (SL.mk vA (arcsD lc 0 []).length vc) SL.no).cs) ⟨rfl, rfl⟩ rfl rfl rfl (st_derA (u := (SL.mk vA (arcsD lc 0 []).length vc))) sv_derA <| rK [0, 0, 0, 0, 0, 1, 0, 1, 1, 0] [] [] <| rZ0 ?_)
                  try clear H a W
                  intro a W H
                  refine blk_normal ?_
                  refine hK16 _ _ ?_
                  clear hK16
                  refine wp_seq_k (fun K30 hK30 => ?_)
                  refine drawnTF (h := [(g2, 27, (DH.mk K false N SL.no [] (SL.mk vA (arcsD lc 0 []).length vc) SL.no).cs), (g1, 27, DH.no.cs)]) (t := ta) [.val 134 (.agg ((DH.mk K false N SL.no [] (SL.mk vA (arcsD lc 0 []).length vc) SL.no).cs)) [] [0], .val 135 (.int .i64 ((se : Nat) : Int)) [] [], .val 136 (.pointer (some ⟨g2, 0, none⟩)) [] [], .val 137 (.int .i64 K) [2] [0], .val 138 (.bool (decide (K ≠ 0))) [3] [], .sto 1 g1 27 (DH.no.cs) ((DH.mk K false N SL.no [] (SL.mk vA (arcsD lc 0 []).length vc) SL.no).cs) [0], .val 5 (.int .i64 ((se : Nat) : Int)) [1] [], .val 6 (.bool (decide (K ≠ 0))) [4] []] [0, 0, 0, 4, 8, 1, 35, 127] (by kernel_rfl) (by kernel_rfl) (by kernel_rfl) H (by kernel_rfl) ⟨⟨does_load rfl rfl (k := 0) rfl Tryd.underlying27 rfl (info_der (DH.mk K false N SL.no [] (SL.mk vA (arcsD lc 0 []).length vc) SL.no)), wanted_none rfl⟩, ⟨does_move rfl rfl, wanted_none rfl⟩, ⟨does_fieldAddr rfl rfl fa_der0, wanted_none rfl⟩, ⟨does_loadAt (v := .int .i64 K) rfl rfl (k := 0) rfl ld_derK, wanted_none rfl⟩, ⟨does_binOp rfl rfl rfl (zd_neq_derkind (k := K) (m := 0) rfl _ _), wanted_none rfl⟩, ⟨rfl, rfl, sto_row rfl rfl rfl (info_der (DH.mk K false N SL.no [] (SL.mk vA (arcsD lc 0 []).length vc) SL.no)) (size_der DH.no (DH.mk K false N SL.no [] (SL.mk vA (arcsD lc 0 []).length vc) SL.no)) (DH.mk K false N SL.no [] (SL.mk vA (arcsD lc 0 []).length vc) SL.no).one⟩, ⟨does_assign rfl rfl, wanted_none rfl⟩, ⟨does_assign rfl rfl, wanted_none rfl⟩, trivial⟩ ?_
                  try clear H a W
                  intro G9 a W H
                  replace H : St 139 w a W [(134, .agg ((DH.mk K false N SL.no [] (SL.mk vA (arcsD lc 0 []).length vc) SL.no).cs)), (135, .int .i64 ((se : Nat) : Int)), (136, .pointer (some ⟨g2, 0, none⟩)), (137, .int .i64 K), (138, .bool (decide (K ≠ 0))), (5, .int .i64 ((se : Nat) : Int)), (6, .bool (decide (K ≠ 0))), (11, .pointer (some ⟨g2, 0, none⟩)), (8, .int .i64 ((se : Nat) : Int)), (4, .pointer (some ⟨g1, 0, none⟩))] ((g2, 27, (DH.mk K false N SL.no [] (SL.mk vA (arcsD lc 0 []).length vc) SL.no).cs) :: (g1, 27, (DH.mk K false N SL.no [] (SL.mk vA (arcsD lc 0 []).length vc) SL.no).cs) :: ta) := H
                  refine pl_end ?_
                  replace H := H.km [0, 0, 0, 0, 0, 1, 1, 0, 0] []
                  refine hK30 _ _ ?_
                  clear hK30
                  refine wp_ret ?_
                  repeat (first | (with_reducible refine then_ret ?_) | (with_reducible refine blk_ret ?_))
                  refine end_cell_tt (p := 4) (q := 5) (r := 6) rfl rfl rfl rfl (k := 1) rfl Tryd.underlying27 rfl (info_der _) H (fun hb => ?_)
                  replace H : St 139 w a W [(5, .int .i64 ((se : Nat) : Int)), (6, .bool (decide (K ≠ 0))), (4, .pointer (some ⟨g1, 0, none⟩))] ([(g2, 27, (DH.mk K false N SL.no [] (SL.mk vA (arcsD lc 0 []).length vc) SL.no).cs), (g1, 27, (DH.mk K false N SL.no [] (SL.mk vA (arcsD lc 0 []).length vc) SL.no).cs)] ++ ta) := H
                  have hkq : K = 5 := of_decide_eq_true hq9
                  have hN8 : K ≠ 8 → N = 0 := fun hne => by
                    rw [← hN]
                    by_cases hp_ : 160 ≤ (lb.getD 0 0).toNat ∧ (lb.getD 0 0).toNat ≤ 190
                    · rw [if_pos hp_] at hkt; omega
                    · rw [if_neg hp_]
                  have hN1 := hN8 (by omega)
                  subst hN1
                  subst hkq
                  refine ⟨_, ta, rfl, hb, H.nr, (DH.mk 5 false 0 SL.no [] (SL.mk vA (arcsD lc 0 []).length vc) SL.no), _, _, rfl, ?_, ?_⟩
                  · intro _
                    refine ⟨.mk 5 false 0 [] [] (arcsD lc 0 []) [], ?_, dq_arcs hOA (arcs_lt lc 0 [] (by omega) (fun x hx => by cases hx)) (by have := arcs_len lc; omega) (by omega) (by omega)⟩
                    rw [readD_succ hspan, hlcd, hK]
                    rfl
                  · intro h_; exact absurd (of_decide_eq_false h_) (by decide)
                | false =>
                  rw [hq9] at H
                  have hq9p := of_decide_eq_false hq9
                  refine wp_cond_false (H.ev rfl) ?_
                  refine wp_seq_k (fun K31 hK31 => ?_)
                  have J31 : ∀ a W, St 139 w a W [(101, .bool (decide (K = 6 ∨ K = 10))), (66, .int .i64 K), (11, .pointer (some ⟨g2, 0, none⟩)), (10, .slice Ac nc cc), (8, .int .i64 ((se : Nat) : Int)), (4, .pointer (some ⟨g1, 0, none⟩)), (1, .int .i64 ((d + 1 : Nat) : Int))] [(g2, 27, (DH.mk K false N SL.no [] SL.no SL.no).cs), (g1, 27, DH.no.cs)] → K31 a W := by
                    try clear H a W
                    intro a W H
                    refine hK31 _ _ ?_
                    clear hK31
                    cases hq10 : decide (K = 6 ∨ K = 10) with
                    | true =>
                      rw [hq10] at H
                      have hq10p := of_decide_eq_true hq10
                      refine wp_cond_true (H.ev rfl) ?_
                      refine rgP H gs0 (rS 1 rfl <| rOV rfl (fun a W H _ => ob_strD H (wanted_none rfl) rfl rfl (bf_old hbfc H)) <| rV rfl (does_fieldAddr rfl rfl fa_der4) <| rX [1] (c := (DH.mk K false N SL.no lc SL.no SL.no).cs) ⟨rfl, rfl⟩ rfl rfl rfl (st_derT (u := lc)) sv_derT <| rK [0, 0, 0, 0, 0, 1, 0, 1, 1, 0] [] [] <| rZ0 ?_)
                      try clear H a W
                      intro a W H
                      refine blk_normal ?_
                      refine hK16 _ _ ?_
                      clear hK16
                      refine wp_seq_k (fun K32 hK32 => ?_)
                      refine drawnT [.val 134 (.agg ((DH.mk K false N SL.no lc SL.no SL.no).cs)) [] [0], .val 135 (.int .i64 ((se : Nat) : Int)) [] [], .val 136 (.pointer (some ⟨g2, 0, none⟩)) [] [], .val 137 (.int .i64 K) [2] [0], .val 138 (.bool (decide (K ≠ 0))) [3] [], .sto 1 g1 27 (DH.no.cs) ((DH.mk K false N SL.no lc SL.no SL.no).cs) [0], .val 5 (.int .i64 ((se : Nat) : Int)) [1] [], .val 6 (.bool (decide (K ≠ 0))) [4] []] [0, 0, 0, 4, 8, 1, 35, 127] (by kernel_rfl) (by kernel_rfl) (by kernel_rfl) H ⟨⟨does_load rfl rfl (k := 0) rfl Tryd.underlying27 rfl (info_der (DH.mk K false N SL.no lc SL.no SL.no)), wanted_none rfl⟩, ⟨does_move rfl rfl, wanted_none rfl⟩, ⟨does_fieldAddr rfl rfl fa_der0, wanted_none rfl⟩, ⟨does_loadAt (v := .int .i64 K) rfl rfl (k := 0) rfl ld_derK, wanted_none rfl⟩, ⟨does_binOp rfl rfl rfl (zd_neq_derkind (k := K) (m := 0) rfl _ _), wanted_none rfl⟩, ⟨rfl, rfl, sto_row rfl rfl rfl (info_der (DH.mk K false N SL.no lc SL.no SL.no)) (size_der DH.no (DH.mk K false N SL.no lc SL.no SL.no)) (DH.mk K false N SL.no lc SL.no SL.no).one⟩, ⟨does_assign rfl rfl, wanted_none rfl⟩, ⟨does_assign rfl rfl, wanted_none rfl⟩, trivial⟩ ?_
                      try clear H a W
                      intro G10 a W H
                      replace H : St 139 w a W [(134, .agg ((DH.mk K false N SL.no lc SL.no SL.no).cs)), (135, .int .i64 ((se : Nat) : Int)), (136, .pointer (some ⟨g2, 0, none⟩)), (137, .int .i64 K), (138, .bool (decide (K ≠ 0))), (5, .int .i64 ((se : Nat) : Int)), (6, .bool (decide (K ≠ 0))), (11, .pointer (some ⟨g2, 0, none⟩)), (8, .int .i64 ((se : Nat) : Int)), (4, .pointer (some ⟨g1, 0, none⟩))] [(g2, 27, (DH.mk K false N SL.no lc SL.no SL.no).cs), (g1, 27, (DH.mk K false N SL.no lc SL.no SL.no).cs)] := H
                      refine pl_end ?_
                      replace H := H.km [0, 0, 0, 0, 0, 1, 1, 0, 0] []
                      refine hK32 _ _ ?_
                      clear hK32
                      refine wp_ret ?_
                      repeat (first | (with_reducible refine then_ret ?_) | (with_reducible refine blk_ret ?_))
                      refine end_cell_tt (p := 4) (q := 5) (r := 6) rfl rfl rfl rfl (k := 1) rfl Tryd.underlying27 rfl (info_der _) H (fun hb => ?_)
                      replace H : St 139 w a W [(5, .int .i64 ((se : Nat) : Int)), (6, .bool (decide (K ≠ 0))), (4, .pointer (some ⟨g1, 0, none⟩))] ([(g2, 27, (DH.mk K false N SL.no lc SL.no SL.no).cs), (g1, 27, (DH.mk K false N SL.no lc SL.no SL.no).cs)] ++ ([] : Hep)) := by rw [List.append_nil]; exact H
                      have hN8 : K ≠ 8 → N = 0 := fun hne => by
                        rw [← hN]
                        by_cases hp_ : 160 ≤ (lb.getD 0 0).toNat ∧ (lb.getD 0 0).toNat ≤ 190
                        · rw [if_pos hp_] at hkt; omega
                        · rw [if_neg hp_]
                      have hkq : K = 6 ∨ K = 10 := of_decide_eq_true hq10
                      have hN1 := hN8 (by omega)
                      subst hN1
                      refine ⟨_, ([] : Hep), rfl, hb, H.nr, (DH.mk K false 0 SL.no lc SL.no SL.no), _, _, rfl, ?_, ?_⟩
                      · intro _
                        refine ⟨.mk K false 0 [] lc [] [], ?_, dq_leaf (by omega) (by omega) ⟨by first | decide | (show _ < _; omega), by first | decide | omega⟩ (BP.nil _ _)⟩
                        rw [readD_succ hspan, hlcd, hK]
                        rcases hkq with rfl | rfl <;> rfl
                      · intro h_; exact absurd (of_decide_eq_false h_) (by omega)
                    | false =>
                      rw [hq10] at H
                      have hq10p := of_decide_eq_false hq10
                      refine wp_cond_false (H.ev rfl) ?_
                      refine wp_seq_k (fun K33 hK33 => ?_)
                      have J33 : ∀ a W, St 139 w a W [(107, .bool (decide (K = 7 ∨ K = 9 ∨ K = 8))), (11, .pointer (some ⟨g2, 0, none⟩)), (10, .slice Ac nc cc), (8, .int .i64 ((se : Nat) : Int)), (4, .pointer (some ⟨g1, 0, none⟩)), (1, .int .i64 ((d + 1 : Nat) : Int))] [(g2, 27, (DH.mk K false N SL.no [] SL.no SL.no).cs), (g1, 27, DH.no.cs)] → K33 a W := by
                        try clear H a W
                        intro a W H
                        refine hK33 _ _ ?_
                        clear hK33
                        cases hq11 : decide (K = 7 ∨ K = 9 ∨ K = 8) with
                        | true =>
                          rw [hq11] at H
                          have hq11p := of_decide_eq_true hq11
                          refine wp_cond_true (H.ev rfl) ?_
                          refine wp_block ?_
                          replace H : St 139 w a W [(10, .slice Ac (nc - 0) cc), (11, .pointer (some ⟨g2, 0, none⟩)), (8, .int .i64 ((se : Nat) : Int)), (4, .pointer (some ⟨g1, 0, none⟩)), (1, .int .i64 ((d + 1 : Nat) : Int))] ((g2, 27, (DH.mk K false N SL.no [] SL.no (SL.mk none 0 0)).cs) :: (g1, 27, DH.no.cs) :: (([] : Hep) ++ ([] : Hep))) := H.pick [2, 1, 3, 4, 5] [0, 1] rfl
                          refine wp_rounds nc (fun k a W => ∃ (Aq : Option Addr) (cq : Nat) (vA : Option Addr) (vc : Nat) (t1 t2 : Hep) (xs : List DH) (Ts : List DT), BP w P Aq (nc - k) cq (lc.drop k) ∧ rdK d lc = (rdK d (lc.drop k)).map (Ts ++ ·) ∧ OutD 27 7 t1 (.slice vA xs.length vc) xs.length (kidV xs) ∧ xs.length ≤ k ∧ KD w P t2 xs Ts ∧ St 139 w a W [(10, .slice Aq (nc - k) cq), (11, .pointer (some ⟨g2, 0, none⟩)), (8, .int .i64 ((se : Nat) : Int)), (4, .pointer (some ⟨g1, 0, none⟩)), (1, .int .i64 ((d + 1 : Nat) : Int))] ((g2, 27, (DH.mk K false N SL.no [] SL.no (SL.mk vA xs.length vc)).cs) :: (g1, 27, DH.no.cs) :: (t1 ++ t2))) (k0 := 0) (show ∃ (Aq : Option Addr) (cq : Nat) (vA : Option Addr) (vc : Nat) (t1 t2 : Hep) (xs : List DH) (Ts : List DT), BP w P Aq (nc - 0) cq (lc.drop 0) ∧ rdK d lc = (rdK d (lc.drop 0)).map (Ts ++ ·) ∧ OutD 27 7 t1 (.slice vA xs.length vc) xs.length (kidV xs) ∧ xs.length ≤ 0 ∧ KD w P t2 xs Ts ∧ St 139 w a W [(10, .slice Aq (nc - 0) cq), (11, .pointer (some ⟨g2, 0, none⟩)), (8, .int .i64 ((se : Nat) : Int)), (4, .pointer (some ⟨g1, 0, none⟩)), (1, .int .i64 ((d + 1 : Nat) : Int))] ((g2, 27, (DH.mk K false N SL.no [] SL.no (SL.mk vA xs.length vc)).cs) :: (g1, 27, DH.no.cs) :: (t1 ++ t2)) from ⟨Ac, cc, none, 0, [], [], [], [], hbcP, (by show rdK d lc = (rdK d lc).map _; cases rdK d lc <;> rfl), OutD.nil _ _, Nat.le_refl _, KD.nil _ _ _, H⟩) (by omega) ?_
                          try clear H a W
                          rintro k a W hk ⟨Aq, cq, vA, vc, t1, t2, xs, Ts, hbq, hrk, hOD, hxl, hKD, H⟩
                          by_cases hk2 : k < nc
                          · have hbfq : BF (lc.drop k) (.slice Aq (nc - k) cq) w := ⟨_, _, _, rfl, hbq.bs hP⟩
                            refine wp_seq_k (fun K34 hK34 => ?_)
                            refine sqR H gs0 fun Z_ z_ => rS 1 rfl <| rV rfl (does_len Tryd.underlying23 rfl rfl) <| rV rfl (does_binOp rfl rfl rfl (zd_gtr_int (k := (((nc - k) : Nat) : Int)) (m := 0) (decide_eq_true (by omega)) _ _)) <| rN0 z_ ?_
                            try clear H a W
                            intro a W H
                            refine wp_cond_true (H.ev rfl) ?_
                            refine wp_skip ?_
                            refine hK34 _ _ ?_
                            clear hK34
                            refine wp_block ?_
                            refine wp_seq_k (fun K36 hK36 => ?_)
                            refine rgP H gs0 (rS 2 rfl <| rV rfl (does_binOp rfl rfl rfl (zd_sub_int (k := ((d + 1 : Nat) : Int)) (m := 1) (c := ((d : Nat) : Int)) (by omega) (by omega) _ _)) <| rI0 ?_)
                            try clear H a W
                            intro a W H
                            refine pl_read rfl rfl ih hP hbq (by omega) rfl rfl rfl rfl H ?_
                            try clear H a W
                            intro x1 j1 ok1 t3 a W hr1 hr2 H
                            replace H : St 139 w a W [(118, .tuple #[.agg (x1.cs), .int .i64 ((j1 : Nat) : Int), .bool ok1]), (117, .int .i64 ((d : Nat) : Int)), (116, .int .i64 ((d + 1 : Nat) : Int)), (115, .slice Aq (nc - k) cq), (113, .bool true), (112, .int .i64 (((nc - k) : Nat) : Int)), (111, .slice Aq (nc - k) cq), (10, .slice Aq (nc - k) cq), (11, .pointer (some ⟨g2, 0, none⟩)), (8, .int .i64 ((se : Nat) : Int)), (4, .pointer (some ⟨g1, 0, none⟩)), (1, .int .i64 ((d + 1 : Nat) : Int))] (((g2, 27, (DH.mk K false N SL.no [] SL.no (SL.mk vA xs.length vc)).cs) :: (g1, 27, DH.no.cs) :: (t1 ++ t2)) ++ t3) := H
                            replace H : St 139 w a W [(118, .tuple #[.agg (x1.cs), .int .i64 ((j1 : Nat) : Int), .bool ok1]), (117, .int .i64 ((d : Nat) : Int)), (116, .int .i64 ((d + 1 : Nat) : Int)), (115, .slice Aq (nc - k) cq), (113, .bool true), (112, .int .i64 (((nc - k) : Nat) : Int)), (111, .slice Aq (nc - k) cq), (10, .slice Aq (nc - k) cq), (11, .pointer (some ⟨g2, 0, none⟩)), (8, .int .i64 ((se : Nat) : Int)), (4, .pointer (some ⟨g1, 0, none⟩)), (1, .int .i64 ((d + 1 : Nat) : Int))] ((g2, 27, (DH.mk K false N SL.no [] SL.no (SL.mk vA xs.length vc)).cs) :: (g1, 27, DH.no.cs) :: (t1 ++ (t2 ++ t3))) := by rw [← List.append_assoc t1 t2 t3]; exact H
                            refine rgO H gs0 (rS 4 rfl <| rA rfl rfl al_der fun g11 => rW [1] ⟨rfl, rfl⟩ rfl rfl rfl (info_der x1) (size_der DH.no x1) x1.one <| rS 2 rfl <| rZ0 ?_)
                            try clear H a W
                            intro a W H
                            replace H : St 139 w a W [(15, .bool ok1), (14, .int .i64 ((j1 : Nat) : Int)), (13, .pointer (some ⟨g11, 0, none⟩)), (10, .slice Aq (nc - k) cq), (11, .pointer (some ⟨g2, 0, none⟩)), (8, .int .i64 ((se : Nat) : Int)), (4, .pointer (some ⟨g1, 0, none⟩)), (1, .int .i64 ((d + 1 : Nat) : Int))] ((g11, 27, x1.cs) :: (g2, 27, (DH.mk K false N SL.no [] SL.no (SL.mk vA xs.length vc)).cs) :: (g1, 27, DH.no.cs) :: (t1 ++ (t2 ++ t3))) := H.sub (by simp) (fun _ h => h) H.apart
                            refine hK36 _ _ ?_
                            clear hK36
                            refine wp_seq_k (fun K37 hK37 => ?_)
                            refine wp_seq_k (fun K38 hK38 => ?_)
                            cases hq12 : ok1 with
                            | true =>
                              rw [hq12] at H
                              refine rgP H gs0 (rS 2 rfl <| rZ0 ?_)
                              try clear H a W
                              intro a W H
                              refine hK38 _ _ ?_
                              clear hK38
                              refine wp_cond_false (H.ev rfl) ?_
                              refine wp_skip ?_
                              refine hK37 _ _ ?_
                              clear hK37
                              refine wp_seq_k (fun K39 hK39 => ?_)
                              refine rgP H gs0 (rV rfl (does_fieldAddr rfl rfl fa_der6) <| rV rfl (does_loadAt (v := .slice vA xs.length vc) rfl rfl (k := 1) rfl ld_derS) <| rV rfl (does_load rfl rfl (k := 0) rfl Tryd.underlying27 rfl (info_der x1)) <| rO rfl (fun a W H _ => ob_kid1 (x := x1) H (wanted_none rfl) rfl rfl) fun v128 => rI ?_)
                              try clear H a W
                              rintro a W H ⟨hv128, -⟩
                              obtain ⟨T1, hrd1, hdq1⟩ := hr1 hq12
                              have hj1 := read_pos hrd1
                              rw [List.length_drop, hlc] at hj1
                              obtain ⟨Aq2, htl2, hbq2⟩ := tl_bytP hbq (k := j1) (by omega)
                              refine pl_kid (h := [(g11, 27, x1.cs), (g2, 27, (DH.mk K false N SL.no [] SL.no (SL.mk vA xs.length vc)).cs), (g1, 27, DH.no.cs)]) (t := t1) (t2 := (t2 ++ t3)) (xs := xs) rfl rfl rfl hOD hv128 (by omega) rfl rfl rfl rfl H ?_
                              try clear H a W
                              intro vk t4 a W hOD2 H
                              obtain ⟨vA2, vc2, rfl, hvc2⟩ := hOD2.form
                              replace H : St 139 w a W [(129, .slice vA2 (xs ++ [x1]).length vc2), (128, v128), (127, .agg (x1.cs)), (126, .slice vA xs.length vc), (125, .pointer (some ⟨g2, 6, none⟩)), (123, .bool false), (122, .bool true), (15, .bool true), (14, .int .i64 ((j1 : Nat) : Int)), (13, .pointer (some ⟨g11, 0, none⟩)), (10, .slice Aq (nc - k) cq), (11, .pointer (some ⟨g2, 0, none⟩)), (8, .int .i64 ((se : Nat) : Int)), (4, .pointer (some ⟨g1, 0, none⟩)), (1, .int .i64 ((d + 1 : Nat) : Int))] ((g11, 27, x1.cs) :: (g2, 27, (DH.mk K false N SL.no [] SL.no (SL.mk vA xs.length vc)).cs) :: (g1, 27, DH.no.cs) :: (t4 ++ (t2 ++ t3))) := H
                              refine rgO H gs0 (rV rfl (does_fieldAddr rfl rfl fa_der6) <| rX [0, 1] (c := (DH.mk K false N SL.no [] SL.no (SL.mk vA2 (xs ++ [x1]).length vc2)).cs) ⟨rfl, rfl⟩ rfl rfl rfl (st_derS (u := (SL.mk vA2 (xs ++ [x1]).length vc2))) sv_derS <| rZ0 ?_)
                              try clear H a W
                              intro a W H
                              refine hK39 _ _ ?_
                              clear hK39
                              refine rgP H gs0 (rS 2 rfl <| rV rfl (does_slice rfl rfl (vl := some (.int .i64 ((j1 : Nat) : Int))) (vh := none) rfl rfl htl2) <| rK [1, 1, 1, 1, 1, 1, 1, 1, 1, 1, 1, 1, 1, 1, 0] [] [] <| rS 1 rfl <| rZ0 ?_)
                              try clear H a W
                              intro a W H
                              refine blk_normal ?_
                              refine ⟨k + j1, by omega, by omega, Aq2, cq - j1, vA2, vc2, t4, (t2 ++ t3), xs ++ [x1], Ts ++ [T1], ?_, ?_, hOD2, ?_, ?_, ?_⟩
                              · rw [show nc - (k + j1) = nc - k - j1 by omega, ← List.drop_drop]
                                exact hbq2
                              · rw [hrk, rdK_some (by rw [List.length_drop]; omega) hrd1, ← List.drop_drop]
                                cases rdK d ((lc.drop k).drop j1) <;> simp
                              · rw [List.length_append, List.length_singleton]
                                omega
                              · exact (hKD.more fun p hp => List.mem_append.2 (.inl hp)).snoc (hdq1.go (fun _ _ => rfl) (fun _ h => h) fun p hp => List.mem_append.2 (.inr hp))
                              · rw [show nc - (k + j1) = nc - k - j1 by omega]
                                exact H.pickF (h := [(g11, 27, x1.cs), (g2, 27, (DH.mk K false N SL.no [] SL.no (SL.mk vA2 (xs ++ [x1]).length vc2)).cs), (g1, 27, DH.no.cs)]) (t := (t4 ++ (t2 ++ t3))) [0, 15, 16, 17, 18] [1, 2] rfl
                            | false =>
                              rw [hq12] at H
                              refine rgP H gs0 (rS 2 rfl <| rZ0 ?_)
                              try clear H a W
                              intro a W H
                              refine hK38 _ _ ?_
                              clear hK38
                              refine wp_cond_true (H.ev rfl) ?_
                              refine sqR H gs0 fun Z_ z_ => rV rfl (does_load rfl rfl (k := 1) rfl Tryd.underlying27 rfl (info_der (DH.mk K false N SL.no [] SL.no (SL.mk vA xs.length vc)))) <| rW [0, 0, 1] ⟨rfl, rfl⟩ rfl rfl rfl (info_der (DH.mk K false N SL.no [] SL.no (SL.mk vA xs.length vc))) (size_der DH.no (DH.mk K false N SL.no [] SL.no (SL.mk vA xs.length vc))) (DH.mk K false N SL.no [] SL.no (SL.mk vA xs.length vc)).one <| rS 2 rfl <| rN0 z_ ?_
                              try clear H a W
                              intro a W H
                              refine wp_ret ?_
                              repeat (first | (with_reducible refine then_ret ?_) | (with_reducible refine blk_ret ?_))
                              refine end_cell_tt (p := 4) (q := 5) (r := 6) rfl rfl rfl rfl (k := 2) rfl Tryd.underlying27 rfl (info_der _) H (fun hb => ?_)
                              replace H : St 139 w a W [(6, .bool false), (5, .int .i64 0), (124, .agg ((DH.mk K false N SL.no [] SL.no (SL.mk vA xs.length vc)).cs)), (123, .bool true), (122, .bool false), (15, .bool false), (14, .int .i64 ((j1 : Nat) : Int)), (13, .pointer (some ⟨g11, 0, none⟩)), (10, .slice Aq (nc - k) cq), (11, .pointer (some ⟨g2, 0, none⟩)), (8, .int .i64 ((se : Nat) : Int)), (4, .pointer (some ⟨g1, 0, none⟩)), (1, .int .i64 ((d + 1 : Nat) : Int))] ([(g11, 27, x1.cs), (g2, 27, (DH.mk K false N SL.no [] SL.no (SL.mk vA xs.length vc)).cs), (g1, 27, (DH.mk K false N SL.no [] SL.no (SL.mk vA xs.length vc)).cs)] ++ (t1 ++ (t2 ++ t3))) := H
                              refine ⟨_, (t1 ++ (t2 ++ t3)), rfl, hb, H.nr, (DH.mk K false N SL.no [] SL.no (SL.mk vA xs.length vc)), _, _, rfl, ?_, ?_⟩
                              · intro h_; cases h_
                              · intro _
                                rw [readD_succ hspan, hlcd, hK, hrk, rdK_none (by rw [List.length_drop]; omega) (hr2 hq12)]
                                have hks : K = 7 ∨ K = 9 ∨ K = 8 := of_decide_eq_true hq11
                                rcases hks with rfl | rfl | rfl <;> rfl
                          · have hkn : k = nc := by omega
                            have hrk2 : rdK d lc = some Ts := by
                              rw [hrk, List.drop_of_length_le (by omega), rdK_nil]
                              simp
                            refine wp_seq_k (fun K41 hK41 => ?_)
                            refine sqR H gs0 fun Z_ z_ => rS 1 rfl <| rV rfl (does_len Tryd.underlying23 rfl rfl) <| rV rfl (does_binOp rfl rfl rfl (zd_gtr_int (k := (((nc - k) : Nat) : Int)) (m := 0) (decide_eq_false (by omega)) _ _)) <| rK [1, 0, 0] [] [] <| rN0 z_ ?_
                            try clear H a W
                            intro a W H
                            refine wp_cond_false (H.ev rfl) ?_
                            refine wp_exit ?_
                            repeat (with_reducible refine then_exit ?_)
                            refine blk_exit ?_
                            refine blk_normal ?_
                            refine hK16 _ _ ?_
                            clear hK16
                            refine wp_seq_k (fun K43 hK43 => ?_)
                            refine drawnTF (h := [(g2, 27, (DH.mk K false N SL.no [] SL.no (SL.mk vA xs.length vc)).cs), (g1, 27, DH.no.cs)]) (t := (t1 ++ t2)) [.val 134 (.agg ((DH.mk K false N SL.no [] SL.no (SL.mk vA xs.length vc)).cs)) [] [0], .val 135 (.int .i64 ((se : Nat) : Int)) [] [], .val 136 (.pointer (some ⟨g2, 0, none⟩)) [] [], .val 137 (.int .i64 K) [2] [0], .val 138 (.bool (decide (K ≠ 0))) [3] [], .sto 1 g1 27 (DH.no.cs) ((DH.mk K false N SL.no [] SL.no (SL.mk vA xs.length vc)).cs) [0], .val 5 (.int .i64 ((se : Nat) : Int)) [1] [], .val 6 (.bool (decide (K ≠ 0))) [4] []] [0, 0, 0, 4, 8, 1, 35, 127] (by kernel_rfl) (by kernel_rfl) (by kernel_rfl) H (by kernel_rfl) ⟨⟨does_load rfl rfl (k := 0) rfl Tryd.underlying27 rfl (info_der (DH.mk K false N SL.no [] SL.no (SL.mk vA xs.length vc))), wanted_none rfl⟩, ⟨does_move rfl rfl, wanted_none rfl⟩, ⟨does_fieldAddr rfl rfl fa_der0, wanted_none rfl⟩, ⟨does_loadAt (v := .int .i64 K) rfl rfl (k := 0) rfl ld_derK, wanted_none rfl⟩, ⟨does_binOp rfl rfl rfl (zd_neq_derkind (k := K) (m := 0) rfl _ _), wanted_none rfl⟩, ⟨rfl, rfl, sto_row rfl rfl rfl (info_der (DH.mk K false N SL.no [] SL.no (SL.mk vA xs.length vc))) (size_der DH.no (DH.mk K false N SL.no [] SL.no (SL.mk vA xs.length vc))) (DH.mk K false N SL.no [] SL.no (SL.mk vA xs.length vc)).one⟩, ⟨does_assign rfl rfl, wanted_none rfl⟩, ⟨does_assign rfl rfl, wanted_none rfl⟩, trivial⟩ ?_
                            try clear H a W
                            intro G12 a W H
                            replace H : St 139 w a W [(134, .agg ((DH.mk K false N SL.no [] SL.no (SL.mk vA xs.length vc)).cs)), (135, .int .i64 ((se : Nat) : Int)), (136, .pointer (some ⟨g2, 0, none⟩)), (137, .int .i64 K), (138, .bool (decide (K ≠ 0))), (5, .int .i64 ((se : Nat) : Int)), (6, .bool (decide (K ≠ 0))), (113, .bool false), (10, .slice Aq (nc - k) cq), (11, .pointer (some ⟨g2, 0, none⟩)), (8, .int .i64 ((se : Nat) : Int)), (4, .pointer (some ⟨g1, 0, none⟩)), (1, .int .i64 ((d + 1 : Nat) : Int))] ((g2, 27, (DH.mk K false N SL.no [] SL.no (SL.mk vA xs.length vc)).cs) :: (g1, 27, (DH.mk K false N SL.no [] SL.no (SL.mk vA xs.length vc)).cs) :: (t1 ++ t2)) := H
                            refine pl_end ?_
                            replace H := H.km [0, 0, 0, 0, 0, 1, 1, 0, 0, 0, 0, 1, 0] []
                            refine hK43 _ _ ?_
                            clear hK43
                            refine wp_ret ?_
                            repeat (first | (with_reducible refine then_ret ?_) | (with_reducible refine blk_ret ?_))
                            refine end_cell_tt (p := 4) (q := 5) (r := 6) rfl rfl rfl rfl (k := 1) rfl Tryd.underlying27 rfl (info_der _) H (fun hb => ?_)
                            replace H : St 139 w a W [(5, .int .i64 ((se : Nat) : Int)), (6, .bool (decide (K ≠ 0))), (4, .pointer (some ⟨g1, 0, none⟩))] ([(g2, 27, (DH.mk K false N SL.no [] SL.no (SL.mk vA xs.length vc)).cs), (g1, 27, (DH.mk K false N SL.no [] SL.no (SL.mk vA xs.length vc)).cs)] ++ (t1 ++ t2)) := H
                            have hN8 : K ≠ 8 → N = 0 := fun hne => by
                              rw [← hN]
                              by_cases hp_ : 160 ≤ (lb.getD 0 0).toNat ∧ (lb.getD 0 0).toNat ≤ 190
                              · rw [if_pos hp_] at hkt; omega
                              · rw [if_neg hp_]
                            have hkq : K = 7 ∨ K = 9 ∨ K = 8 := of_decide_eq_true hq11
                            refine ⟨_, (t1 ++ t2), rfl, hb, H.nr, (DH.mk K false N SL.no [] SL.no (SL.mk vA xs.length vc)), _, _, rfl, ?_, ?_⟩
                            · intro _
                              refine ⟨.mk K false N [] [] [] Ts, ?_, dq_kids hOD hKD (by omega) hN0 (by omega)⟩
                              rw [readD_succ hspan, hlcd, hK, hrk2]
                              rcases hkq with rfl | rfl | rfl
                              · rw [hN8 (by decide)]; rfl
                              · rw [hN8 (by decide)]; rfl
                              · have e8 : N = (((lb.getD 0 0).toNat : Nat) : Int) - 160 := by
                                  rw [← hN, if_pos (tag8 (by omega) hK)]
                                rw [e8]; rfl
                            · intro h_; exact absurd (of_decide_eq_false h_) (by omega)
                        | false =>
                          rw [hq11] at H
                          have hq11p := of_decide_eq_false hq11
                          refine wp_cond_false (H.ev rfl) ?_
                          refine wp_skip ?_
                          refine blk_normal ?_
                          refine hK16 _ _ ?_
                          clear hK16
                          refine wp_seq_k (fun K44 hK44 => ?_)
                          refine drawnT [.val 134 (.agg ((DH.mk K false N SL.no [] SL.no SL.no).cs)) [] [0], .val 135 (.int .i64 ((se : Nat) : Int)) [] [], .val 136 (.pointer (some ⟨g2, 0, none⟩)) [] [], .val 137 (.int .i64 K) [2] [0], .val 138 (.bool (decide (K ≠ 0))) [3] [], .sto 1 g1 27 (DH.no.cs) ((DH.mk K false N SL.no [] SL.no SL.no).cs) [0], .val 5 (.int .i64 ((se : Nat) : Int)) [1] [], .val 6 (.bool (decide (K ≠ 0))) [4] []] [0, 0, 0, 4, 8, 1, 35, 127] (by kernel_rfl) (by kernel_rfl) (by kernel_rfl) H ⟨⟨does_load rfl rfl (k := 0) rfl Tryd.underlying27 rfl (info_der (DH.mk K false N SL.no [] SL.no SL.no)), wanted_none rfl⟩, ⟨does_move rfl rfl, wanted_none rfl⟩, ⟨does_fieldAddr rfl rfl fa_der0, wanted_none rfl⟩, ⟨does_loadAt (v := .int .i64 K) rfl rfl (k := 0) rfl ld_derK, wanted_none rfl⟩, ⟨does_binOp rfl rfl rfl (zd_neq_derkind (k := K) (m := 0) rfl _ _), wanted_none rfl⟩, ⟨rfl, rfl, sto_row rfl rfl rfl (info_der (DH.mk K false N SL.no [] SL.no SL.no)) (size_der DH.no (DH.mk K false N SL.no [] SL.no SL.no)) (DH.mk K false N SL.no [] SL.no SL.no).one⟩, ⟨does_assign rfl rfl, wanted_none rfl⟩, ⟨does_assign rfl rfl, wanted_none rfl⟩, trivial⟩ ?_
                          try clear H a W
                          intro G13 a W H
                          replace H : St 139 w a W [(134, .agg ((DH.mk K false N SL.no [] SL.no SL.no).cs)), (135, .int .i64 ((se : Nat) : Int)), (136, .pointer (some ⟨g2, 0, none⟩)), (137, .int .i64 K), (138, .bool (decide (K ≠ 0))), (5, .int .i64 ((se : Nat) : Int)), (6, .bool (decide (K ≠ 0))), (107, .bool false), (11, .pointer (some ⟨g2, 0, none⟩)), (10, .slice Ac nc cc), (8, .int .i64 ((se : Nat) : Int)), (4, .pointer (some ⟨g1, 0, none⟩)), (1, .int .i64 ((d + 1 : Nat) : Int))] [(g2, 27, (DH.mk K false N SL.no [] SL.no SL.no).cs), (g1, 27, (DH.mk K false N SL.no [] SL.no SL.no).cs)] := H
                          refine pl_end ?_
                          replace H := H.km [0, 0, 0, 0, 0, 1, 1, 0, 0, 0, 0, 1, 0] []
                          refine hK44 _ _ ?_
                          clear hK44
                          refine wp_ret ?_
                          repeat (first | (with_reducible refine then_ret ?_) | (with_reducible refine blk_ret ?_))
                          refine end_cell_tt (p := 4) (q := 5) (r := 6) rfl rfl rfl rfl (k := 1) rfl Tryd.underlying27 rfl (info_der _) H (fun hb => ?_)
                          replace H : St 139 w a W [(5, .int .i64 ((se : Nat) : Int)), (6, .bool (decide (K ≠ 0))), (4, .pointer (some ⟨g1, 0, none⟩))] ([(g2, 27, (DH.mk K false N SL.no [] SL.no SL.no).cs), (g1, 27, (DH.mk K false N SL.no [] SL.no SL.no).cs)] ++ ([] : Hep)) := by rw [List.append_nil]; exact H
                          refine ⟨_, ([] : Hep), rfl, hb, H.nr, (DH.mk K false N SL.no [] SL.no SL.no), _, _, rfl, ?_, ?_⟩
                          · intro h_; exact absurd (of_decide_eq_true h_) (by omega)
                          · intro _
                            rw [readD_succ hspan, hlcd, hK, show K = 0 by omega]
                            rfl
                      clear hK33
                      refine sqR H gs0 fun Z_ z_ => rV rfl (does_binOp rfl rfl rfl (zd_eql_derkind (k := K) (m := 7) rfl _ _)) <| rS 1 rfl <| rK [1, 0, 0] [] [] <| rN0 z_ ?_
                      try clear H a W
                      intro a W H
                      cases hq13 : decide (K = 7) with
                      | true =>
                        rw [hq13] at H
                        have hq13p := of_decide_eq_true hq13
                        refine wp_cond_true (H.ev rfl) ?_
                        refine wp_skip ?_
                        exact J33 _ _ (by rw [show decide (K = 7 ∨ K = 9 ∨ K = 8) = true from decide_eq_true (by omega)]; exact H.pick [0, 2, 3, 4, 5, 6] [0, 1] rfl)
                      | false =>
                        rw [hq13] at H
                        have hq13p := of_decide_eq_false hq13
                        refine wp_cond_false (H.ev rfl) ?_
                        refine sqR H gs0 fun Z_ z_ => rV rfl (does_binOp rfl rfl rfl (zd_eql_derkind (k := K) (m := 9) rfl _ _)) <| rK [1, 0] [] [] <| rS 1 rfl <| rK [1, 0] [] [] <| rN0 z_ ?_
                        try clear H a W
                        intro a W H
                        cases hq14 : decide (K = 9) with
                        | true =>
                          rw [hq14] at H
                          have hq14p := of_decide_eq_true hq14
                          refine wp_cond_true (H.ev rfl) ?_
                          refine wp_skip ?_
                          exact J33 _ _ (by rw [show decide (K = 7 ∨ K = 9 ∨ K = 8) = true from decide_eq_true (by omega)]; exact H.pick [0, 2, 3, 4, 5, 6] [0, 1] rfl)
                        | false =>
                          rw [hq14] at H
                          have hq14p := of_decide_eq_false hq14
                          refine wp_cond_false (H.ev rfl) ?_
                          refine rgP H gs0 (rV rfl (does_binOp rfl rfl rfl (zd_eql_derkind (k := K) (m := 8) rfl _ _)) <| rK [1, 0] [] [] <| rS 1 rfl <| rK [1, 0, 0] [] [] <| rZ0 ?_)
                          try clear H a W
                          intro a W H
                          exact J33 _ _ (by rw [show decide (K = 7 ∨ K = 9 ∨ K = 8) = (decide (K = 8)) from decide_eq_decide.2 (by omega)]; exact H.pick [0, 1, 2, 3, 4, 5] [0, 1] rfl)
                  clear hK31
                  refine sqR H gs0 fun Z_ z_ => rV rfl (does_binOp rfl rfl rfl (zd_eql_derkind (k := K) (m := 6) rfl _ _)) <| rS 1 rfl <| rK [1, 0, 0] [] [] <| rN0 z_ ?_
                  try clear H a W
                  intro a W H
                  cases hq15 : decide (K = 6) with
                  | true =>
                    rw [hq15] at H
                    have hq15p := of_decide_eq_true hq15
                    refine wp_cond_true (H.ev rfl) ?_
                    refine wp_skip ?_
                    exact J31 _ _ (by rw [show decide (K = 6 ∨ K = 10) = true from decide_eq_true (by omega)]; exact H.pick [0, 1, 2, 3, 4, 5, 6] [0, 1] rfl)
                  | false =>
                    rw [hq15] at H
                    have hq15p := of_decide_eq_false hq15
                    refine wp_cond_false (H.ev rfl) ?_
                    refine rgP H gs0 (rV rfl (does_binOp rfl rfl rfl (zd_eql_derkind (k := K) (m := 10) rfl _ _)) <| rK [1, 0] [] [] <| rS 1 rfl <| rK [1, 0] [] [] <| rZ0 ?_)
                    try clear H a W
                    intro a W H
                    exact J31 _ _ (by rw [show decide (K = 6 ∨ K = 10) = (decide (K = 10)) from decide_eq_decide.2 (by omega)]; exact H.pick [0, 1, 2, 3, 4, 5, 6] [0, 1] rfl)
      clear hK15
      refine wp_seq_k (fun K48 hK48 => ?_)
      have J48 : ∀ a W, St 139 w a W [(57, .bool (decide (160 ≤ (lb.getD 0 0).toNat ∧ (lb.getD 0 0).toNat ≤ 190))), (11, .pointer (some ⟨g2, 0, none⟩)), (10, .slice Ac nc cc), (8, .int .i64 ((se : Nat) : Int)), (4, .pointer (some ⟨g1, 0, none⟩)), (0, .slice Ab nb cb), (1, .int .i64 ((d + 1 : Nat) : Int))] [(g2, 27, (DH.mk (ktD (lb.getD 0 0).toNat 10) false 0 SL.no [] SL.no SL.no).cs), (g1, 27, DH.no.cs)] → K48 a W := by
        try clear H a W
        intro a W H
        refine hK48 _ _ ?_
        clear hK48
        cases hq16 : decide (160 ≤ (lb.getD 0 0).toNat ∧ (lb.getD 0 0).toNat ≤ 190) with
        | true =>
          rw [hq16] at H
          have hq16p := of_decide_eq_true hq16
          refine wp_cond_true (H.ev rfl) ?_
          refine drawnT [.val 58 (.slice Ab nb cb) [] [], .val 59 (.pointer (some ⟨gbx, obx + 0, none⟩)) [0] [], .val 60 (.int .u8 (((lb.getD 0 0).toNat : Nat) : Int)) [1] [], .val 61 (.int .i64 (((lb.getD 0 0).toNat : Nat) : Int)) [2] [], .val 62 (.int .i64 ((((lb.getD 0 0).toNat : Nat) : Int) - 160)) [3] [], .val 63 (.pointer (some ⟨g2, 0, none⟩)) [] [], .sto 0 g2 27 ((DH.mk (ktD (lb.getD 0 0).toNat 10) false 0 SL.no [] SL.no SL.no).cs) ((DH.mk 8 false 0 SL.no [] SL.no SL.no).cs) [5]] [0, 1, 2, 4, 8, 0, 32, 127, 255] (by kernel_rfl) (by kernel_rfl) (by kernel_rfl) H ⟨⟨does_move rfl rfl, wanted_none rfl⟩, ⟨does_indexAddr rfl rfl rfl (ia_bytD (j := 0) (hbb (by omega)).1 (by omega)), wanted_none rfl⟩, ⟨does_loadCell (v := .int .u8 (((lb.getD 0 0).toNat : Nat) : Int)) rfl rfl ((hbb (by omega)).2.2 0 (by omega)) (hbb (by omega)).2.1 ld_bytD, wanted_none rfl⟩, ⟨does_convert rfl rfl (cv_b64 (byt_lt _ _)), wanted_none rfl⟩, ⟨does_binOp rfl rfl rfl (zd_sub_i64 (k := (((lb.getD 0 0).toNat : Nat) : Int)) (m := 160) (c := (((lb.getD 0 0).toNat : Nat) : Int) - 160) rfl (by omega) _ _), wanted_none rfl⟩, ⟨does_fieldAddr rfl rfl fa_der0, wanted_none rfl⟩, ⟨rfl, rfl, sto_at rfl rfl rfl (st_derK (u := 8)) sv_derK⟩, trivial⟩ ?_
          try clear H a W
          intro G14 a W H
          replace H : St 139 w a W [(58, .slice Ab nb cb), (59, .pointer (some ⟨gbx, obx + 0, none⟩)), (60, .int .u8 (((lb.getD 0 0).toNat : Nat) : Int)), (61, .int .i64 (((lb.getD 0 0).toNat : Nat) : Int)), (62, .int .i64 ((((lb.getD 0 0).toNat : Nat) : Int) - 160)), (63, .pointer (some ⟨g2, 0, none⟩)), (57, .bool true), (11, .pointer (some ⟨g2, 0, none⟩)), (10, .slice Ac nc cc), (8, .int .i64 ((se : Nat) : Int)), (4, .pointer (some ⟨g1, 0, none⟩)), (0, .slice Ab nb cb), (1, .int .i64 ((d + 1 : Nat) : Int))] [(g2, 27, (DH.mk 8 false 0 SL.no [] SL.no SL.no).cs), (g1, 27, DH.no.cs)] := H
          refine rgO H gs0 (rV rfl (does_fieldAddr rfl rfl fa_der2) <| rX [1] (c := (DH.mk 8 false ((((lb.getD 0 0).toNat : Nat) : Int) - 160) SL.no [] SL.no SL.no).cs) ⟨rfl, rfl⟩ rfl rfl rfl (st_derN (u := ((((lb.getD 0 0).toNat : Nat) : Int) - 160))) sv_derN <| rZ0 ?_)
          try clear H a W
          intro a W H
          replace H := H.km [0, 0, 0, 0, 0, 0, 0, 0, 1, 1, 1, 1, 0] []
          exact J15 _ _ (by rw [← hN, ← hK, ← hkt, if_pos hq16p, if_pos hq16p]; exact H.pick [0, 1, 2, 3, 4] [0, 1] rfl)
        | false =>
          rw [hq16] at H
          have hq16p := of_decide_eq_false hq16
          refine wp_cond_false (H.ev rfl) ?_
          refine wp_skip ?_
          exact J15 _ _ (by rw [← hN, ← hK, ← hkt, if_neg hq16p, if_neg hq16p]; exact H.pick [1, 2, 3, 4, 6] [0, 1] rfl)
      clear hK48
      cases hq17 : decide (160 ≤ (((lb.getD 0 0).toNat : Nat) : Int)) with
      | true =>
        have hq17p := of_decide_eq_true hq17
        refine rgP H gs0 (rS 1 rfl <| rV rfl (does_indexAddr rfl rfl rfl (ia_bytD (j := 0) (hbb (by omega)).1 (by omega))) <| rV rfl (does_loadCell (v := .int .u8 (((lb.getD 0 0).toNat : Nat) : Int)) rfl rfl ((hbb (by omega)).2.2 0 (by omega)) (hbb (by omega)).2.1 ld_bytD) <| rV rfl (does_binOp rfl rfl rfl (zd_geq_u8 (k := (((lb.getD 0 0).toNat : Nat) : Int)) (m := 160) hq17 _ _)) <| rS 2 rfl <| rV rfl (does_indexAddr rfl rfl rfl (ia_bytD (j := 0) (hbb (by omega)).1 (by omega))) <| rV rfl (does_loadCell (v := .int .u8 (((lb.getD 0 0).toNat : Nat) : Int)) rfl rfl ((hbb (by omega)).2.2 0 (by omega)) (hbb (by omega)).2.1 ld_bytD) <| rV rfl (does_binOp rfl rfl rfl (zd_leq_u8 (k := (((lb.getD 0 0).toNat : Nat) : Int)) (m := 190) rfl _ _)) <| rS 1 rfl <| rK [1, 0, 0, 0, 0, 0, 0, 0, 0, 0, 0, 0] [] [] <| rZ0 ?_)
        try clear H a W
        intro a W H
        exact J48 _ _ (by rw [show decide (160 ≤ (lb.getD 0 0).toNat ∧ (lb.getD 0 0).toNat ≤ 190) = (decide ((((lb.getD 0 0).toNat : Nat) : Int) ≤ 190)) from decide_eq_decide.2 (by omega)]; exact H.pick [0, 1, 2, 3, 4, 5, 6] [0, 1] rfl)
      | false =>
        have hq17p := of_decide_eq_false hq17
        refine rgP H gs0 (rS 1 rfl <| rV rfl (does_indexAddr rfl rfl rfl (ia_bytD (j := 0) (hbb (by omega)).1 (by omega))) <| rV rfl (does_loadCell (v := .int .u8 (((lb.getD 0 0).toNat : Nat) : Int)) rfl rfl ((hbb (by omega)).2.2 0 (by omega)) (hbb (by omega)).2.1 ld_bytD) <| rV rfl (does_binOp rfl rfl rfl (zd_geq_u8 (k := (((lb.getD 0 0).toNat : Nat) : Int)) (m := 160) hq17 _ _)) <| rS 6 rfl <| rK [1, 0, 0, 0, 0, 0, 0, 0, 0, 0, 0, 0] [] [] <| rZ0 ?_)
        try clear H a W
        intro a W H
        exact J48 _ _ (by rw [show decide (160 ≤ (lb.getD 0 0).toNat ∧ (lb.getD 0 0).toNat ≤ 190) = false from decide_eq_false (by omega)]; exact H.pick [0, 1, 2, 3, 4, 5, 6] [0, 1] rfl)
  | false =>
    rw [hq1] at H
    refine rgP H gs0 (rS 6 rfl <| rK [1, 0, 0, 0, 0, 0, 0] [] [] <| rZ0 ?_)
    try clear H a W
    intro a W H
    refine hK4 _ _ ?_
    clear hK4
    refine wp_cond_true (H.ev rfl) ?_
    refine sqR H gs0 fun Z_ z_ => rV rfl (does_build (ps := []) rfl rfl bd_der0) <| rW [1] ⟨rfl, rfl⟩ rfl rfl rfl (info_der (DH.mk 0 false 0 SL.no [] SL.no SL.no)) (size_der DH.no (DH.mk 0 false 0 SL.no [] SL.no SL.no)) (DH.mk 0 false 0 SL.no [] SL.no SL.no).one <| rK [1, 1, 1, 1, 1, 0] [] [] <| rS 1 rfl <| rK [1, 1, 1, 1, 1, 0] [] [] <| rS 1 rfl <| rK [1, 1, 0, 0] [] [] <| rN0 z_ ?_
    try clear H a W
    intro a W H
    refine wp_ret ?_
    repeat (first | (with_reducible refine then_ret ?_) | (with_reducible refine blk_ret ?_))
    refine end_cell_tt (p := 4) (q := 5) (r := 6) rfl rfl rfl rfl (k := 0) rfl Tryd.underlying27 rfl (info_der _) H (fun hb => ?_)
    replace H : St 139 w a W [(6, .bool false), (5, .int .i64 0), (8, .int .i64 ((se : Nat) : Int)), (7, .int .i64 ((sf : Nat) : Int)), (4, .pointer (some ⟨g1, 0, none⟩)), (0, .slice Ab nb cb), (1, .int .i64 ((d + 1 : Nat) : Int))] ([(g1, 27, (DH.mk 0 false 0 SL.no [] SL.no SL.no).cs)] ++ ([] : Hep)) := by rw [List.append_nil]; exact H
    refine ⟨_, ([] : Hep), rfl, hb, H.nr, (DH.mk 0 false 0 SL.no [] SL.no SL.no), _, _, rfl, ?_, ?_⟩
    · intro h_; cases h_
    · intro _
      exact readD_no (by unfold spanR at hsp; rw [if_neg (by rw [hq1]; decide)] at hsp; exact hsp)
theorem read_any : ∀ d, d ≤ 1000 → RdOk d
  | 0, _ => fun W P {A n c l} hP hb hn => read_zero W hP hb hn
  | d + 1, hd => fun W P {A n c l} hP hb hn => read_step W hP hb hn (by omega) (read_any d (by omega))
end Go.Proofs.YtiafcgoiolbdhaaDoor
namespace Go.Proofs.YtiafcgoiolbdhaaDoor
set_option linter.unusedVariables false
set_option linter.unusedSimpArgs false
set_option maxRecDepth 100000
open Go Go.RowKit
theorem andNot_all : (List.range 256).all (fun m => decide (bits .andNot .u8 (m : Int) 31 = ((32 * (m / 32) : Nat) : Int))) = true := by decide +kernel
theorem bd_andNot31 {m : Nat} (h : m < 256) (p q : Operand) (W : World) : (do eqGuard .andNot 5 p q (.int .u8 (m : Int)) (.int .u8 31); binOp .andNot 5 (.int .u8 (m : Int)) (.int .u8 31) : Sem Value).run Tryd.prog W = .ok (.int .u8 ((32 * (m / 32) : Nat) : Int)) W := by
  have e := of_decide_eq_true (List.all_eq_true.1 andNot_all m (List.mem_range.2 h))
  obtain ⟨y, hy⟩ : ∃ y, 32 * (m / 32) = y := ⟨_, rfl⟩
  rw [hy] at e ⊢
  go_simp
theorem bd_and31 {m : Nat} (h : m < 256) (p q : Operand) (W : World) : (do eqGuard .and 5 p q (.int .u8 (m : Int)) (.int .u8 31); binOp .and 5 (.int .u8 (m : Int)) (.int .u8 31) : Sem Value).run Tryd.prog W = .ok (.int .u8 ((m % 32 : Nat) : Int)) W := by
  have e0 : m &&& 31 = m % 32 := Nat.and_two_pow_sub_one_eq_mod m 5
  have e : bits .and .u8 (m : Int) 31 = (m : Int) % 32 := by
    have := u8_and_nat m 31 h (by decide)
    rw [e0] at this
    simpa using this
  go_simp
def tabA : Array Value := #[.int .u8 0, .int .u8 1, .int .u8 2, .int .u8 3, .int .u8 4, .int .u8 6, .int .u8 12, .int .u8 48, .int .u8 160, .int .u8 49, .int .u8 24]
theorem ld_tabA {w : World} (hc : ∀ i, i < 11 → w.cell? ⟨0, i, none⟩ = some (.int .u8 ((tabQ i : Nat) : Int))) : (Instr.loadAt 110 (.pointer (some ⟨0, 0, none⟩))).run Tryd.prog w = .ok (.agg tabA) w := by
  have hr : w.rangeAt 0 0 tabA.toList := fun j v hv => by
    have hj : j < 11 := by
      have := (List.getElem?_eq_some_iff.1 hv).1
      exact this
    rw [Nat.zero_add, hc j hj, ← hv]
    obtain rfl | rfl | rfl | rfl | rfl | rfl | rfl | rfl | rfl | rfl | rfl : j = 0 ∨ j = 1 ∨ j = 2 ∨ j = 3 ∨ j = 4 ∨ j = 5 ∨ j = 6 ∨ j = 7 ∨ j = 8 ∨ j = 9 ∨ j = 10 := by omega
    all_goals rfl
  have := run_loadAt_mid (P := Tryd.prog) w 0 0 110 tabA.toList _ hr Tryd.underlying110 rfl (by kernel_rfl)
  rwa [Array.toArray_toList] at this
theorem does_tabA {n : Nat} {w0 : World} {e : Env} {h : Hep} {Q : Exit → Act → World → Prop} {o : Oper} {x : Operand} (ho : o.op = .load 110 x) (hx : sev e x = some (.pointer (some ⟨0, 0, none⟩))) (hpg : PGt w0) : Does Tryd.prog Q n w0 e h o (.agg tabA) := does_run fun a w H => by
  unfold execOp
  have h1 := ld_tabA (w := w) (hpg.ext H.below).cell
  simp only [ho, H.ev hx, Sem.run_bind, h1, Result.andThen_ok, Sem.run_pure]
theorem ix_tabA {k : Nat} (h : k < 11) (W : World) : (Instr.index 110 (.agg tabA) (.int .i64 (k : Int))).run Tryd.prog W = .ok (.int .u8 ((tabQ k : Nat) : Int)) W := by
  obtain rfl | rfl | rfl | rfl | rfl | rfl | rfl | rfl | rfl | rfl | rfl : k = 0 ∨ k = 1 ∨ k = 2 ∨ k = 3 ∨ k = 4 ∨ k = 5 ∨ k = 6 ∨ k = 7 ∨ k = 8 ∨ k = 9 ∨ k = 10 := by omega
  all_goals kernel_rfl
theorem kind_find {m N : Nat} (hm : m < 256) (h5 : ¬ m / 32 = 5) (hpos : ∀ i, i < N → ¬ tabQ i = m) (hend : N = 11 ∨ N < 11 ∧ ¬ ¬ tabQ N = m) : kindQ m = if N = 11 then 0 else (N : Int) := by
  rcases hend with rfl | ⟨h1, h2⟩
  · rw [if_pos rfl]
    have h := fun i hi => hpos i hi
    have h0 : m ≠ 0 := fun e => h 0 (by omega) e.symm
    have h1 : m ≠ 1 := fun e => h 1 (by omega) e.symm
    have h2 : m ≠ 2 := fun e => h 2 (by omega) e.symm
    have h3 : m ≠ 3 := fun e => h 3 (by omega) e.symm
    have h4 : m ≠ 4 := fun e => h 4 (by omega) e.symm
    have h5_ : m ≠ 6 := fun e => h 5 (by omega) e.symm
    have h6 : m ≠ 12 := fun e => h 6 (by omega) e.symm
    have h7 : m ≠ 48 := fun e => h 7 (by omega) e.symm
    have h9 : m ≠ 49 := fun e => h 9 (by omega) e.symm
    have h10 : m ≠ 24 := fun e => h 10 (by omega) e.symm
    unfold kindQ
    simp only [h5, h0, h1, h2, h3, h4, h5_, h6, h7, h9, h10, if_false]
  · have h2 : tabQ N = m := Decidable.of_not_not h2
    subst h2
    rw [if_neg (by omega)]
    obtain rfl | rfl | rfl | rfl | rfl | rfl | rfl | rfl | rfl | rfl | rfl : N = 0 ∨ N = 1 ∨ N = 2 ∨ N = 3 ∨ N = 4 ∨ N = 5 ∨ N = 6 ∨ N = 7 ∨ N = 8 ∨ N = 9 ∨ N = 10 := by omega
    all_goals first | decide | (exfalso; exact h5 (by decide))
theorem kindQ_not {m N : Nat} (hm : m < 256) (h5 : ¬ m / 32 = 5) : tnQ m = 0 := by
  unfold tnQ
  rw [if_neg h5]
theorem bd_derKN (k n : Int) (W : World) : (Instr.build 27 [(0, .int .i64 k), (2, .int .i64 n)].toArray).run Tryd.prog W = .ok (.agg (DH.mk k false n SL.no [] SL.no SL.no).cs) W := by kernel_rfl
theorem cv_bI {x : Nat} (hx : x < 256) (W : World) : (convert 5 2 (.int .u8 (x : Int))).run Tryd.prog W = .ok (.int .i64 (x : Int)) W := by
  have e : IntKind.i64.wrap (x : Int) = (x : Int) := IntWalk.i64_in _ (by omega)
  go_simp
theorem ud_shlI {n s : Nat} (hs : s ≤ 64) (p q : Operand) (W : World) : (do eqGuard .shl 47 p q (.int .u64 (n : Int)) (.int .i64 (s : Int)); binOp .shl 47 (.int .u64 (n : Int)) (.int .i64 (s : Int)) : Sem Value).run Tryd.prog W = .ok (.int .u64 ((n * 2 ^ s % 18446744073709551616 : Nat) : Int)) W := by
  have h1 : (0 : Int) ≤ (s : Int) := by omega
  have h2 : (s : Int) ≤ 64 := by omega
  have e : IntKind.u64.wrap ((n : Int) * 2 ^ s) = (n : Int) * 2 ^ s % 18446744073709551616 := by
    have e1 : ∀ x : Int, IntKind.u64.wrap x = x % 18446744073709551616 := fun x => by simp [IntKind.wrap, IntKind.bits, IntKind.signed]
    rw [e1]
  go_simp
theorem zd_shrN {x : Int} {s : Nat} (hs : s ≤ 64) (p q : Operand) (W : World) : (do eqGuard .shr 2 p q (.int .i64 x) (.int .i64 (s : Int)); binOp .shr 2 (.int .i64 x) (.int .i64 (s : Int)) : Sem Value).run Tryd.prog W = .ok (.int .i64 (x.fdiv (2 ^ s))) W := by
  have h1 : (0 : Int) ≤ (s : Int) := by omega
  have h2 : (s : Int) ≤ 64 := by omega
  rw [Int.fdiv_eq_ediv_of_nonneg _ (Int.le_of_lt (Int.pow_pos (by decide)))]
  go_simp
/-- What arcs are read so far: the number that is not whole yet, the arcs. -/
def aqS (l : List UInt8) : Nat → Nat × List Nat
  | 0 => (0, [])
  | k + 1 => if 128 ≤ (l.getD k 0).toNat then (((aqS l k).1 * 128 + (l.getD k 0).toNat % 128) % 18446744073709551616, (aqS l k).2)
    else (0, if (aqS l k).2.isEmpty then [min ((((aqS l k).1 * 128 + (l.getD k 0).toNat % 128) % 18446744073709551616) / 40) 2, ((aqS l k).1 * 128 + (l.getD k 0).toNat % 128) % 18446744073709551616 - 40 * min ((((aqS l k).1 * 128 + (l.getD k 0).toNat % 128) % 18446744073709551616) / 40) 2]
      else (aqS l k).2 ++ [((aqS l k).1 * 128 + (l.getD k 0).toNat % 128) % 18446744073709551616])
def aqN (l : List UInt8) (k : Nat) : Nat := (aqS l k).1
def aqA (l : List UInt8) (k : Nat) : List Nat := (aqS l k).2
theorem aqN_lt (l : List UInt8) : ∀ k, aqN l k < 18446744073709551616
  | 0 => by unfold aqN aqS; omega
  | k + 1 => by
    unfold aqN aqS
    split
    · show (((aqS l k).1 * 128 + (l.getD k 0).toNat % 128) % 18446744073709551616) < _
      omega
    · show 0 < 18446744073709551616
      omega
theorem aqA_len (l : List UInt8) : ∀ k, (aqA l k).length ≤ 2 * k
  | 0 => Nat.le_refl _
  | k + 1 => by
    have ih := aqA_len l k
    unfold aqA at ih ⊢
    unfold aqS
    split
    · show (aqS l k).2.length ≤ _
      omega
    · show (if (aqS l k).2.isEmpty then _ else _ : List Nat).length ≤ _
      split
      · simp
        omega
      · rw [List.length_append, List.length_singleton]
        omega
theorem aqs_go (l : List UInt8) : ∀ k, k ≤ l.length → arcsQ (l.drop k) (aqN l k) (aqA l k) = arcsQ l 0 []
  | 0, _ => rfl
  | k + 1, hk => by
    rw [← aqs_go l k (by omega)]
    have e : l.drop k = l.getD k 0 :: l.drop (k + 1) := by
      rw [List.drop_eq_getElem_cons (by omega), List.getD_eq_getElem?_getD, List.getElem?_eq_getElem (by omega)]
      rfl
    rw [e, arcsQ]
    unfold aqN aqA
    conv => lhs; rw [aqS]
    by_cases h : 128 ≤ (l.getD k 0).toNat
    · rw [if_pos h, if_pos h]
    · rw [if_neg h, if_neg h]
theorem aqs_end (l : List UInt8) : arcsQ l 0 [] = aqA l l.length := by
  rw [← aqs_go l l.length (Nat.le_refl _), List.drop_length]
  rfl
theorem aqN_0 (l : List UInt8) : aqN l 0 = 0 := rfl
theorem aqA_0 (l : List UInt8) : aqA l 0 = [] := rfl
theorem aq_more {l : List UInt8} {k : Nat} (h : 128 ≤ (l.getD k 0).toNat) : aqN l (k + 1) = (aqN l k * 128 + (l.getD k 0).toNat % 128) % 18446744073709551616 ∧ aqA l (k + 1) = aqA l k := by
  unfold aqN aqA
  conv => lhs; rw [aqS]
  conv => rhs; lhs; rw [aqS]
  rw [if_pos h]
  exact ⟨rfl, rfl⟩
theorem aq_first {l : List UInt8} {k : Nat} (h : ¬ 128 ≤ (l.getD k 0).toNat) (h0 : (aqA l k).length = 0) {m f : Nat} (hm : m = (aqN l k * 128 + (l.getD k 0).toNat % 128) % 18446744073709551616) (hf : f = min (m / 40) 2) : aqN l (k + 1) = 0 ∧ aqA l (k + 1) = [] ++ [f, m - 40 * f] := by
  subst hf
  subst hm
  have e : (aqA l k).isEmpty = true := by rw [List.eq_nil_of_length_eq_zero h0]; rfl
  unfold aqN aqA at *
  conv => lhs; rw [aqS]
  conv => rhs; lhs; rw [aqS]
  rw [if_neg h, if_pos e]
  exact ⟨rfl, rfl⟩
theorem aq_next {l : List UInt8} {k : Nat} (h : ¬ 128 ≤ (l.getD k 0).toNat) (h0 : ¬ (aqA l k).length = 0) {m : Nat} (hm : m = (aqN l k * 128 + (l.getD k 0).toNat % 128) % 18446744073709551616) : aqN l (k + 1) = 0 ∧ aqA l (k + 1) = aqA l k ++ [m] := by
  subst hm
  have e : (aqA l k).isEmpty = false := by
    cases hq : aqA l k with
    | nil => rw [hq] at h0; exact absurd rfl h0
    | cons x r => rfl
  unfold aqN aqA at *
  conv => lhs; rw [aqS]
  conv => rhs; lhs; rw [aqS]
  rw [if_neg h, e]
  exact ⟨rfl, rfl⟩
theorem ud_shl7 (n : Nat) (p q : Operand) (W : World) : (do eqGuard .shl 47 p q (.int .u64 (n : Int)) (.int .u64 7); binOp .shl 47 (.int .u64 (n : Int)) (.int .u64 7) : Sem Value).run Tryd.prog W = .ok (.int .u64 ((n * 128 % 18446744073709551616 : Nat) : Int)) W := by
  have e : IntKind.u64.wrap ((n : Int) * 128) = (n : Int) * 128 % 18446744073709551616 := by
    have e1 : ∀ x : Int, IntKind.u64.wrap x = x % 18446744073709551616 := fun x => by simp [IntKind.wrap, IntKind.bits, IntKind.signed]
    rw [e1]
  go_simp
theorem bd_and127 {m : Nat} (h : m < 256) (p q : Operand) (W : World) : (do eqGuard .and 5 p q (.int .u8 (m : Int)) (.int .u8 127); binOp .and 5 (.int .u8 (m : Int)) (.int .u8 127) : Sem Value).run Tryd.prog W = .ok (.int .u8 ((m % 128 : Nat) : Int)) W := by
  have e0 : m &&& 127 = m % 128 := Nat.and_two_pow_sub_one_eq_mod m 7
  have e : bits .and .u8 (m : Int) 127 = (m : Int) % 128 := by
    have := u8_and_nat m 127 h (by decide)
    rw [e0] at this
    simpa using this
  go_simp
theorem does_minU {P : Program} {n : Nat} {w0 : World} {e : Env} {h : Hep} {Q : Exit → Act → World → Prop} {o : Oper} {x y : Operand} {k m : Nat} {tys : Array TypeId} (ho : o.op = .call { callee := .builtin .min, args := #[x, y], argTypes := tys }) (hx : sev e x = some (.int .u64 (k : Int))) (hy : sev e y = some (.int .u64 (m : Int))) : Does P Q n w0 e h o (.int .u64 ((min k m : Nat) : Int)) := does_run fun a w H => by
  have e2 : (if m < k then (m : Int) else (k : Int)) = ((min k m : Nat) : Int) := by split <;> omega
  simp [execOp, ho, resolve, invoke, builtin, H.ev hx, H.ev hy, Builtin.min_, Builtin.min2, Result.andThen, e2]
attribute [local irreducible] aqN aqA bvs byteD dvD beD putF updF rb takeQ numQ accD tabQ kindQ tnQ
theorem tab8 : tabQ 8 = 160 := by
  unfold tabQ
  rfl
theorem kind8 {m : Nat} (h : m / 32 = 5) : kindQ m = 8 := by
  unfold kindQ
  exact if_pos h
theorem tn8 {m : Nat} (h : m / 32 = 5) : tnQ m = ((m % 32 : Nat) : Int) := by
  unfold tnQ
  exact if_pos h
set_option maxHeartbeats 4000000 in
theorem tagged_any (m : Nat) (w : World) (hm : m < 256) (hpg : PGt w) : Calls Tryd.prog 53 #[.int .u8 ((m : Nat) : Int)] w (fun rr w' => rr = .returned (.agg (DH.mk (kindQ m) false (tnQ m) SL.no [] SL.no SL.no).cs) ∧ Below w.heap.size w w') := by
  refine calls_st (vs := [.int .u8 ((m : Nat) : Int)]) 26 Tryd.func53 rfl Tryd.ntmps53 rfl (fun a W H => ?_)
  replace H : St 26 w a W [(0, .int .u8 ((m : Nat) : Int))] [] := H
  refine sqR H gs0 fun Z_ z_ => rA rfl rfl al_der fun g1 => rN0 z_ ?_
  try clear H a W
  intro a W H
  refine wp_seq_k (fun K2 hK2 => ?_)
  refine sqR H gs0 fun Z_ z_ => rS 1 rfl <| rV rfl (does_binOp rfl rfl rfl (bd_andNot31 (m := m) (by omega) _ _)) <| rV rfl (does_indexAddr rfl rfl rfl (ia_tabQ (k := 8) (by decide) (by decide))) <| rV rfl (does_loadCell (v := .int .u8 ((tabQ 8 : Nat) : Int)) rfl rfl (hpg.cell 8 (by decide)) hpg.lt ld_tabQ) <| rV rfl (does_binOp rfl rfl rfl (zd_eql_u8 (k := ((32 * (m / 32) : Nat) : Int)) (m := ((tabQ 8 : Nat) : Int)) rfl _ _)) <| rK [1, 0, 0, 0, 0] [] [] <| rN0 z_ ?_
  try clear H a W
  intro a W H
  cases hq1 : decide (((32 * (m / 32) : Nat) : Int) = ((tabQ 8 : Nat) : Int)) with
  | true =>
    rw [hq1] at H
    have hq1p := of_decide_eq_true hq1
    refine wp_cond_true (H.ev rfl) ?_
    refine sqR H gs0 fun Z_ z_ => rS 1 rfl <| rV rfl (does_binOp rfl rfl rfl (bd_and31 (m := m) (by omega) _ _)) <| rV rfl (does_convert rfl rfl (cv_bI (by omega))) <| rV rfl (does_build rfl rfl (bd_derKN 8 ((m % 32 : Nat) : Int))) <| rW [1] ⟨rfl, rfl⟩ rfl rfl rfl (info_der (DH.mk 8 false ((m % 32 : Nat) : Int) SL.no [] SL.no SL.no)) (size_der DH.no (DH.mk 8 false ((m % 32 : Nat) : Int) SL.no [] SL.no SL.no)) (DH.mk 8 false ((m % 32 : Nat) : Int) SL.no [] SL.no SL.no).one <| rK [0, 0, 0, 0, 0] [] [] <| rN0 z_ ?_
    try clear H a W
    intro a W H
    refine wp_ret ?_
    repeat (first | (with_reducible refine then_ret ?_) | (with_reducible refine blk_ret ?_))
    refine end_cell (p := 2) rfl rfl (k := 0) rfl Tryd.underlying27 rfl (info_der _) H (fun hb => ?_)
    have h5_ : m / 32 = 5 := by have e8_ : tabQ 8 = 160 := tab8; omega
    refine ⟨?_, hb⟩
    rw [show kindQ m = 8 from kind8 h5_, show tnQ m = ((m % 32 : Nat) : Int) from tn8 h5_]
  | false =>
    rw [hq1] at H
    have hq1p := of_decide_eq_false hq1
    refine wp_cond_false (H.ev rfl) ?_
    refine wp_skip ?_
    refine hK2 _ _ ?_
    clear hK2
    refine wp_seq_k (fun K5 hK5 => ?_)
    refine sqR H gs0 fun Z_ z_ => rV rfl (does_tabA rfl rfl hpg) <| rS 1 rfl <| rK [1, 1, 0] [] [] <| rN0 z_ ?_
    try clear H a W
    intro a W H
    obtain ⟨N, hN, hpos, hend⟩ := rounds_at (fun i => ¬ tabQ i = m) 11
    refine wp_block ?_
    replace H : St 26 w a W [(15, .int .i64 ((0 : Nat) : Int)), (14, .agg tabA), (2, .pointer (some ⟨g1, 0, none⟩)), (0, .int .u8 ((m : Nat) : Int))] [(g1, 27, DH.no.cs)] := H.pick [0, 1, 2, 3] [0] rfl
    refine wp_rounds N (fun k a W => St 26 w a W [(15, .int .i64 ((k : Nat) : Int)), (14, .agg tabA), (2, .pointer (some ⟨g1, 0, none⟩)), (0, .int .u8 ((m : Nat) : Int))] [(g1, 27, DH.no.cs)]) (k0 := 0) H (by omega) ?_
    try clear H a W
    intro k a W hk H
    by_cases hk2 : k < N
    · have hp_ := hpos k hk2
      refine sqR H gs0 fun Z_ z_ => rV rfl (does_binOp rfl rfl rfl (zd_lss_int (k := ((k : Nat) : Int)) (m := 11) (decide_eq_true (by omega)) _ _)) <| rN0 z_ ?_
      try clear H a W
      intro a W H
      refine cdT H rfl ?_
      refine wp_seq_k (fun K8 hK8 => ?_)
      refine wp_block ?_
      refine sqR H gs0 fun Z_ z_ => rS 1 rfl <| rV rfl (does_index rfl rfl rfl (ix_tabA (k := k) (by omega))) <| rS 2 rfl <| rN0 z_ ?_
      try clear H a W
      intro a W H
      refine sqR H gs0 fun Z_ z_ => rS 2 rfl <| rV rfl (does_binOp rfl rfl rfl (zd_eql_u8 (k := ((tabQ k : Nat) : Int)) (m := ((m : Nat) : Int)) (decide_eq_false (by omega)) _ _)) <| rN0 z_ ?_
      try clear H a W
      intro a W H
      refine wp_cond_false (H.ev rfl) ?_
      refine wp_skip ?_
      refine blk_normal ?_
      refine hK8 _ _ ?_
      clear hK8
      refine rgP H gs0 (rV rfl (does_binOp rfl rfl rfl (zd_add_int (k := ((k : Nat) : Int)) (m := 1) (c := ((k + 1 : Nat) : Int)) (by omega) (by omega) _ _)) <| rK [1, 1, 1, 1, 1, 1, 1, 1, 1, 0] [] [] <| rS 1 rfl <| rZ0 ?_)
      try clear H a W
      intro a W H
      refine ⟨k + 1, by omega, by omega, ?_⟩
      show St 26 w a W [(15, .int .i64 ((k + 1 : Nat) : Int)), (14, .agg tabA), (2, .pointer (some ⟨g1, 0, none⟩)), (0, .int .u8 ((m : Nat) : Int))] [(g1, 27, DH.no.cs)]
      exact H.pick [0, 10, 11, 12] [0] rfl
    · obtain rfl : N = k := by omega
      rcases hend with hend | hend
      · refine sqR H gs0 fun Z_ z_ => rV rfl (does_binOp rfl rfl rfl (zd_lss_int (k := ((N : Nat) : Int)) (m := 11) (decide_eq_false (by omega)) _ _)) <| rN0 z_ ?_
        try clear H a W
        intro a W H
        refine wp_seq_k (fun K12 hK12 => ?_)
        refine wp_cond_false (H.ev rfl) ?_
        refine wp_exit ?_
        repeat (first | (with_reducible refine then_exit ?_) | (with_reducible refine blk_pass (by decide) ?_))
        refine blk_exit ?_
        refine hK5 _ _ ?_
        clear hK5
        refine sqR H gs0 fun Z_ z_ => rV rfl (does_build (ps := []) rfl rfl bd_der0) <| rW [1] ⟨rfl, rfl⟩ rfl rfl rfl (info_der (DH.mk 0 false 0 SL.no [] SL.no SL.no)) (size_der DH.no (DH.mk 0 false 0 SL.no [] SL.no SL.no)) (DH.mk 0 false 0 SL.no [] SL.no SL.no).one <| rK [0, 0, 0, 0, 1, 0] [] [] <| rN0 z_ ?_
        try clear H a W
        intro a W H
        refine wp_ret ?_
        repeat (first | (with_reducible refine then_ret ?_) | (with_reducible refine blk_ret ?_))
        refine end_cell (p := 2) rfl rfl (k := 0) rfl Tryd.underlying27 rfl (info_der _) H (fun hb => ?_)
        have h5_ : ¬ m / 32 = 5 := by have e8_ : tabQ 8 = 160 := tab8; omega
        refine ⟨?_, hb⟩
        rw [kindQ_not (N := N) hm h5_, kind_find hm h5_ hpos (by first | exact .inl hend | exact .inr ⟨by omega, by omega⟩)]
        first | rw [if_pos (by omega)] | rw [if_neg (by omega)]
      · refine sqR H gs0 fun Z_ z_ => rV rfl (does_binOp rfl rfl rfl (zd_lss_int (k := ((N : Nat) : Int)) (m := 11) (decide_eq_true (by omega)) _ _)) <| rN0 z_ ?_
        try clear H a W
        intro a W H
        refine cdT H rfl ?_
        refine wp_seq_k (fun K15 hK15 => ?_)
        refine wp_block ?_
        refine sqR H gs0 fun Z_ z_ => rS 1 rfl <| rV rfl (does_index rfl rfl rfl (ix_tabA (k := N) (by omega))) <| rS 2 rfl <| rK [1, 1, 0, 0, 0, 1, 0] [] [] <| rN0 z_ ?_
        try clear H a W
        intro a W H
        refine sqR H gs0 fun Z_ z_ => rS 2 rfl <| rV rfl (does_binOp rfl rfl rfl (zd_eql_u8 (k := ((tabQ N : Nat) : Int)) (m := ((m : Nat) : Int)) (decide_eq_true (by omega)) _ _)) <| rK [1, 0, 0, 0, 1, 1, 1, 0] [] [] <| rN0 z_ ?_
        try clear H a W
        intro a W H
        refine wp_cond_true (H.ev rfl) ?_
        refine sqR H gs0 fun Z_ z_ => rS 1 rfl <| rV rfl (does_build rfl rfl (bd_derK ((N : Nat) : Int))) <| rW [1] ⟨rfl, rfl⟩ rfl rfl rfl (info_der (DH.mk ((N : Nat) : Int) false 0 SL.no [] SL.no SL.no)) (size_der DH.no (DH.mk ((N : Nat) : Int) false 0 SL.no [] SL.no SL.no)) (DH.mk ((N : Nat) : Int) false 0 SL.no [] SL.no SL.no).one <| rK [0, 0, 0, 0] [] [] <| rN0 z_ ?_
        try clear H a W
        intro a W H
        refine wp_ret ?_
        repeat (first | (with_reducible refine then_ret ?_) | (with_reducible refine blk_ret ?_))
        refine end_cell (p := 2) rfl rfl (k := 0) rfl Tryd.underlying27 rfl (info_der _) H (fun hb => ?_)
        have h5_ : ¬ m / 32 = 5 := by have e8_ : tabQ 8 = 160 := tab8; omega
        refine ⟨?_, hb⟩
        rw [kindQ_not (N := N) hm h5_, kind_find hm h5_ hpos (by first | exact .inl hend | exact .inr ⟨by omega, by omega⟩)]
        first | rw [if_pos (by omega)] | rw [if_neg (by omega)]
theorem intQ_yes {b : List UInt8} (h : gokQ b = true) : intQ b = (s64 (accD b 0 * 2 ^ (64 - 8 * b.length) % 18446744073709551616)).fdiv (2 ^ (64 - 8 * b.length)) := if_pos (of_decide_eq_true h)
theorem intQ_no {b : List UInt8} (h : gokQ b = false) : intQ b = 0 := if_neg (of_decide_eq_false h)
set_option maxHeartbeats 4000000 in
theorem int_of {Ab : Option Addr} {nb cb : Nat} {lb : List UInt8} (w : World) (hFb : BF lb (.slice Ab nb cb) w) (hlb : lb.length = nb) (hnb : nb ≤ 900000) : Calls Tryd.prog 76 #[.slice Ab nb cb] w (fun rr w' => rr = .returned (.int .i64 (intQ lb)) ∧ Below w.heap.size w w') := by
  refine calls_st (vs := [.slice Ab nb cb]) 23 Tryd.func76 rfl Tryd.ntmps76 rfl (fun a W H => ?_)
  replace H : St 23 w a W [(0, .slice Ab nb cb)] [] := H
  refine sqR H gs0 fun Z_ z_ => rS 1 rfl <| rN0 z_ ?_
  try clear H a W
  intro a W H
  refine wp_seq_k (fun K2 hK2 => ?_)
  cases hq1 : gokQ lb with
  | true =>
    refine rgP H gs0 (rS 1 rfl <| rV rfl (does_call rfl ⟨_, Tryd.func73, by kernel_rfl⟩ rfl (fun W hb => by have h_ := get_any (w := W) (hFb.below hb) (by omega); rw [gok_yes hq1] at h_; exact h_)) <| rS 5 rfl <| rK [1, 1, 0, 0, 0, 0, 0] [] [] <| rZ0 ?_)
    try clear H a W
    intro a W H
    refine hK2 _ _ ?_
    clear hK2
    refine wp_seq_k (fun K3 hK3 => ?_)
    refine sqR H gs0 fun Z_ z_ => rS 1 rfl <| rV rfl (does_binOp rfl rfl rfl (er_neq (k := 0) (m := 0) (decide_eq_false (by decide)) _ _)) <| rK [1, 0, 0] [] [] <| rN0 z_ ?_
    try clear H a W
    intro a W H
    refine wp_cond_false (H.ev rfl) ?_
    refine wp_skip ?_
    refine hK3 _ _ ?_
    clear hK3
    refine wp_seq_k (fun K5 hK5 => ?_)
    have hnb8 : 1 ≤ nb ∧ nb ≤ 8 := by have h_ : 1 ≤ lb.length ∧ lb.length ≤ 8 := of_decide_eq_true hq1; omega
    refine rgP H gs0 (rS 1 rfl <| rV rfl (does_len Tryd.underlying23 rfl rfl) <| rV rfl (does_binOp rfl rfl rfl (zd_mulE (k := nb) (by omega) _ _)) <| rV rfl (does_binOp rfl rfl rfl (zd_sub_int (k := 64) (m := ((nb * 8 : Nat) : Int)) (c := ((64 - (nb * 8) : Nat) : Int)) (by omega) (by omega) _ _)) <| rS 1 rfl <| rK [1, 0, 0, 0, 0, 0, 1, 1, 0] [] [] <| rZ0 ?_)
    try clear H a W
    intro a W H
    obtain ⟨ab, hab⟩ : ∃ ab, 64 - nb * 8 = ab := ⟨_, rfl⟩
    try rw [show 64 - (nb * 8) = ab from hab] at H
    replace H : St 23 w a W [(5, .int .i64 ((ab : Nat) : Int)), (3, .int .u64 ((accD lb 0 : Nat) : Int)), (2, .int .i64 0)] [] := H
    have hac_ : accD lb 0 < 18446744073709551616 := accD_lt _ _ (by decide)
    refine hK5 _ _ ?_
    clear hK5
    refine sqR H gs0 fun Z_ z_ => rS 2 rfl <| rV rfl (does_binOp rfl rfl rfl (ud_shlI (s := ab) (by omega) _ _)) <| rV rfl (does_convert rfl rfl (cv_s64 (by omega))) <| rS 1 rfl <| rV rfl (does_binOp rfl rfl rfl (zd_shrN (s := ab) (by omega) _ _)) <| rK [1, 1, 1, 1, 1, 1, 1, 1, 0] [] [] <| rS 1 rfl <| rK [1, 0, 0, 0, 0, 0, 0, 0, 0] [] [] <| rN0 z_ ?_
    try clear H a W
    intro a W H
    refine wp_ret ?_
    repeat (first | (with_reducible refine then_ret ?_) | (with_reducible refine blk_ret ?_))
    refine end_tmp (p := 2) rfl rfl H (fun hb => ?_)
    exact ⟨by rw [intQ_yes hq1, show 64 - 8 * lb.length = ab by omega], hb⟩
  | false =>
    refine rgP H gs0 (rS 1 rfl <| rV rfl (does_call rfl ⟨_, Tryd.func73, by kernel_rfl⟩ rfl (fun W hb => by have h_ := get_any (w := W) (hFb.below hb) (by omega); rw [gok_no hq1] at h_; exact h_)) <| rS 5 rfl <| rK [1, 1, 0, 0, 0, 0, 0] [] [] <| rZ0 ?_)
    try clear H a W
    intro a W H
    refine hK2 _ _ ?_
    clear hK2
    refine wp_seq_k (fun K7 hK7 => ?_)
    refine sqR H gs0 fun Z_ z_ => rS 1 rfl <| rV rfl (does_binOp rfl rfl rfl (er_neq (k := 2) (m := 0) (decide_eq_true (by decide)) _ _)) <| rK [1, 0, 0] [] [] <| rN0 z_ ?_
    try clear H a W
    intro a W H
    refine wp_cond_true (H.ev rfl) ?_
    refine sqR H gs0 fun Z_ z_ => rK [1, 1, 0] [] [] <| rS 1 rfl <| rK [1, 0] [] [] <| rN0 z_ ?_
    try clear H a W
    intro a W H
    refine wp_ret ?_
    repeat (first | (with_reducible refine then_ret ?_) | (with_reducible refine blk_ret ?_))
    refine end_tmp (p := 2) rfl rfl H (fun hb => ?_)
    exact ⟨by rw [intQ_no hq1], hb⟩
set_option maxHeartbeats 4000000 in
theorem darcs_walk {lb : List UInt8} {Ab : Option Addr} {nb cb gb ob : Nat} (w : World) (hb1 : nb ≤ 100000) (hlb : lb.length = nb) (hnb : nb < 9223372036854775808) (hbb : 0 < nb → Ab = some ⟨gb, ob, none⟩ ∧ gb < w.heap.size ∧ ∀ i, i < nb → w.cell? ⟨gb, ob + i, none⟩ = some (.int .u8 (((lb.getD i 0).toNat : Nat) : Int))) : Calls Tryd.prog 77 #[.slice Ab nb cb] w (fun rr w' => ∃ v, rr = .returned v ∧ Below w.heap.size w w' ∧ w'.ownsRow w.heap.size 47 1 v (arcsQ lb 0 []).length ((arcsQ lb 0 []).map nvD)) := by
  refine calls_st (vs := [.slice Ab nb cb]) 42 Tryd.func77 rfl Tryd.ntmps77 rfl (fun a W H => ?_)
  replace H : St 42 w a W [(0, .slice Ab nb cb)] [] := H
  refine sqR H gs0 fun Z_ z_ => rS 1 rfl <| rN0 z_ ?_
  try clear H a W
  intro a W H
  refine sqR H gs0 fun Z_ z_ => rS 1 rfl <| rN0 z_ ?_
  try clear H a W
  intro a W H
  refine sqR H gs0 fun Z_ z_ => rS 1 rfl <| rN0 z_ ?_
  try clear H a W
  intro a W H
  refine wp_seq_k (fun K4 hK4 => ?_)
  refine sqR H gs0 fun Z_ z_ => rS 1 rfl <| rV rfl (does_len Tryd.underlying23 rfl rfl) <| rS 1 rfl <| rK [1, 1, 1, 1, 1, 1, 0] [] [] <| rN0 z_ ?_
  try clear H a W
  intro a W H
  refine wp_block ?_
  rw [show Value.int .u64 0 = .int .u64 ((aqN lb 0 : Nat) : Int) by rw [aqN_0]; rfl] at H
  replace H : St 42 w a W [(10, .int .i64 ((0 : Nat) : Int)), (4, .int .u64 ((aqN lb 0 : Nat) : Int)), (3, .slice none 0 0), (9, .int .i64 ((nb : Nat) : Int)), (8, .slice Ab nb cb), (2, .slice none 0 0)] [] := H.pick [0, 3, 4, 1, 2, 5] [] rfl
  refine wp_rounds nb (fun k a W => ∃ vo, NF w.heap.size [] (aqA lb k) vo W ∧ St 42 w a W [(10, .int .i64 ((k : Nat) : Int)), (4, .int .u64 ((aqN lb k : Nat) : Int)), (3, vo), (9, .int .i64 ((nb : Nat) : Int)), (8, .slice Ab nb cb), (2, .slice none 0 0)] []) (k0 := 0) (show ∃ vo, NF w.heap.size [] (aqA lb 0) vo W ∧ St 42 w a W [(10, .int .i64 ((0 : Nat) : Int)), (4, .int .u64 ((aqN lb 0 : Nat) : Int)), (3, vo), (9, .int .i64 ((nb : Nat) : Int)), (8, .slice Ab nb cb), (2, .slice none 0 0)] [] from ⟨_, (by rw [aqA_0]; exact nf_nil _ _ _), H⟩) (by omega) ?_
  try clear H a W
  intro k a W hk H_
  obtain ⟨vo, hout, H⟩ := H_
  by_cases hk2 : k < nb
  · have hn_ := aqN_lt lb k
    have hl_ := aqA_len lb k
    have hyk_ := byt_lt lb k
    refine sqR H (gsC hout gs0) fun Z_ z_ => rV rfl (does_binOp rfl rfl rfl (zd_lss_int (k := ((k : Nat) : Int)) (m := ((nb : Nat) : Int)) (decide_eq_true (by omega)) _ _)) <| rN z_ ?_
    try clear hout H a W
    rintro a W H ⟨hout, -⟩
    refine cdT H rfl ?_
    refine wp_seq_k (fun K7 hK7 => ?_)
    refine wp_block ?_
    refine sqR H (gsC hout gs0) fun Z_ z_ => rV rfl (does_indexAddr rfl rfl rfl (ia_bytD (j := k) (hbb (by omega)).1 (by omega))) <| rV rfl (does_loadCell (v := .int .u8 (((lb.getD k 0).toNat : Nat) : Int)) rfl rfl ((hbb (by omega)).2.2 k (by omega)) (hbb (by omega)).2.1 ld_bytD) <| rS 1 rfl <| rN z_ ?_
    try clear hout H a W
    rintro a W H ⟨hout, -⟩
    refine sqR H (gsC hout gs0) fun Z_ z_ => rS 1 rfl <| rV rfl (does_binOp rfl rfl rfl (ud_shl7 _ _ _)) <| rS 1 rfl <| rV rfl (does_binOp rfl rfl rfl (bd_and127 (m := (lb.getD k 0).toNat) (byt_lt _ _) _ _)) <| rV rfl (does_convert rfl rfl (cv_bU (by omega))) <| rV rfl (does_binOp rfl rfl rfl (ud_or (k := ((aqN lb k) * 128 % 18446744073709551616) / 128) (c := 128) (x := ((lb.getD k 0).toNat) % 128) (m := (aqN lb k) * 128 % 18446744073709551616) ⟨7, rfl⟩ (by omega) (by omega) (by omega) _ _)) <| rK [1, 1, 1, 1, 1, 1, 1, 1, 1, 1, 1, 0] [] [] <| rS 1 rfl <| rN z_ ?_
    try clear hout H a W
    rintro a W H ⟨hout, -⟩
    refine wp_seq_k (fun K10 hK10 => ?_)
    refine sqR H (gsC hout gs0) fun Z_ z_ => rS 1 rfl <| rV rfl (does_binOp rfl rfl rfl (zd_geq_u8 (k := (((lb.getD k 0).toNat : Nat) : Int)) (m := 128) rfl _ _)) <| rN z_ ?_
    try clear hout H a W
    rintro a W H ⟨hout, -⟩
    cases hq1 : decide (128 ≤ (((lb.getD k 0).toNat : Nat) : Int)) with
    | true =>
      rw [hq1] at H
      have hq1p := of_decide_eq_true hq1
      refine wp_cond_true (H.ev rfl) ?_
      refine wp_exit ?_
      repeat (first | (with_reducible refine then_exit ?_) | (with_reducible refine blk_pass (by decide) ?_))
      refine blk_exit ?_
      refine hK7 _ _ ?_
      clear hK7
      refine rgP H (gsC hout gs0) (rV rfl (does_binOp rfl rfl rfl (zd_add_int (k := ((k : Nat) : Int)) (m := 1) (c := ((k + 1 : Nat) : Int)) (by omega) (by omega) _ _)) <| rK [1, 1, 1, 1, 1, 1, 1, 1, 1, 1, 1, 1, 1, 1, 0] [] [] <| rS 1 rfl <| rZ ?_)
      try clear hout H a W
      rintro a W H ⟨hout, -⟩
      have hmm_ : (aqN lb k * 128 + (lb.getD k 0).toNat % 128) % 18446744073709551616 = aqN lb k * 128 % 18446744073709551616 + (lb.getD k 0).toNat % 128 := by omega
      have h_ := aq_more (l := lb) (k := k) (by omega)
      refine ⟨k + 1, by omega, by omega, ?_⟩
      show ∃ vo, NF w.heap.size [] (aqA lb (k + 1)) vo W ∧ St 42 w a W [(10, .int .i64 ((k + 1 : Nat) : Int)), (4, .int .u64 ((aqN lb (k + 1) : Nat) : Int)), (3, vo), (9, .int .i64 ((nb : Nat) : Int)), (8, .slice Ab nb cb), (2, .slice none 0 0)] []
      refine ⟨_, (by rw [h_.2]; exact hout), ?_⟩
      rw [h_.1]
      rw [hmm_]
      exact H.pick [0, 4, 15, 16, 17, 18] [] rfl
    | false =>
      rw [hq1] at H
      have hq1p := of_decide_eq_false hq1
      refine wp_cond_false (H.ev rfl) ?_
      refine wp_skip ?_
      refine hK10 _ _ ?_
      clear hK10
      refine wp_seq_k (fun K12 hK12 => ?_)
      refine sqR H (gsC hout gs0) fun Z_ z_ => rS 1 rfl <| rOV rfl (fun a W H ⟨hout, _⟩ => ob_lenN H (wanted_none rfl) rfl rfl hout) <| rV rfl (does_binOp rfl rfl rfl (zd_eql_int (k := (((aqA lb k).length : Nat) : Int)) (m := 0) rfl _ _)) <| rN z_ ?_
      try clear hout H a W
      rintro a W H ⟨hout, -⟩
      cases hq2 : decide ((((aqA lb k).length : Nat) : Int) = 0) with
      | true =>
        rw [hq2] at H
        have hq2p := of_decide_eq_true hq2
        refine wp_cond_true (H.ev rfl) ?_
        refine sqR H (gsC hout gs0) fun Z_ z_ => rS 1 rfl <| rV rfl (does_binOp rfl rfl rfl (ud_quo (k := ((aqN lb k) * 128 % 18446744073709551616 + ((lb.getD k 0).toNat) % 128)) (m := 40) (by omega) (by omega) _ _)) <| rV rfl (does_minU (k := (((aqN lb k) * 128 % 18446744073709551616 + ((lb.getD k 0).toNat) % 128) / 40)) (m := 2) rfl rfl rfl) <| rS 1 rfl <| rN z_ ?_
        try clear hout H a W
        rintro a W H ⟨hout, -⟩
        refine wp_seq_k (fun K15 hK15 => ?_)
        refine rgP H (gsC hout gs0) (rS 2 rfl <| rO rfl (fun a W H _ => ob_newN1 (x := min (((aqN lb k) * 128 % 18446744073709551616 + ((lb.getD k 0).toNat) % 128) / 40) 2) (by omega) H (wanted_none rfl) rfl rfl) fun v30 => rI ?_)
        try clear hout H a W
        rintro a W H ⟨hv30, hout, -⟩
        refine pl_R (R := WRr w.heap.size []) (F := NF w.heap.size [] ((aqA lb k) ++ [min (((aqN lb k) * 128 % 18446744073709551616 + ((lb.getD k 0).toNat) % 128) / 40) 2])) wrr_st (ob_appN H (wanted_none rfl) rfl rfl rfl hout hv30 (by simp) (by simp only [List.length_append, List.length_cons, List.length_nil]; omega)) rfl rfl rfl H ?_
        try clear H a W
        intro v31 a W hv31 hR_ H
        clear hR_
        replace H : St 42 w a W [(31, v31), (30, v30), (29, .int .u64 ((min (((aqN lb k) * 128 % 18446744073709551616 + ((lb.getD k 0).toNat) % 128) / 40) 2 : Nat) : Int)), (28, vo), (7, .int .u64 ((min (((aqN lb k) * 128 % 18446744073709551616 + ((lb.getD k 0).toNat) % 128) / 40) 2 : Nat) : Int)), (27, .int .u64 ((min (((aqN lb k) * 128 % 18446744073709551616 + ((lb.getD k 0).toNat) % 128) / 40) 2 : Nat) : Int)), (26, .int .u64 ((((aqN lb k) * 128 % 18446744073709551616 + ((lb.getD k 0).toNat) % 128) / 40 : Nat) : Int)), (25, .int .u64 (((aqN lb k) * 128 % 18446744073709551616 + ((lb.getD k 0).toNat) % 128 : Nat) : Int)), (24, .bool true), (23, .int .i64 (((aqA lb k).length : Nat) : Int)), (22, vo), (21, .bool false), (20, .int .u8 (((lb.getD k 0).toNat : Nat) : Int)), (4, .int .u64 (((aqN lb k) * 128 % 18446744073709551616 + ((lb.getD k 0).toNat) % 128 : Nat) : Int)), (19, .int .u64 (((aqN lb k) * 128 % 18446744073709551616 + ((lb.getD k 0).toNat) % 128 : Nat) : Int)), (18, .int .u64 ((((lb.getD k 0).toNat) % 128 : Nat) : Int)), (17, .int .u8 ((((lb.getD k 0).toNat) % 128 : Nat) : Int)), (16, .int .u8 (((lb.getD k 0).toNat : Nat) : Int)), (15, .int .u64 (((aqN lb k) * 128 % 18446744073709551616 : Nat) : Int)), (14, .int .u64 ((aqN lb k : Nat) : Int)), (6, .int .u8 (((lb.getD k 0).toNat : Nat) : Int)), (13, .int .u8 (((lb.getD k 0).toNat : Nat) : Int)), (12, .pointer (some ⟨gb, ob + k, none⟩)), (11, .bool true), (10, .int .i64 ((k : Nat) : Int)), (3, vo), (9, .int .i64 ((nb : Nat) : Int)), (8, .slice Ab nb cb), (2, .slice none 0 0)] [] := H
        refine rgO H (gsC hv31 gs0) (rK [1, 1, 1, 1, 1, 1, 1, 1, 1, 1, 1, 1, 1, 1, 1, 1, 1, 1, 1, 1, 1, 1, 1, 1, 1, 0] [] [] <| rS 1 rfl <| rZ ?_)
        try clear hv31 H a W
        rintro a W H ⟨hv31, -⟩
        refine hK15 _ _ ?_
        clear hK15
        refine rgP H (gsC hv31 gs0) (rS 2 rfl <| rV rfl (does_binOp rfl rfl rfl (ud_mul40r (m := min (((aqN lb k) * 128 % 18446744073709551616 + ((lb.getD k 0).toNat) % 128) / 40) 2) (by omega) _ _)) <| rV rfl (does_binOp rfl rfl rfl (ud_sub (k := (aqN lb k) * 128 % 18446744073709551616 + ((lb.getD k 0).toNat) % 128) (m := 40 * (min (((aqN lb k) * 128 % 18446744073709551616 + ((lb.getD k 0).toNat) % 128) / 40) 2)) (by omega) (by omega) _ _)) <| rK [1, 1, 1, 1, 1, 1, 1, 1, 1, 1, 1, 1, 1, 1, 1, 1, 1, 1, 0] [] [] <| rS 1 rfl <| rZ ?_)
        try clear hv31 H a W
        rintro a W H ⟨hv31, -⟩
        refine hK12 _ _ ?_
        clear hK12
        refine wp_seq_k (fun K16 hK16 => ?_)
        refine rgP H (gsC hv31 gs0) (rS 2 rfl <| rO rfl (fun a W H _ => ob_newN1 (x := ((aqN lb k) * 128 % 18446744073709551616 + ((lb.getD k 0).toNat) % 128) - (40 * (min (((aqN lb k) * 128 % 18446744073709551616 + ((lb.getD k 0).toNat) % 128) / 40) 2))) (by omega) H (wanted_none rfl) rfl rfl) fun v38 => rI ?_)
        try clear hv31 H a W
        rintro a W H ⟨hv38, hv31, -⟩
        refine pl_R (R := WRr w.heap.size []) (F := NF w.heap.size [] (((aqA lb k) ++ [min (((aqN lb k) * 128 % 18446744073709551616 + ((lb.getD k 0).toNat) % 128) / 40) 2]) ++ [((aqN lb k) * 128 % 18446744073709551616 + ((lb.getD k 0).toNat) % 128) - (40 * (min (((aqN lb k) * 128 % 18446744073709551616 + ((lb.getD k 0).toNat) % 128) / 40) 2))])) wrr_st (ob_appN H (wanted_none rfl) rfl rfl rfl hv31 hv38 (by simp) (by simp only [List.length_append, List.length_cons, List.length_nil]; omega)) rfl rfl rfl H ?_
        try clear H a W
        intro v39 a W hv39 hR_ H
        clear hR_
        replace H : St 42 w a W [(39, v39), (38, v38), (37, .int .u64 ((((aqN lb k) * 128 % 18446744073709551616 + ((lb.getD k 0).toNat) % 128) - (40 * (min (((aqN lb k) * 128 % 18446744073709551616 + ((lb.getD k 0).toNat) % 128) / 40) 2)) : Nat) : Int)), (36, v31), (4, .int .u64 ((((aqN lb k) * 128 % 18446744073709551616 + ((lb.getD k 0).toNat) % 128) - (40 * (min (((aqN lb k) * 128 % 18446744073709551616 + ((lb.getD k 0).toNat) % 128) / 40) 2)) : Nat) : Int)), (35, .int .u64 ((((aqN lb k) * 128 % 18446744073709551616 + ((lb.getD k 0).toNat) % 128) - (40 * (min (((aqN lb k) * 128 % 18446744073709551616 + ((lb.getD k 0).toNat) % 128) / 40) 2)) : Nat) : Int)), (34, .int .u64 ((40 * (min (((aqN lb k) * 128 % 18446744073709551616 + ((lb.getD k 0).toNat) % 128) / 40) 2) : Nat) : Int)), (33, .int .u64 ((min (((aqN lb k) * 128 % 18446744073709551616 + ((lb.getD k 0).toNat) % 128) / 40) 2 : Nat) : Int)), (32, .int .u64 (((aqN lb k) * 128 % 18446744073709551616 + ((lb.getD k 0).toNat) % 128 : Nat) : Int)), (3, v31), (31, v31), (30, v30), (29, .int .u64 ((min (((aqN lb k) * 128 % 18446744073709551616 + ((lb.getD k 0).toNat) % 128) / 40) 2 : Nat) : Int)), (28, vo), (7, .int .u64 ((min (((aqN lb k) * 128 % 18446744073709551616 + ((lb.getD k 0).toNat) % 128) / 40) 2 : Nat) : Int)), (27, .int .u64 ((min (((aqN lb k) * 128 % 18446744073709551616 + ((lb.getD k 0).toNat) % 128) / 40) 2 : Nat) : Int)), (26, .int .u64 ((((aqN lb k) * 128 % 18446744073709551616 + ((lb.getD k 0).toNat) % 128) / 40 : Nat) : Int)), (25, .int .u64 (((aqN lb k) * 128 % 18446744073709551616 + ((lb.getD k 0).toNat) % 128 : Nat) : Int)), (24, .bool true), (23, .int .i64 (((aqA lb k).length : Nat) : Int)), (22, vo), (21, .bool false), (20, .int .u8 (((lb.getD k 0).toNat : Nat) : Int)), (19, .int .u64 (((aqN lb k) * 128 % 18446744073709551616 + ((lb.getD k 0).toNat) % 128 : Nat) : Int)), (18, .int .u64 ((((lb.getD k 0).toNat) % 128 : Nat) : Int)), (17, .int .u8 ((((lb.getD k 0).toNat) % 128 : Nat) : Int)), (16, .int .u8 (((lb.getD k 0).toNat : Nat) : Int)), (15, .int .u64 (((aqN lb k) * 128 % 18446744073709551616 : Nat) : Int)), (14, .int .u64 ((aqN lb k : Nat) : Int)), (6, .int .u8 (((lb.getD k 0).toNat : Nat) : Int)), (13, .int .u8 (((lb.getD k 0).toNat : Nat) : Int)), (12, .pointer (some ⟨gb, ob + k, none⟩)), (11, .bool true), (10, .int .i64 ((k : Nat) : Int)), (9, .int .i64 ((nb : Nat) : Int)), (8, .slice Ab nb cb), (2, .slice none 0 0)] [] := H
        refine rgO H (gsC hv39 gs0) (rK [1, 1, 1, 1, 1, 1, 1, 1, 1, 0] [] [] <| rS 1 rfl <| rZ ?_)
        try clear hv39 H a W
        rintro a W H ⟨hv39, -⟩
        refine hK16 _ _ ?_
        clear hK16
        refine rgP H (gsC hv39 gs0) (rK [1, 1, 1, 1, 1, 0] [] [] <| rS 1 rfl <| rZ ?_)
        try clear hv39 H a W
        rintro a W H ⟨hv39, -⟩
        refine blk_normal ?_
        refine hK7 _ _ ?_
        clear hK7
        refine rgP H (gsC hv39 gs0) (rV rfl (does_binOp rfl rfl rfl (zd_add_int (k := ((k : Nat) : Int)) (m := 1) (c := ((k + 1 : Nat) : Int)) (by omega) (by omega) _ _)) <| rK [1, 1, 1, 1, 1, 1, 1, 1, 1, 1, 1, 1, 1, 1, 1, 1, 1, 1, 1, 1, 1, 1, 1, 1, 1, 1, 1, 1, 1, 1, 1, 1, 1, 1, 0] [] [] <| rS 1 rfl <| rZ ?_)
        try clear hv39 H a W
        rintro a W H ⟨hv39, -⟩
        have hmm_ : (aqN lb k * 128 + (lb.getD k 0).toNat % 128) % 18446744073709551616 = aqN lb k * 128 % 18446744073709551616 + (lb.getD k 0).toNat % 128 := by omega
        have h_ := aq_first (l := lb) (k := k) (by omega) (by omega) rfl rfl
        rw [hmm_] at h_
        have h2_ := hv39
        rw [List.eq_nil_of_length_eq_zero (l := aqA lb k) (by omega)] at h2_
        refine ⟨k + 1, by omega, by omega, ?_⟩
        show ∃ vo, NF w.heap.size [] (aqA lb (k + 1)) vo W ∧ St 42 w a W [(10, .int .i64 ((k + 1 : Nat) : Int)), (4, .int .u64 ((aqN lb (k + 1) : Nat) : Int)), (3, vo), (9, .int .i64 ((nb : Nat) : Int)), (8, .slice Ab nb cb), (2, .slice none 0 0)] []
        refine ⟨_, (by rw [h_.2]; exact h2_), ?_⟩
        rw [h_.1]
        exact H.pick [0, 2, 3, 35, 36, 37] [] rfl
      | false =>
        rw [hq2] at H
        have hq2p := of_decide_eq_false hq2
        refine wp_cond_false (H.ev rfl) ?_
        refine wp_skip ?_
        refine hK12 _ _ ?_
        clear hK12
        refine wp_seq_k (fun K17 hK17 => ?_)
        refine rgP H (gsC hout gs0) (rS 2 rfl <| rO rfl (fun a W H _ => ob_newN1 (x := (aqN lb k) * 128 % 18446744073709551616 + ((lb.getD k 0).toNat) % 128) (by omega) H (wanted_none rfl) rfl rfl) fun v38 => rI ?_)
        try clear hout H a W
        rintro a W H ⟨hv38, hout, -⟩
        refine pl_R (R := WRr w.heap.size []) (F := NF w.heap.size [] ((aqA lb k) ++ [(aqN lb k) * 128 % 18446744073709551616 + ((lb.getD k 0).toNat) % 128])) wrr_st (ob_appN H (wanted_none rfl) rfl rfl rfl hout hv38 (by simp) (by simp only [List.length_append, List.length_cons, List.length_nil]; omega)) rfl rfl rfl H ?_
        try clear H a W
        intro v39 a W hv39 hR_ H
        clear hR_
        replace H : St 42 w a W [(39, v39), (38, v38), (37, .int .u64 (((aqN lb k) * 128 % 18446744073709551616 + ((lb.getD k 0).toNat) % 128 : Nat) : Int)), (36, vo), (24, .bool false), (23, .int .i64 (((aqA lb k).length : Nat) : Int)), (22, vo), (21, .bool false), (20, .int .u8 (((lb.getD k 0).toNat : Nat) : Int)), (4, .int .u64 (((aqN lb k) * 128 % 18446744073709551616 + ((lb.getD k 0).toNat) % 128 : Nat) : Int)), (19, .int .u64 (((aqN lb k) * 128 % 18446744073709551616 + ((lb.getD k 0).toNat) % 128 : Nat) : Int)), (18, .int .u64 ((((lb.getD k 0).toNat) % 128 : Nat) : Int)), (17, .int .u8 ((((lb.getD k 0).toNat) % 128 : Nat) : Int)), (16, .int .u8 (((lb.getD k 0).toNat : Nat) : Int)), (15, .int .u64 (((aqN lb k) * 128 % 18446744073709551616 : Nat) : Int)), (14, .int .u64 ((aqN lb k : Nat) : Int)), (6, .int .u8 (((lb.getD k 0).toNat : Nat) : Int)), (13, .int .u8 (((lb.getD k 0).toNat : Nat) : Int)), (12, .pointer (some ⟨gb, ob + k, none⟩)), (11, .bool true), (10, .int .i64 ((k : Nat) : Int)), (3, vo), (9, .int .i64 ((nb : Nat) : Int)), (8, .slice Ab nb cb), (2, .slice none 0 0)] [] := H
        refine rgO H (gsC hv39 gs0) (rK [1, 1, 1, 1, 1, 1, 1, 1, 1, 1, 1, 1, 1, 1, 1, 1, 1, 1, 1, 1, 1, 0] [] [] <| rS 1 rfl <| rZ ?_)
        try clear hv39 H a W
        rintro a W H ⟨hv39, -⟩
        refine hK17 _ _ ?_
        clear hK17
        refine rgP H (gsC hv39 gs0) (rK [1, 1, 1, 1, 1, 1, 1, 1, 1, 1, 0] [] [] <| rS 1 rfl <| rZ ?_)
        try clear hv39 H a W
        rintro a W H ⟨hv39, -⟩
        refine blk_normal ?_
        refine hK7 _ _ ?_
        clear hK7
        refine rgP H (gsC hv39 gs0) (rV rfl (does_binOp rfl rfl rfl (zd_add_int (k := ((k : Nat) : Int)) (m := 1) (c := ((k + 1 : Nat) : Int)) (by omega) (by omega) _ _)) <| rK [1, 1, 1, 1, 1, 1, 1, 1, 1, 1, 1, 1, 1, 1, 1, 1, 1, 1, 1, 1, 1, 1, 0] [] [] <| rS 1 rfl <| rZ ?_)
        try clear hv39 H a W
        rintro a W H ⟨hv39, -⟩
        have hmm_ : (aqN lb k * 128 + (lb.getD k 0).toNat % 128) % 18446744073709551616 = aqN lb k * 128 % 18446744073709551616 + (lb.getD k 0).toNat % 128 := by omega
        have h_ := aq_next (l := lb) (k := k) (by omega) (by omega) rfl
        rw [hmm_] at h_
        refine ⟨k + 1, by omega, by omega, ?_⟩
        show ∃ vo, NF w.heap.size [] (aqA lb (k + 1)) vo W ∧ St 42 w a W [(10, .int .i64 ((k + 1 : Nat) : Int)), (4, .int .u64 ((aqN lb (k + 1) : Nat) : Int)), (3, vo), (9, .int .i64 ((nb : Nat) : Int)), (8, .slice Ab nb cb), (2, .slice none 0 0)] []
        refine ⟨_, (by rw [h_.2]; exact hv39), ?_⟩
        rw [h_.1]
        exact H.pick [0, 2, 3, 23, 24, 25] [] rfl
  · obtain rfl : nb = k := by omega
    refine sqR H (gsC hout gs0) fun Z_ z_ => rV rfl (does_binOp rfl rfl rfl (zd_lss_int (k := ((nb : Nat) : Int)) (m := ((nb : Nat) : Int)) (decide_eq_false (by omega)) _ _)) <| rK [1, 1, 1, 1, 0] [] [] <| rN z_ ?_
    try clear hout H a W
    rintro a W H ⟨hout, -⟩
    refine wp_seq_k (fun K19 hK19 => ?_)
    refine wp_cond_false (H.ev rfl) ?_
    refine wp_exit ?_
    repeat (first | (with_reducible refine then_exit ?_) | (with_reducible refine blk_pass (by decide) ?_))
    refine blk_exit ?_
    refine hK4 _ _ ?_
    clear hK4
    refine sqR H (gsC hout gs0) fun Z_ z_ => rS 1 rfl <| rK [1, 1, 1, 1, 1, 1, 0] [] [] <| rS 1 rfl <| rK [1, 0, 0, 0, 0, 0, 0] [] [] <| rN z_ ?_
    try clear hout H a W
    rintro a W H ⟨hout, -⟩
    refine wp_ret ?_
    repeat (first | (with_reducible refine then_ret ?_) | (with_reducible refine blk_ret ?_))
    refine end_tmp (p := 2) rfl rfl H (fun hb => ?_)
    exact ⟨_, rfl, hb, by rw [aqs_end, hlb]; exact hout.1⟩
theorem darcs_any {v : Value} {l : List UInt8} (w : World) (hv : BF l v w) (hl : l.length ≤ 100000) : Calls Tryd.prog 77 #[v] w (fun rr w' => ∃ v, rr = .returned v ∧ Below w.heap.size w w' ∧ w'.ownsRow w.heap.size 47 1 v (arcsQ l 0 []).length ((arcsQ l 0 []).map nvD)) := by
  obtain ⟨A, n, c, rfl, hb⟩ := hv
  obtain ⟨g, o, h⟩ := hb.nat (Nat.le_refl _)
  have := hb.len
  exact darcs_walk w (by omega) hb.len (by omega) h
theorem arcsQ_lt : ∀ (l : List UInt8) (n : Nat) (acc : List Nat), (∀ x ∈ acc, x < 18446744073709551616) → ∀ x ∈ arcsQ l n acc, x < 18446744073709551616
  | [], n, acc, ha => ha
  | b :: r, n, acc, ha => by
    unfold arcsQ
    split
    · exact arcsQ_lt r _ acc ha
    · refine arcsQ_lt r 0 _ fun x hx => ?_
      split at hx
      · rcases List.mem_cons.1 hx with rfl | hx
        · omega
        · rw [List.mem_singleton.1 hx]
          omega
      · rcases List.mem_append.1 hx with hx | hx
        · exact ha x hx
        · rw [List.mem_singleton.1 hx]
          omega
theorem arcsQ_len (l : List UInt8) : (arcsQ l 0 []).length ≤ 2 * l.length := by
  rw [aqs_end]
  exact aqA_len l l.length
end Go.Proofs.YtiafcgoiolbdhaaDoor
namespace Go.Proofs.YtiafcgoiolbdhaaDoor
set_option linter.unusedVariables false
set_option linter.unusedSimpArgs false
set_option maxRecDepth 100000
open Go Go.RowKit
theorem zlt : (0 : Nat) < 9223372036854775808 := by decide
theorem dc_flat {C : Nat → Nat → Value → Prop} {k n : Int} {f : Bool} {tx : List UInt8} (hk : -9223372036854775808 ≤ k ∧ k < 9223372036854775808) (hn : -9223372036854775808 ≤ n ∧ n < 9223372036854775808) (hl : tx.length < 9223372036854775808) : DC C (.mk k f n [] tx [] []) (DH.mk k f n SL.no tx SL.no SL.no) :=
  DC.mk (x := DH.mk k f n SL.no tx SL.no SL.no) (fun _ => DH.no) hk hn ⟨zlt, hl, zlt, zlt⟩ rfl (Nat.le_refl _) (fun _ => rfl) (fun h => absurd (show 0 < 0 from h) (by decide)) rfl (Nat.le_refl _) (fun _ => rfl) (fun y hy => by cases hy) (fun h => absurd (show 0 < 0 from h) (by decide)) rfl (Nat.le_refl _) (fun h => absurd (show 0 < 0 from h) (by decide)) (fun i T h => by simp at h)
theorem dc_B {k n : Int} {f : Bool} {A : Option Addr} {c : Nat} {t : Hep} {l : List UInt8} (hk : -9223372036854775808 ≤ k ∧ k < 9223372036854775808) (hn : -9223372036854775808 ≤ n ∧ n < 9223372036854775808) (hl : l.length < 9223372036854775808) (hv : OutD 5 1 t (.slice A l.length c) l.length (l.map bv)) : DC (TN t) (.mk k f n l [] [] []) (DH.mk k f n (SL.mk A l.length c) [] SL.no SL.no) := by
  obtain ⟨A', c', e1, hc⟩ := hv.form
  injection e1 with e1 e2 e3
  subst e1 e3
  refine DC.mk (x := DH.mk k f n (SL.mk A l.length c) [] SL.no SL.no) (fun _ => DH.no) hk hn ⟨hl, zlt, zlt, zlt⟩ rfl hc (fun e => ?_) (fun h0 => ?_) rfl (Nat.le_refl _) (fun _ => rfl) (fun y hy => by cases hy) (fun h => absurd (show 0 < 0 from h) (by decide)) rfl (Nat.le_refl _) (fun h => absurd (show 0 < 0 from h) (by decide)) (fun i T h => by simp at h)
  · rcases hv with ⟨_, e2, _, _⟩ | ⟨g, cap, cur, _, e2, _⟩
    · injection e2
    · injection e2 with e3
      have e : A = none := e
      rw [e] at e3
      cases e3
  · obtain ⟨g, cur, rfl, rfl, hcell⟩ := hv.at_ h0
    refine ⟨g, 0, rfl, fun j y hy => ⟨_, cur, List.mem_singleton.2 rfl, ?_⟩⟩
    rw [Nat.zero_add]
    exact hcell j _ (by rw [List.getElem?_map, hy]; rfl)
theorem dc_A {k n : Int} {f : Bool} {A : Option Addr} {c : Nat} {t : Hep} {l : List Nat} (hk : -9223372036854775808 ≤ k ∧ k < 9223372036854775808) (hn : -9223372036854775808 ≤ n ∧ n < 9223372036854775808) (hlt : ∀ x ∈ l, x < 18446744073709551616) (hl : l.length < 9223372036854775808) (hv : OutD 47 1 t (.slice A l.length c) l.length (l.map nvD)) : DC (TN t) (.mk k f n [] [] l []) (DH.mk k f n SL.no [] (SL.mk A l.length c) SL.no) := by
  obtain ⟨A', c', e1, hc⟩ := hv.form
  injection e1 with e1 e2 e3
  subst e1 e3
  refine DC.mk (x := DH.mk k f n SL.no [] (SL.mk A l.length c) SL.no) (fun _ => DH.no) hk hn ⟨zlt, zlt, hl, zlt⟩ rfl (Nat.le_refl _) (fun _ => rfl) (fun h => absurd (show 0 < 0 from h) (by decide)) rfl hc (fun e => ?_) hlt (fun h0 => ?_) rfl (Nat.le_refl _) (fun h => absurd (show 0 < 0 from h) (by decide)) (fun i T h => by simp at h)
  · rcases hv with ⟨_, e2, _, _⟩ | ⟨g, cap, cur, _, e2, _⟩
    · injection e2
    · injection e2 with e3
      have e : A = none := e
      rw [e] at e3
      cases e3
  · obtain ⟨g, cur, rfl, rfl, hcell⟩ := hv.at_ h0
    refine ⟨g, 0, rfl, fun j y hy => ⟨_, cur, List.mem_singleton.2 rfl, ?_⟩⟩
    rw [Nat.zero_add]
    exact hcell j _ (by rw [List.getElem?_map, hy]; rfl)
theorem dc_K {k n : Int} {f : Bool} {A : Option Addr} {c : Nat} {t t2 : Hep} {xs : List DH} {Ts : List DT} (hk : -9223372036854775808 ≤ k ∧ k < 9223372036854775808) (hn : -9223372036854775808 ≤ n ∧ n < 9223372036854775808) (hl : xs.length < 9223372036854775808) (hT : Ts.length = xs.length) (hv : OutD 27 7 t (.slice A xs.length c) xs.length (kidV xs)) (hd : ∀ (i : Nat) (x : DH) (T : DT), xs[i]? = some x → Ts[i]? = some T → DC (TN t2) T x) :
    DC (TN (t ++ t2)) (.mk k f n [] [] [] Ts) (DH.mk k f n SL.no [] SL.no (SL.mk A xs.length c)) := by
  obtain ⟨A', c', e1, hc⟩ := hv.form
  injection e1 with e1 e2 e3
  subst e1 e3
  refine DC.mk (x := DH.mk k f n SL.no [] SL.no (SL.mk A xs.length c)) (fun i => xs.getD i DH.no) hk hn ⟨zlt, zlt, zlt, hl⟩ rfl (Nat.le_refl _) (fun _ => rfl) (fun h => absurd (show 0 < 0 from h) (by decide)) rfl (Nat.le_refl _) (fun _ => rfl) (fun y hy => by cases hy) (fun h => absurd (show 0 < 0 from h) (by decide)) hT hc (fun h0 => ?_) (fun i T hT2 => ?_)
  · obtain ⟨g, cur, rfl, rfl, hcell⟩ := hv.at_ h0
    refine ⟨g, 0, rfl, fun i hi j u hu => ⟨_, cur, List.mem_append.2 (.inl (List.mem_singleton.2 rfl)), ?_⟩⟩
    have hi : i < xs.length := hi
    rw [Nat.zero_add]
    refine hcell _ _ (kidV_get (List.getElem?_eq_getElem hi) ?_)
    rw [List.getD_eq_getElem?_getD, List.getElem?_eq_getElem hi] at hu
    exact hu
  · have hi : i < xs.length := by have := (List.getElem?_eq_some_iff.1 hT2).1; omega
    have hx : xs[i]? = some xs[i] := List.getElem?_eq_getElem hi
    rw [List.getD_eq_getElem?_getD, hx]
    exact (hd i _ T hx hT2).mono fun g k v hc => hc.more fun p hp => List.mem_append.2 (.inr hp)
section
variable {n : Nat} {w0 w w' : World} {a : Act} {e : Env} {h h' t t2 : Hep} {Q : Exit → Act → World → Prop} {ops : Array Oper} {rest : List Oper} {o : Oper}
/-- An append onto nothing. -/
theorem pl_appNB {d : Nat} {x y : Operand} {u : Value} {l : List UInt8} (ho : o.op = .call { callee := .builtin .append, args := #[x, y], argTypes := #[23, 23] }) (hx : sev e x = some (.slice none 0 0)) (hy : sev e y = some u) (hu : BF l u w) (hs : l.length ≤ 900000) (hg : o.guard = none) (hdst : o.dst = some d) (hl : Nat.blt d n = true) (hf : e.all (fun p => !Nat.beq p.1 d) = true) (H : St n w0 a w e h)
    (next : ∀ A c t a w', OutD 5 1 t (.slice A l.length c) l.length (l.map bv) → St n w0 a w' ((d, .slice A l.length c) :: e) (h ++ t) → wpList Tryd.prog ops Q rest a w') : wpList Tryd.prog ops Q (o :: rest) a w :=
  wpList_plain hg fun K hK => by
    obtain ⟨A, k, c, rfl, hr⟩ := hu
    have hk := hr.len
    obtain ⟨v', w', h1, h2, h3, h4⟩ := run_app_own (P := Tryd.prog) (w := w) 23 o.type 5 Tryd.underlying23 u8_info w.heap.size (.slice none 0 0) [] (OwnB.nil _ _ _) _ k c A l hr (by simp only [List.length_nil]; omega) (Nat.le_refl _)
    have hown : w'.ownsRow w.heap.size 5 1 v' l.length (l.map bv) := by simpa [OwnB] using h2
    obtain ⟨t, ht, H'⟩ := own_told (B := 0) H (grown_none h3) hown
    obtain ⟨A', c', rfl, _⟩ := ht.form
    unfold Oper.wp
    simp [execOp, ho, resolve, invoke, builtin, H.ev hx, H.ev hy, h1, Result.andThen]
    refine hK _ _ (next A' c' t _ _ ht ?_)
    rw [hdst]
    exact H'.put _ hl hf
end
theorem Kn.news {w0 w w' : World} {h t : Hep} (K : Kn w0 w h) (hb : Below w.heap.size w w') (hn : NR w.heap.size t w') : Kn w0 w' (t ++ h) := by
  have hlt : ∀ p ∈ h, p.1 < w.heap.size := fun p hp => (K.heap p hp).lt
  refine ⟨K.below.trans (hb.mono K.below.size), fun p hp => ?_, fun p hp => ?_, List.pairwise_append.2 ⟨hn.apart, K.apart, fun p hp q hq => Nat.ne_of_gt (Nat.lt_of_lt_of_le (hlt q hq) (hn.own p hp))⟩⟩
  · rcases List.mem_append.1 hp with hp | hp
    · exact hn.heap p hp
    · exact (K.heap p hp).below hb (hlt p hp)
  · rcases List.mem_append.1 hp with hp | hp
    · exact Nat.le_trans K.below.size (hn.own p hp)
    · exact K.own p hp
attribute [local irreducible] bvs byteD rb takeQ numQ intQ arcsQ accD
theorem fillQ_1 (n : Int) (c : List UInt8) : fillQ 1 n c = .mk 1 (decide (c = [255])) n [] [] [] [] := rfl
theorem fillQ_2 (n : Int) (c : List UInt8) : fillQ 2 n c = .mk 2 false (intQ c) [] [] [] [] := rfl
theorem fillQ_5 (n : Int) (c : List UInt8) : fillQ 5 n c = .mk 5 false n [] [] (arcsQ c 0 []) [] := rfl
theorem fillQ_3 (n : Int) (c : List UInt8) : fillQ 3 n c = .mk 3 false n (c.drop (min 1 c.length)) [] [] [] := rfl
theorem fillQ_4 (n : Int) (c : List UInt8) : fillQ 4 n c = .mk 4 false n c [] [] [] := rfl
theorem fillQ_t {k : Int} {n : Int} {c : List UInt8} (h : k = 6 ∨ k = 10) : fillQ k n c = .mk k false n [] c [] [] := by
  rcases h with rfl | rfl <;> rfl
theorem fillQ_no {k : Int} {n : Int} {c : List UInt8} (h : k ≠ 1 ∧ k ≠ 2 ∧ k ≠ 3 ∧ k ≠ 4 ∧ k ≠ 5) (h2 : k ≠ 6 ∧ k ≠ 10) : fillQ k n c = .mk k false n [] [] [] [] := by
  unfold fillQ
  rw [if_neg h.1, if_neg h.2.1, if_neg h.2.2.2.2, if_neg (by omega), if_neg h.2.2.1, if_neg h.2.2.2.1]
theorem intQ_in (c : List UInt8) : -9223372036854775808 ≤ intQ c ∧ intQ c < 9223372036854775808 := by
  by_cases h : 1 ≤ c.length ∧ c.length ≤ 8
  · rw [intQ_num h]
    exact numD_in c
  · rw [intQ_no (decide_eq_false h)]
    decide
set_option maxHeartbeats 4000000 in
theorem filled_walk {Ac : Option Addr} {nc cc : Nat} {lc : List UInt8} (k n : Int) (w : World) (hk : -9223372036854775808 ≤ k ∧ k < 9223372036854775808) (hn : -9223372036854775808 ≤ n ∧ n < 9223372036854775808) (hFc : BF lc (.slice Ac nc cc) w) (hlc : lc.length = nc) (hnc : nc ≤ 100000) : Calls Tryd.prog 57 #[.agg ((DH.mk k false n SL.no [] SL.no SL.no).cs), .slice Ac nc cc] w (fun rr w' => ∃ (x : DH) (t : Hep), rr = .returned (.agg x.cs) ∧ Below w.heap.size w w' ∧ NR w.heap.size t w' ∧ DC (TN t) (fillQ k n lc) x) := by
  refine calls_st (vs := [.agg ((DH.mk k false n SL.no [] SL.no SL.no).cs), .slice Ac nc cc]) 44 Tryd.func57 rfl Tryd.ntmps57 rfl (fun a W H => ?_)
  replace H : St 44 w a W [(0, .agg ((DH.mk k false n SL.no [] SL.no SL.no).cs)), (1, .slice Ac nc cc)] [] := H
  refine sqR H gs0 fun Z_ z_ => rB rfl rfl rfl (bx_der (DH.mk k false n SL.no [] SL.no SL.no)) fun g1 => rA rfl rfl al_der fun g2 => rK [1, 1, 0] [] [] <| rN0 z_ ?_
  try clear H a W
  intro a W H
  refine wp_seq_k (fun K2 hK2 => ?_)
  refine sqR H gs0 fun Z_ z_ => rV rfl (does_fieldAddr rfl rfl fa_der0) <| rV rfl (does_loadAt (v := .int .i64 k) rfl rfl (k := 1) rfl ld_derK) <| rK [1, 0] [] [] <| rN0 z_ ?_
  try clear H a W
  intro a W H
  refine wp_block ?_
  refine wp_seq_k (fun K4 hK4 => ?_)
  refine wp_block ?_
  refine wp_seq_k (fun K5 hK5 => ?_)
  refine wp_block ?_
  refine wp_seq_k (fun K6 hK6 => ?_)
  refine wp_block ?_
  refine wp_seq_k (fun K7 hK7 => ?_)
  refine wp_block ?_
  refine wp_seq_k (fun K8 hK8 => ?_)
  refine wp_block ?_
  refine wp_seq_k (fun K9 hK9 => ?_)
  refine wp_block ?_
  refine wp_seq_k (fun K10 hK10 => ?_)
  refine wp_seq_k (fun K11 hK11 => ?_)
  refine sqR H gs0 fun Z_ z_ => rV rfl (does_binOp rfl rfl rfl (zd_eql_derkind (k := k) (m := 1) rfl _ _)) <| rS 1 rfl <| rK [1, 0] [] [] <| rN0 z_ ?_
  try clear H a W
  intro a W H
  cases hq1 : decide (k = 1) with
  | true =>
    rw [hq1] at H
    have hq1p := of_decide_eq_true hq1
    refine wp_cond_true (H.ev rfl) ?_
    refine wp_exit ?_
    repeat (first | (with_reducible refine then_exit ?_) | (with_reducible refine blk_pass (by decide) ?_))
    refine blk_exit ?_
    refine hK9 _ _ ?_
    clear hK9
    refine sqR H gs0 fun Z_ z_ => rS 1 rfl <| rO rfl (fun a W H _ => ob_byteOF (x := 255) H (wanted_none rfl) rfl rfl) fun v21 => rCV rfl rfl ⟨_, Tryd.func39, by kernel_rfl⟩ rfl (fun a W H ⟨hv21, _⟩ => (equalB_any (bf_old hFc H) hv21.bf)) <| rV rfl (does_fieldAddr rfl rfl fa_der1) <| rX [0, 1] (c := (DH.mk k (decide (lc = [255])) n SL.no [] SL.no SL.no).cs) ⟨rfl, rfl⟩ rfl rfl rfl (st_derF (u := (decide (lc = [255])))) sv_derF <| rK [0, 0, 0, 0, 0, 0] [] [] <| rN0 z_ ?_
    try clear H a W
    intro a W H
    refine wp_exit ?_
    repeat (first | (with_reducible refine then_exit ?_) | (with_reducible refine blk_pass (by decide) ?_))
    refine blk_exit ?_
    refine hK2 _ _ ?_
    clear hK2
    refine sqR H gs0 fun Z_ z_ => rV rfl (does_load rfl rfl (k := 1) rfl Tryd.underlying27 rfl (info_der (DH.mk k (decide (lc = [255])) n SL.no [] SL.no SL.no))) <| rW [1] ⟨rfl, rfl⟩ rfl rfl rfl (info_der (DH.mk k (decide (lc = [255])) n SL.no [] SL.no SL.no)) (size_der DH.no (DH.mk k (decide (lc = [255])) n SL.no [] SL.no SL.no)) (DH.mk k (decide (lc = [255])) n SL.no [] SL.no SL.no).one <| rK [0, 1, 0, 0] [] [] <| rN0 z_ ?_
    try clear H a W
    intro a W H
    refine wp_ret ?_
    repeat (first | (with_reducible refine then_ret ?_) | (with_reducible refine blk_ret ?_))
    refine end_cell (p := 4) rfl rfl (k := 0) rfl Tryd.underlying27 rfl (info_der _) H (fun hb => ?_)
    have H2 : St 44 w a W [(4, .pointer (some ⟨g2, 0, none⟩))] ([(g2, 27, (DH.mk k (decide (lc = [255])) n SL.no [] SL.no SL.no).cs), (g1, 27, (DH.mk k (decide (lc = [255])) n SL.no [] SL.no SL.no).cs)] ++ ([] : Hep)) := by rw [List.append_nil]; exact H
    refine ⟨_, ([] : Hep), rfl, hb, H2.nr, ?_⟩
    obtain rfl : k = 1 := by omega
    rw [fillQ_1]
    exact dc_flat (by decide) hn (by decide)
  | false =>
    rw [hq1] at H
    have hq1p := of_decide_eq_false hq1
    refine wp_cond_false (H.ev rfl) ?_
    refine wp_skip ?_
    refine hK11 _ _ ?_
    clear hK11
    refine wp_seq_k (fun K15 hK15 => ?_)
    refine sqR H gs0 fun Z_ z_ => rV rfl (does_binOp rfl rfl rfl (zd_eql_derkind (k := k) (m := 2) rfl _ _)) <| rS 1 rfl <| rK [1, 0, 0] [] [] <| rN0 z_ ?_
    try clear H a W
    intro a W H
    cases hq2 : decide (k = 2) with
    | true =>
      rw [hq2] at H
      have hq2p := of_decide_eq_true hq2
      refine wp_cond_true (H.ev rfl) ?_
      refine wp_exit ?_
      repeat (first | (with_reducible refine then_exit ?_) | (with_reducible refine blk_pass (by decide) ?_))
      refine blk_exit ?_
      refine hK8 _ _ ?_
      clear hK8
      refine sqR H gs0 fun Z_ z_ => rS 1 rfl <| rV rfl (does_call rfl ⟨_, Tryd.func76, by kernel_rfl⟩ rfl (fun W hb => int_of W (hFc.below hb) hlc (by omega))) <| rV rfl (does_fieldAddr rfl rfl fa_der2) <| rX [0, 1] (c := (DH.mk k false (intQ lc) SL.no [] SL.no SL.no).cs) ⟨rfl, rfl⟩ rfl rfl rfl (st_derN (u := (intQ lc))) sv_derN <| rK [0, 0, 0, 0, 0] [] [] <| rN0 z_ ?_
      try clear H a W
      intro a W H
      refine wp_exit ?_
      repeat (first | (with_reducible refine then_exit ?_) | (with_reducible refine blk_pass (by decide) ?_))
      refine blk_exit ?_
      refine hK2 _ _ ?_
      clear hK2
      refine sqR H gs0 fun Z_ z_ => rV rfl (does_load rfl rfl (k := 1) rfl Tryd.underlying27 rfl (info_der (DH.mk k false (intQ lc) SL.no [] SL.no SL.no))) <| rW [1] ⟨rfl, rfl⟩ rfl rfl rfl (info_der (DH.mk k false (intQ lc) SL.no [] SL.no SL.no)) (size_der DH.no (DH.mk k false (intQ lc) SL.no [] SL.no SL.no)) (DH.mk k false (intQ lc) SL.no [] SL.no SL.no).one <| rK [0, 1, 0, 0] [] [] <| rN0 z_ ?_
      try clear H a W
      intro a W H
      refine wp_ret ?_
      repeat (first | (with_reducible refine then_ret ?_) | (with_reducible refine blk_ret ?_))
      refine end_cell (p := 4) rfl rfl (k := 0) rfl Tryd.underlying27 rfl (info_der _) H (fun hb => ?_)
      have H2 : St 44 w a W [(4, .pointer (some ⟨g2, 0, none⟩))] ([(g2, 27, (DH.mk k false (intQ lc) SL.no [] SL.no SL.no).cs), (g1, 27, (DH.mk k false (intQ lc) SL.no [] SL.no SL.no).cs)] ++ ([] : Hep)) := by rw [List.append_nil]; exact H
      refine ⟨_, ([] : Hep), rfl, hb, H2.nr, ?_⟩
      obtain rfl : k = 2 := by omega
      rw [fillQ_2]
      exact dc_flat (by decide) (intQ_in lc) (by decide)
    | false =>
      rw [hq2] at H
      have hq2p := of_decide_eq_false hq2
      refine wp_cond_false (H.ev rfl) ?_
      refine wp_skip ?_
      refine hK15 _ _ ?_
      clear hK15
      refine wp_seq_k (fun K19 hK19 => ?_)
      refine sqR H gs0 fun Z_ z_ => rV rfl (does_binOp rfl rfl rfl (zd_eql_derkind (k := k) (m := 5) rfl _ _)) <| rS 1 rfl <| rK [1, 0, 0] [] [] <| rN0 z_ ?_
      try clear H a W
      intro a W H
      cases hq3 : decide (k = 5) with
      | true =>
        rw [hq3] at H
        have hq3p := of_decide_eq_true hq3
        refine wp_cond_true (H.ev rfl) ?_
        refine wp_exit ?_
        repeat (first | (with_reducible refine then_exit ?_) | (with_reducible refine blk_pass (by decide) ?_))
        refine blk_exit ?_
        refine hK7 _ _ ?_
        clear hK7
        refine wp_seq_k (fun K21 hK21 => ?_)
        refine rgP H gs0 (rS 1 rfl <| rI0 ?_)
        try clear H a W
        intro a W H
        refine pl_callOwn rfl ⟨_, Tryd.func77, by kernel_rfl⟩ rfl (darcs_any _ (bf_old hFc H) (by omega)) rfl rfl rfl rfl H ?_
        try clear H a W
        intro v7 t7 a W hOB H
        obtain ⟨A7, c7, rfl, hc7_⟩ := hOB.form
        replace H : St 44 w a W [(28, .slice A7 (arcsQ lc 0 []).length c7), (27, .slice Ac nc cc), (11, .bool true), (6, .int .i64 k), (4, .pointer (some ⟨g2, 0, none⟩)), (2, .pointer (some ⟨g1, 0, none⟩)), (1, .slice Ac nc cc)] ((g2, 27, DH.no.cs) :: (g1, 27, (DH.mk k false n SL.no [] SL.no SL.no).cs) :: t7) := H
        refine rgO H gs0 (rV rfl (does_fieldAddr rfl rfl fa_der5) <| rX [0, 1] (c := (DH.mk k false n SL.no [] (SL.mk A7 (arcsQ lc 0 []).length c7) SL.no).cs) ⟨rfl, rfl⟩ rfl rfl rfl (st_derA (u := (SL.mk A7 (arcsQ lc 0 []).length c7))) sv_derA <| rK [0, 0, 0, 0, 0] [] [] <| rZ0 ?_)
        try clear H a W
        intro a W H
        refine hK21 _ _ ?_
        clear hK21
        refine wp_exit ?_
        repeat (first | (with_reducible refine then_exit ?_) | (with_reducible refine blk_pass (by decide) ?_))
        refine blk_exit ?_
        refine hK2 _ _ ?_
        clear hK2
        refine sqR H gs0 fun Z_ z_ => rV rfl (does_load rfl rfl (k := 1) rfl Tryd.underlying27 rfl (info_der (DH.mk k false n SL.no [] (SL.mk A7 (arcsQ lc 0 []).length c7) SL.no))) <| rW [1] ⟨rfl, rfl⟩ rfl rfl rfl (info_der (DH.mk k false n SL.no [] (SL.mk A7 (arcsQ lc 0 []).length c7) SL.no)) (size_der DH.no (DH.mk k false n SL.no [] (SL.mk A7 (arcsQ lc 0 []).length c7) SL.no)) (DH.mk k false n SL.no [] (SL.mk A7 (arcsQ lc 0 []).length c7) SL.no).one <| rK [0, 1, 0, 0] [] [] <| rN0 z_ ?_
        try clear H a W
        intro a W H
        refine wp_ret ?_
        repeat (first | (with_reducible refine then_ret ?_) | (with_reducible refine blk_ret ?_))
        refine end_cell (p := 4) rfl rfl (k := 0) rfl Tryd.underlying27 rfl (info_der _) H (fun hb => ?_)
        have H2 : St 44 w a W [(4, .pointer (some ⟨g2, 0, none⟩))] ([(g2, 27, (DH.mk k false n SL.no [] (SL.mk A7 (arcsQ lc 0 []).length c7) SL.no).cs), (g1, 27, (DH.mk k false n SL.no [] (SL.mk A7 (arcsQ lc 0 []).length c7) SL.no).cs)] ++ t7) := H
        refine ⟨_, t7, rfl, hb, H2.nr, ?_⟩
        obtain rfl : k = 5 := by omega
        rw [fillQ_5]
        exact dc_A (by decide) hn (arcsQ_lt lc 0 [] (fun x hx => by cases hx)) (by have := arcsQ_len lc; omega) hOB
      | false =>
        rw [hq3] at H
        have hq3p := of_decide_eq_false hq3
        refine wp_cond_false (H.ev rfl) ?_
        refine wp_skip ?_
        refine hK19 _ _ ?_
        clear hK19
        refine wp_seq_k (fun K23 hK23 => ?_)
        refine wp_seq_k (fun K24 hK24 => ?_)
        refine sqR H gs0 fun Z_ z_ => rV rfl (does_binOp rfl rfl rfl (zd_eql_derkind (k := k) (m := 6) rfl _ _)) <| rS 1 rfl <| rK [1, 0, 0] [] [] <| rN0 z_ ?_
        try clear H a W
        intro a W H
        cases hq4 : decide (k = 6) with
        | true =>
          rw [hq4] at H
          have hq4p := of_decide_eq_true hq4
          refine wp_cond_true (H.ev rfl) ?_
          refine wp_skip ?_
          refine hK24 _ _ ?_
          clear hK24
          refine wp_cond_true (H.ev rfl) ?_
          refine wp_exit ?_
          repeat (first | (with_reducible refine then_exit ?_) | (with_reducible refine blk_pass (by decide) ?_))
          refine blk_exit ?_
          refine hK6 _ _ ?_
          clear hK6
          refine sqR H gs0 fun Z_ z_ => rS 1 rfl <| rOV rfl (fun a W H _ => ob_strD H (wanted_none rfl) rfl rfl (bf_old hFc H)) <| rV rfl (does_fieldAddr rfl rfl fa_der4) <| rX [0, 1] (c := (DH.mk k false n SL.no lc SL.no SL.no).cs) ⟨rfl, rfl⟩ rfl rfl rfl (st_derT (u := lc)) sv_derT <| rK [0, 0, 0, 0, 0] [] [] <| rN0 z_ ?_
          try clear H a W
          intro a W H
          refine wp_exit ?_
          repeat (first | (with_reducible refine then_exit ?_) | (with_reducible refine blk_pass (by decide) ?_))
          refine blk_exit ?_
          refine hK2 _ _ ?_
          clear hK2
          refine sqR H gs0 fun Z_ z_ => rV rfl (does_load rfl rfl (k := 1) rfl Tryd.underlying27 rfl (info_der (DH.mk k false n SL.no lc SL.no SL.no))) <| rW [1] ⟨rfl, rfl⟩ rfl rfl rfl (info_der (DH.mk k false n SL.no lc SL.no SL.no)) (size_der DH.no (DH.mk k false n SL.no lc SL.no SL.no)) (DH.mk k false n SL.no lc SL.no SL.no).one <| rK [0, 1, 0, 0] [] [] <| rN0 z_ ?_
          try clear H a W
          intro a W H
          refine wp_ret ?_
          repeat (first | (with_reducible refine then_ret ?_) | (with_reducible refine blk_ret ?_))
          refine end_cell (p := 4) rfl rfl (k := 0) rfl Tryd.underlying27 rfl (info_der _) H (fun hb => ?_)
          have H2 : St 44 w a W [(4, .pointer (some ⟨g2, 0, none⟩))] ([(g2, 27, (DH.mk k false n SL.no lc SL.no SL.no).cs), (g1, 27, (DH.mk k false n SL.no lc SL.no SL.no).cs)] ++ ([] : Hep)) := by rw [List.append_nil]; exact H
          refine ⟨_, ([] : Hep), rfl, hb, H2.nr, ?_⟩
          obtain rfl : k = 6 := by omega
          rw [fillQ_t (by decide)]
          exact dc_flat (by decide) hn (by omega)
        | false =>
          rw [hq4] at H
          have hq4p := of_decide_eq_false hq4
          refine wp_cond_false (H.ev rfl) ?_
          refine rgP H gs0 (rV rfl (does_binOp rfl rfl rfl (zd_eql_derkind (k := k) (m := 10) rfl _ _)) <| rK [1, 0] [] [] <| rS 1 rfl <| rK [1, 0] [] [] <| rZ0 ?_)
          try clear H a W
          intro a W H
          refine hK24 _ _ ?_
          clear hK24
          cases hq5 : decide (k = 10) with
          | true =>
            rw [hq5] at H
            have hq5p := of_decide_eq_true hq5
            refine wp_cond_true (H.ev rfl) ?_
            refine wp_exit ?_
            repeat (first | (with_reducible refine then_exit ?_) | (with_reducible refine blk_pass (by decide) ?_))
            refine blk_exit ?_
            refine hK6 _ _ ?_
            clear hK6
            refine sqR H gs0 fun Z_ z_ => rS 1 rfl <| rOV rfl (fun a W H _ => ob_strD H (wanted_none rfl) rfl rfl (bf_old hFc H)) <| rV rfl (does_fieldAddr rfl rfl fa_der4) <| rX [0, 1] (c := (DH.mk k false n SL.no lc SL.no SL.no).cs) ⟨rfl, rfl⟩ rfl rfl rfl (st_derT (u := lc)) sv_derT <| rK [0, 0, 0, 0, 0] [] [] <| rN0 z_ ?_
            try clear H a W
            intro a W H
            refine wp_exit ?_
            repeat (first | (with_reducible refine then_exit ?_) | (with_reducible refine blk_pass (by decide) ?_))
            refine blk_exit ?_
            refine hK2 _ _ ?_
            clear hK2
            refine sqR H gs0 fun Z_ z_ => rV rfl (does_load rfl rfl (k := 1) rfl Tryd.underlying27 rfl (info_der (DH.mk k false n SL.no lc SL.no SL.no))) <| rW [1] ⟨rfl, rfl⟩ rfl rfl rfl (info_der (DH.mk k false n SL.no lc SL.no SL.no)) (size_der DH.no (DH.mk k false n SL.no lc SL.no SL.no)) (DH.mk k false n SL.no lc SL.no SL.no).one <| rK [0, 1, 0, 0] [] [] <| rN0 z_ ?_
            try clear H a W
            intro a W H
            refine wp_ret ?_
            repeat (first | (with_reducible refine then_ret ?_) | (with_reducible refine blk_ret ?_))
            refine end_cell (p := 4) rfl rfl (k := 0) rfl Tryd.underlying27 rfl (info_der _) H (fun hb => ?_)
            have H2 : St 44 w a W [(4, .pointer (some ⟨g2, 0, none⟩))] ([(g2, 27, (DH.mk k false n SL.no lc SL.no SL.no).cs), (g1, 27, (DH.mk k false n SL.no lc SL.no SL.no).cs)] ++ ([] : Hep)) := by rw [List.append_nil]; exact H
            refine ⟨_, ([] : Hep), rfl, hb, H2.nr, ?_⟩
            obtain rfl : k = 10 := by omega
            rw [fillQ_t (by decide)]
            exact dc_flat (by decide) hn (by omega)
          | false =>
            rw [hq5] at H
            have hq5p := of_decide_eq_false hq5
            refine wp_cond_false (H.ev rfl) ?_
            refine wp_skip ?_
            refine hK23 _ _ ?_
            clear hK23
            refine wp_seq_k (fun K30 hK30 => ?_)
            refine sqR H gs0 fun Z_ z_ => rV rfl (does_binOp rfl rfl rfl (zd_eql_derkind (k := k) (m := 3) rfl _ _)) <| rS 1 rfl <| rK [1, 0, 0] [] [] <| rN0 z_ ?_
            try clear H a W
            intro a W H
            cases hq6 : decide (k = 3) with
            | true =>
              rw [hq6] at H
              have hq6p := of_decide_eq_true hq6
              refine wp_cond_true (H.ev rfl) ?_
              refine wp_exit ?_
              repeat (first | (with_reducible refine then_exit ?_) | (with_reducible refine blk_pass (by decide) ?_))
              refine blk_exit ?_
              refine hK5 _ _ ?_
              clear hK5
              refine rgP H gs0 (rS 2 rfl <| rV rfl (does_len Tryd.underlying23 rfl rfl) <| rV rfl (does_minZ (k := 1) (m := nc) rfl rfl rfl) <| rO rfl (fun a W H _ => ob_dropB (k := min 1 nc) H (wanted_none rfl) rfl rfl rfl (bf_old hFc H) (by rw [hlc]; exact Nat.min_le_right _ _)) fun v37 => rK [1, 1, 1, 1, 1, 1, 1, 1, 1, 0] [] [] <| rS 1 rfl <| rK [1, 0, 0, 0, 0, 0, 0, 0] [] [] <| rZ ?_)
              try clear H a W
              rintro a W H ⟨hv37, -⟩
              refine blk_normal ?_
              refine hK4 _ _ ?_
              clear hK4
              refine wp_seq_k (fun K32 hK32 => ?_)
              refine rgP H (gsC hv37 gs0) (rV rfl (does_fieldAddr rfl rfl fa_der3) <| rV rfl (does_loadAt (v := .slice none 0 0) rfl rfl (k := 1) rfl ld_derB) <| rS 1 rfl <| rI ?_)
              try clear hv37 H a W
              rintro a W H ⟨hv37, -⟩
              refine pl_appNB (l := (lc.drop (min 1 nc))) rfl rfl rfl hv37 (by (try rw [List.length_drop]); omega) rfl rfl rfl rfl H ?_
              try clear H a W
              intro A7 c7 t7 a W hOB H
              replace H : St 44 w a W [(41, .slice A7 (lc.drop (min 1 nc)).length c7), (40, v37), (39, .slice none 0 0), (38, .pointer (some ⟨g1, 3, none⟩)), (1, v37), (4, .pointer (some ⟨g2, 0, none⟩)), (2, .pointer (some ⟨g1, 0, none⟩))] ((g2, 27, DH.no.cs) :: (g1, 27, (DH.mk k false n SL.no [] SL.no SL.no).cs) :: t7) := H
              refine rgO H gs0 (rV rfl (does_fieldAddr rfl rfl fa_der3) <| rX [0, 1] (c := (DH.mk k false n (SL.mk A7 (lc.drop (min 1 nc)).length c7) [] SL.no SL.no).cs) ⟨rfl, rfl⟩ rfl rfl rfl (st_derB (u := (SL.mk A7 (lc.drop (min 1 nc)).length c7))) sv_derB <| rK [0, 0, 0, 0, 0, 0] [] [] <| rZ0 ?_)
              try clear H a W
              intro a W H
              refine hK32 _ _ ?_
              clear hK32
              refine wp_exit ?_
              repeat (first | (with_reducible refine then_exit ?_) | (with_reducible refine blk_pass (by decide) ?_))
              refine blk_exit ?_
              refine hK2 _ _ ?_
              clear hK2
              refine sqR H gs0 fun Z_ z_ => rV rfl (does_load rfl rfl (k := 1) rfl Tryd.underlying27 rfl (info_der (DH.mk k false n (SL.mk A7 (lc.drop (min 1 nc)).length c7) [] SL.no SL.no))) <| rW [1] ⟨rfl, rfl⟩ rfl rfl rfl (info_der (DH.mk k false n (SL.mk A7 (lc.drop (min 1 nc)).length c7) [] SL.no SL.no)) (size_der DH.no (DH.mk k false n (SL.mk A7 (lc.drop (min 1 nc)).length c7) [] SL.no SL.no)) (DH.mk k false n (SL.mk A7 (lc.drop (min 1 nc)).length c7) [] SL.no SL.no).one <| rK [0, 1, 0] [] [] <| rN0 z_ ?_
              try clear H a W
              intro a W H
              refine wp_ret ?_
              repeat (first | (with_reducible refine then_ret ?_) | (with_reducible refine blk_ret ?_))
              refine end_cell (p := 4) rfl rfl (k := 0) rfl Tryd.underlying27 rfl (info_der _) H (fun hb => ?_)
              have H2 : St 44 w a W [(4, .pointer (some ⟨g2, 0, none⟩))] ([(g2, 27, (DH.mk k false n (SL.mk A7 (lc.drop (min 1 nc)).length c7) [] SL.no SL.no).cs), (g1, 27, (DH.mk k false n (SL.mk A7 (lc.drop (min 1 nc)).length c7) [] SL.no SL.no).cs)] ++ t7) := H
              refine ⟨_, t7, rfl, hb, H2.nr, ?_⟩
              obtain rfl : k = 3 := by omega
              rw [fillQ_3, hlc]
              exact dc_B (by decide) hn (by rw [List.length_drop]; omega) hOB
            | false =>
              rw [hq6] at H
              have hq6p := of_decide_eq_false hq6
              refine wp_cond_false (H.ev rfl) ?_
              refine wp_skip ?_
              refine hK30 _ _ ?_
              clear hK30
              refine sqR H gs0 fun Z_ z_ => rV rfl (does_binOp rfl rfl rfl (zd_eql_derkind (k := k) (m := 4) rfl _ _)) <| rS 1 rfl <| rK [1, 0, 0, 0] [] [] <| rN0 z_ ?_
              try clear H a W
              intro a W H
              cases hq7 : decide (k = 4) with
              | true =>
                rw [hq7] at H
                have hq7p := of_decide_eq_true hq7
                refine wp_cond_true (H.ev rfl) ?_
                refine wp_exit ?_
                repeat (first | (with_reducible refine then_exit ?_) | (with_reducible refine blk_pass (by decide) ?_))
                refine blk_exit ?_
                refine hK4 _ _ ?_
                clear hK4
                refine wp_seq_k (fun K35 hK35 => ?_)
                refine rgP H gs0 (rV rfl (does_fieldAddr rfl rfl fa_der3) <| rV rfl (does_loadAt (v := .slice none 0 0) rfl rfl (k := 1) rfl ld_derB) <| rS 1 rfl <| rI0 ?_)
                try clear H a W
                intro a W H
                refine pl_appNB (l := lc) rfl rfl rfl (bf_old hFc H) (by (try rw [List.length_drop]); omega) rfl rfl rfl rfl H ?_
                try clear H a W
                intro A7 c7 t7 a W hOB H
                replace H : St 44 w a W [(41, .slice A7 lc.length c7), (40, .slice Ac nc cc), (39, .slice none 0 0), (38, .pointer (some ⟨g1, 3, none⟩)), (18, .bool true), (4, .pointer (some ⟨g2, 0, none⟩)), (2, .pointer (some ⟨g1, 0, none⟩)), (1, .slice Ac nc cc)] ((g2, 27, DH.no.cs) :: (g1, 27, (DH.mk k false n SL.no [] SL.no SL.no).cs) :: t7) := H
                refine rgO H gs0 (rV rfl (does_fieldAddr rfl rfl fa_der3) <| rX [0, 1] (c := (DH.mk k false n (SL.mk A7 lc.length c7) [] SL.no SL.no).cs) ⟨rfl, rfl⟩ rfl rfl rfl (st_derB (u := (SL.mk A7 lc.length c7))) sv_derB <| rK [0, 0, 0, 0, 0, 0, 1, 1, 0] [] [] <| rZ0 ?_)
                try clear H a W
                intro a W H
                refine hK35 _ _ ?_
                clear hK35
                refine wp_exit ?_
                repeat (first | (with_reducible refine then_exit ?_) | (with_reducible refine blk_pass (by decide) ?_))
                refine blk_exit ?_
                refine hK2 _ _ ?_
                clear hK2
                refine sqR H gs0 fun Z_ z_ => rV rfl (does_load rfl rfl (k := 1) rfl Tryd.underlying27 rfl (info_der (DH.mk k false n (SL.mk A7 lc.length c7) [] SL.no SL.no))) <| rW [1] ⟨rfl, rfl⟩ rfl rfl rfl (info_der (DH.mk k false n (SL.mk A7 lc.length c7) [] SL.no SL.no)) (size_der DH.no (DH.mk k false n (SL.mk A7 lc.length c7) [] SL.no SL.no)) (DH.mk k false n (SL.mk A7 lc.length c7) [] SL.no SL.no).one <| rK [0, 1, 0] [] [] <| rN0 z_ ?_
                try clear H a W
                intro a W H
                refine wp_ret ?_
                repeat (first | (with_reducible refine then_ret ?_) | (with_reducible refine blk_ret ?_))
                refine end_cell (p := 4) rfl rfl (k := 0) rfl Tryd.underlying27 rfl (info_der _) H (fun hb => ?_)
                have H2 : St 44 w a W [(4, .pointer (some ⟨g2, 0, none⟩))] ([(g2, 27, (DH.mk k false n (SL.mk A7 lc.length c7) [] SL.no SL.no).cs), (g1, 27, (DH.mk k false n (SL.mk A7 lc.length c7) [] SL.no SL.no).cs)] ++ t7) := H
                refine ⟨_, t7, rfl, hb, H2.nr, ?_⟩
                obtain rfl : k = 4 := by omega
                rw [fillQ_4]
                exact dc_B (by decide) hn (by omega) hOB
              | false =>
                rw [hq7] at H
                have hq7p := of_decide_eq_false hq7
                refine wp_cond_false (H.ev rfl) ?_
                refine wp_skip ?_
                refine hK10 _ _ ?_
                clear hK10
                refine wp_exit ?_
                repeat (first | (with_reducible refine then_exit ?_) | (with_reducible refine blk_pass (by decide) ?_))
                refine blk_exit ?_
                refine hK2 _ _ ?_
                clear hK2
                refine sqR H gs0 fun Z_ z_ => rV rfl (does_load rfl rfl (k := 1) rfl Tryd.underlying27 rfl (info_der (DH.mk k false n SL.no [] SL.no SL.no))) <| rW [1] ⟨rfl, rfl⟩ rfl rfl rfl (info_der (DH.mk k false n SL.no [] SL.no SL.no)) (size_der DH.no (DH.mk k false n SL.no [] SL.no SL.no)) (DH.mk k false n SL.no [] SL.no SL.no).one <| rK [0, 0, 1, 0, 0] [] [] <| rN0 z_ ?_
                try clear H a W
                intro a W H
                refine wp_ret ?_
                repeat (first | (with_reducible refine then_ret ?_) | (with_reducible refine blk_ret ?_))
                refine end_cell (p := 4) rfl rfl (k := 0) rfl Tryd.underlying27 rfl (info_der _) H (fun hb => ?_)
                have H2 : St 44 w a W [(4, .pointer (some ⟨g2, 0, none⟩))] ([(g2, 27, (DH.mk k false n SL.no [] SL.no SL.no).cs), (g1, 27, (DH.mk k false n SL.no [] SL.no SL.no).cs)] ++ ([] : Hep)) := by rw [List.append_nil]; exact H
                refine ⟨_, ([] : Hep), rfl, hb, H2.nr, ?_⟩
                rw [fillQ_no (by omega) (by omega)]
                exact dc_flat hk hn (by decide)
theorem filled_K {w0 w : World} {h : Hep} {lc : List UInt8} {v : Value} (k n : Int) (hk : -9223372036854775808 ≤ k ∧ k < 9223372036854775808) (hn : -9223372036854775808 ≤ n ∧ n < 9223372036854775808) (hv : BF lc v w0) (hlc : lc.length ≤ 100000) (K : Kn w0 w h) : Calls Tryd.prog 57 #[.agg (DH.mk k false n SL.no [] SL.no SL.no).cs, v] w (fun rr w' => ∃ i : DH × Hep, rr = .returned (.agg i.1.cs) ∧ DC (TN i.2) (fillQ k n lc) i.1 ∧ Kn w0 w' (i.2 ++ h)) := by
  obtain ⟨A, m, c, rfl, hb⟩ := hv.below K.below
  refine (filled_walk k n w hk hn ⟨_, _, _, rfl, hb⟩ hb.len (by rw [← hb.len]; exact hlc)).mono ?_
  rintro rr w' ⟨x, t, rfl, hbel, hnr, hd⟩
  exact ⟨(x, t), rfl, hd, K.news hbel hnr⟩
end Go.Proofs.YtiafcgoiolbdhaaDoor
namespace Go.Proofs.YtiafcgoiolbdhaaDoor
set_option linter.unusedVariables false
set_option linter.unusedSimpArgs false
open Go Go.RowKit
def headOkL (ms : List Nat) (m f : Nat) : List Nat → Bool
  | [] => true
  | [x] => (List.range m).all (fun j => Nat.beq j f || (closeM ms m x).testBit j)
  | x :: y :: _ => (List.range m).all (fun j => Nat.beq j f || (closeM ms m x).testBit j) && (closeM ms (m + 1) y).testBit f
def planOkL (ops : Array Oper) (n : Nat) (e : Env) (plan : List Fct) (ms : List Nat) (f : Nat) : Bool :=
  Nat.ble plan.length ops.size && downs 0 ms && psOkF ms plan && dstOkF ops.toList plan && distinct (plan.map (·.d)) && plan.all (fun it => Nat.blt it.d n && e.all (fun p => !Nat.beq p.1 it.d)) && lineUp ms plan.length plan.length (ms.drop plan.length) && headOkL ms plan.length f (ms.drop plan.length) && lastOk ms plan
/-- The rest, where f comes behind its first one. -/
def lateL (l : List Oper) (m f : Nat) : List Oper := match l.drop m with
  | [] => []
  | x :: r => match l[f]? with
    | some y => x :: y :: r
    | none => []
theorem left_pos {l : Array Bool} {i : Nat} : ∀ {m : Nat}, i < m → ¬ l.getD i false = true → 1 ≤ left l m := fun {m} hi hu => by
  have h := @left_zero l m
  apply Nat.succ_le_of_lt
  apply Nat.pos_of_ne_zero
  intro h0
  exact hu (h h0 i hi)
section
variable {P : Program} {n : Nat} {w0 w w' : World} {a : Act} {e : Env} {h : Hep} {Q : Exit → Act → World → Prop} {ops : Array Oper} {plan : List Fct} {ms : List Nat} {rest : List Oper} {o : Oper} {R R' : Rel}
theorem any_planL {J : World → Prop} {f : Nat} (hno : ∀ (j : Nat) (it : Fct), plan[j]? = some it → it.own = false ∧ it.til = none) (hJ : ∀ w w', J w → R w w' → J w') (hR : ∀ a w w', St n w0 a w e h → R w w' → St n w0 a w' e h) (hR' : ∀ a w w', St n w0 a w e h → R' w w' → St n w0 a w' e h) (hm : masks ops = ms) (hk : planOkL ops n e plan ms f = true) (ho : ObsJ P R R' J ms ops Q n w0 e h plan 0 ops.toList plan)
    (tail : ∀ a w, (∀ (j : Nat) (it : Fct), plan[j]? = some it → it.til = none → ∃ v, a.tmps[it.d]? = some v ∧ it.F v w) → St n w0 a w e h → ((∀ (j : Nat) (it : Fct), plan[j]? = some it → it.own = false) → J w) → wpList P ops Q (ops.toList.drop plan.length) a w)
    (late : ∀ a w, (∀ (j : Nat) (it : Fct), j ≠ f → plan[j]? = some it → ∃ v, a.tmps[it.d]? = some v ∧ it.F v w) → St n w0 a w e h → J w → wpList P ops Q (lateL ops.toList plan.length f) a w) :
    ∀ (fuel : Nat) (l : Array Bool) (a : Act) (w : World), l.size = ops.size → Down ops l → (∀ i, plan.length ≤ i → ¬ l.getD i false = true) → ops.size - plan.length + left l plan.length ≤ fuel → MidJ J plan n w0 e h l a w → wpAny P .any ops Q fuel l a w := by
  unfold planOkL at hk
  simp only [Bool.and_eq_true] at hk
  obtain ⟨⟨⟨⟨⟨⟨⟨⟨k1, k2⟩, k3⟩, k4⟩, k5⟩, k6⟩, k7⟩, k8⟩, k9⟩ := hk
  have hlen : plan.length ≤ ops.size := Nat.le_of_ble_eq_true k1
  have hmsl : ms.length = ops.size := by rw [← hm]; simp [masks]
  have after_all : ∀ (l : Array Bool) (i : Nat), l.size = ops.size → Down ops l → (∀ i, plan.length ≤ i → ¬ l.getD i false = true) → i ∈ Region.ready .any ops l → plan.length ≤ i → i = plan.length ∧ ∀ j, j < plan.length → j ≠ f → l.getD j false = true := by
    intro l i hs hd hB hr hge
    obtain ⟨_, o, hoo, _⟩ := mem_ready.1 hr
    have hilt : i < ops.size := (Array.getElem?_eq_some_iff.1 hoo).1
    have hg := masks_get hm hoo
    have e2 : ms.getD i 0 = maskOf (waits o) := by simp [hg]
    have hlist : ∀ j, (closeM ms i (maskOf (waits o))).testBit j = true → l.getD j false = true := fun j hc => close_listed hm hd hs i (maskOf (waits o)) (fun j hj => ready_waits hm hr j (by rw [e2]; exact hj)) j hc
    have hg2 : (ms.drop plan.length)[i - plan.length]? = some (maskOf (waits o)) := by
      rw [List.getElem?_drop, show plan.length + (i - plan.length) = i by omega]
      exact hg
    have him : i = plan.length := by
      apply Nat.le_antisymm _ hge
      apply Nat.le_of_not_lt
      intro hlt
      have hc := lineUp_get (Nat.le_refl _) k7 (i - plan.length) _ hg2 plan.length (Nat.le_refl _) (by omega)
      rw [show plan.length + (i - plan.length) = i by omega] at hc
      exact hB plan.length (Nat.le_refl _) (hlist _ hc)
    subst him
    have hdr : ms.drop plan.length = maskOf (waits o) :: ms.drop (plan.length + 1) := by
      have hlt2 : plan.length < ms.length := by omega
      rw [List.drop_eq_getElem_cons hlt2]
      congr 1
      rw [List.getElem?_eq_getElem hlt2] at hg
      exact Option.some.inj hg
    rw [hdr] at k8
    refine ⟨rfl, fun j hj hne => hlist j ?_⟩
    have k8a : (List.range plan.length).all (fun j => Nat.beq j f || (closeM ms plan.length (maskOf (waits o))).testBit j) = true := by
      unfold headOkL at k8
      cases hq : ms.drop (plan.length + 1) with
      | nil => rw [hq] at k8; exact k8
      | cons y r => rw [hq, Bool.and_eq_true] at k8; exact k8.1
    have h8 := List.all_eq_true.1 k8a j (List.mem_range.2 hj)
    rw [Bool.or_eq_true] at h8
    rcases h8 with h8 | h8
    · exact absurd (Nat.eq_of_beq_eq_true h8) hne
    · exact h8
  have fin : ∀ (fuel : Nat) (l : Array Bool) (a : Act) (w : World), l.size = ops.size → (∀ i, plan.length ≤ i → ¬ l.getD i false = true) → (∀ j, j < plan.length → l.getD j false = true) → ops.size - plan.length ≤ fuel → MidJ J plan n w0 e h l a w → wpAny P .any ops Q fuel l a w := by
    intro fuel l a w hs hB hall hf HJ
    have H := HJ.mid
    refine any_tail hm k2 k7 fuel plan.length l a w (Nat.le_refl _) hlen hf hs (fun i hi => ⟨fun h1 => ?_, fun h1 => hall i h1⟩) (tail a w (fun j it hj ht => H.vals j it hj (hall j (List.getElem?_eq_some_iff.1 hj).1) (fun k hk => by rw [ht] at hk; cases hk)) H.base (fun hno => HJ.jj fun j it hj hown => by rw [hno j it hj] at hown; cases hown))
    exact Classical.byContradiction fun hn => hB i (by omega) h1
  have late_ : ∀ (fuel : Nat) (l : Array Bool) (a : Act) (w : World), l.size = ops.size → Down ops l → (∀ i, plan.length ≤ i → ¬ l.getD i false = true) → plan.length ∈ Region.ready .any ops l → f < plan.length → (∀ j, j < plan.length → j ≠ f → l.getD j false = true) → ¬ l.getD f false = true → ops.size - plan.length ≤ fuel → MidJ J plan n w0 e h l a w → wpOp P ops Q plan.length (wpAny P .any ops Q fuel (l.setIfInBounds plan.length true)) a w := by
    intro fuel l a w hs hd hB hr hfl hoth hnf hfu HJ
    have H := HJ.mid
    obtain ⟨_, om, hom, _⟩ := mem_ready.1 hr
    have hmlt : plan.length < ops.size := (Array.getElem?_eq_some_iff.1 hom).1
    have hof : ops[f]? = some ops[f] := Array.getElem?_eq_getElem (by omega)
    have hl0 := late a w (fun j it hne hj => H.vals j it hj (hoth j (List.getElem?_eq_some_iff.1 hj).1 hne) (fun k hk => by rw [(hno j it hj).2] at hk; cases hk)) H.base (HJ.jj fun j it hj hown => by rw [(hno j it hj).1] at hown; cases hown)
    have hL : lateL ops.toList plan.length f = om :: ops[f] :: ops.toList.drop (plan.length + 1) := by
      unfold lateL
      have e1 : ops.toList.drop plan.length = om :: ops.toList.drop (plan.length + 1) := by
        rw [List.drop_eq_getElem_cons (by rw [Array.length_toList]; exact hmlt)]
        congr 1
        rw [Array.getElem?_eq_getElem hmlt] at hom
        rw [Array.getElem_toList]
        exact Option.some.inj hom
      rw [e1, Array.getElem?_toList, hof]
    rw [hL] at hl0
    have hd1 := down_set hd hr
    have hs1 : (l.setIfInBounds plan.length true).size = ops.size := by simpa using hs
    have hlm : plan.length < l.size := by omega
    -- behind the first one of the rest f alone is ready
    have next1 : ∀ a' w', wpList P ops Q (ops[f] :: ops.toList.drop (plan.length + 1)) a' w' → wpAny P .any ops Q fuel (l.setIfInBounds plan.length true) a' w' := by
      intro a' w' hl1
      obtain ⟨fuel, rfl⟩ : ∃ k, fuel = k + 1 := ⟨fuel - 1, by omega⟩
      have hnf1 : ¬ (l.setIfInBounds plan.length true).getD f false = true := fun hh => hnf (listed_set hh (by omega))
      have hfr : f ∈ Region.ready .any ops (l.setIfInBounds plan.length true) := by
        refine mem_ready.2 ⟨?_, ops[f], hof, fun x hx hb => ?_⟩
        · have hl2 : f < (l.setIfInBounds plan.length true).size := by omega
          simp [Array.getElem?_eq_getElem hl2] at hnf1 ⊢
          exact hnf1
        · have hg := masks_get hm hof
          have hx2 : (maskOf (waits ops[f])).testBit x.on = true := maskOf_bit.2 (mem_waits.2 ⟨x, hx, hb, rfl⟩)
          have := downs_get k2 f _ hg x.on hx2
          rw [set_other (by omega)]
          exact hoth _ (by omega) (by omega)
      refine ⟨fun hnil => (by rw [hnil] at hfr; cases hfr), fun i hr1 => ?_⟩
      have hu1 := not_listed hr1
      have hif : i = f := by
        apply Classical.byContradiction
        intro hne
        have hge : plan.length ≤ i := by
          apply Nat.le_of_not_lt
          intro hlt
          exact hu1 (getD_set_true (hoth i hlt hne))
        have hne2 : i ≠ plan.length := fun e1 => by
          subst e1
          exact hu1 (by simp [hlm])
        obtain ⟨_, o, hoo, _⟩ := mem_ready.1 hr1
        have hilt : i < ops.size := (Array.getElem?_eq_some_iff.1 hoo).1
        have hg := masks_get hm hoo
        have e2 : ms.getD i 0 = maskOf (waits o) := by simp [hg]
        have hlist : ∀ j, (closeM ms i (maskOf (waits o))).testBit j = true → (l.setIfInBounds plan.length true).getD j false = true := fun j hc => close_listed hm hd1 hs1 i (maskOf (waits o)) (fun j hj => ready_waits hm hr1 j (by rw [e2]; exact hj)) j hc
        by_cases him : i = plan.length + 1
        · subst him
          have hdr : ms.drop (plan.length + 1) = maskOf (waits o) :: ms.drop (plan.length + 1 + 1) := by
            have hlt2 : plan.length + 1 < ms.length := by omega
            rw [List.drop_eq_getElem_cons hlt2]
            congr 1
            rw [List.getElem?_eq_getElem hlt2] at hg
            exact Option.some.inj hg
          have hdr0 : ∃ x, ms.drop plan.length = x :: ms.drop (plan.length + 1) := ⟨_, List.drop_eq_getElem_cons (by omega)⟩
          obtain ⟨x, hdr0⟩ := hdr0
          rw [hdr0, hdr] at k8
          unfold headOkL at k8
          rw [Bool.and_eq_true] at k8
          exact hnf1 (hlist f k8.2)
        · have hg2 : (ms.drop plan.length)[i - plan.length]? = some (maskOf (waits o)) := by
            rw [List.getElem?_drop, show plan.length + (i - plan.length) = i by omega]
            exact hg
          have hc := lineUp_get (Nat.le_refl _) k7 (i - plan.length) _ hg2 (plan.length + 1) (by omega) (by omega)
          rw [show plan.length + (i - plan.length) = i by omega] at hc
          exact hB (plan.length + 1) (by omega) (listed_set (hlist _ hc) (by omega))
      subst hif
      have next2 : ∀ a' w', wpList P ops Q (ops.toList.drop (plan.length + 1)) a' w' → wpAny P .any ops Q fuel ((l.setIfInBounds plan.length true).setIfInBounds i true) a' w' := fun a' w' hl2 => by
        refine any_tail hm k2 k7 fuel (plan.length + 1) _ a' w' (by omega) (by omega) (by omega) (by simpa using hs) (fun j hj => ⟨fun h1 => ?_, fun h1 => ?_⟩) hl2
        · apply Nat.lt_of_not_le
          intro hge
          exact hB j (by omega) (listed_set (listed_set h1 (by omega)) (by omega))
        · by_cases e1 : j = i
          · subst e1
            have : j < (l.setIfInBounds plan.length true).size := by omega
            simp only [Array.getD_eq_getD_getElem?]
            rw [Array.getElem?_setIfInBounds_self_of_lt this]
            rfl
          · refine getD_set_true ?_
            by_cases e3 : j = plan.length
            · subst e3
              simp [hlm]
            · exact getD_set_true (hoth j (by omega) e1)
      unfold wpList at hl1
      unfold wpOp
      rw [hof]
      dsimp only
      split at hl1
      · rename_i hw
        rw [if_pos hw]
        exact hl1.imp (Oper.wp_mono next2) id
      · rename_i hw
        rw [if_neg hw]
        exact next2 _ _ hl1
    unfold wpList at hl0
    unfold wpOp
    rw [hom]
    dsimp only
    split at hl0
    · rename_i hw
      rw [if_pos hw]
      exact hl0.imp (Oper.wp_mono next1) id
    · rename_i hw
      rw [if_neg hw]
      exact next1 _ _ hl0
  intro fuel
  induction fuel with
  | zero =>
    intro l a w hs hd hB hf HJ
    exact fin 0 l a w hs hB (left_zero (by omega)) (by omega) HJ
  | succ fuel ih =>
    intro l a w hs hd hB hf HJ
    have H := HJ.mid
    by_cases hall : ∀ j, j < plan.length → l.getD j false = true
    · exact fin _ l a w hs hB hall (by omega) HJ
    have hex : ∃ i, i < plan.length ∧ ¬ l.getD i false = true := Classical.byContradiction fun hn => hall fun j hj => Classical.byContradiction fun hu => hn ⟨j, hj, hu⟩
    obtain ⟨i0, hi0, hu0, hlow⟩ := first_left _ hex
    refine ⟨fun hnil => ?_, fun i hr => ?_⟩
    · exfalso
      have hlt : i0 < ops.size := by omega
      have hin : i0 ∈ Region.ready .any ops l := by
        refine mem_ready.2 ⟨?_, ops[i0], Array.getElem?_eq_getElem hlt, fun x hx hb => hlow _ ?_⟩
        · have hl2 : i0 < l.size := by omega
          simp [Array.getElem?_eq_getElem hl2] at hu0 ⊢
          exact hu0
        · have hg := masks_get hm (Array.getElem?_eq_getElem hlt)
          have hx2 : (maskOf (waits ops[i0])).testBit x.on = true := maskOf_bit.2 (mem_waits.2 ⟨x, hx, hb, rfl⟩)
          have := downs_get k2 i0 _ hg x.on hx2
          omega
      rw [hnil] at hin
      cases hin
    · have hu := not_listed hr
      by_cases hge : plan.length ≤ i
      · obtain ⟨rfl, hoth⟩ := after_all l i hs hd hB hr hge
        have e0 : i0 = f := Classical.byContradiction fun hne => hu0 (hoth i0 hi0 hne)
        subst e0
        have hlf := left_pos hi0 hu0
        exact late_ fuel l a w hs hd hB hr hi0 hoth hu0 (by omega) HJ
      have hilt : i < plan.length := by omega
      have hios : i < ops.size := by omega
      have hit : plan[i]? = some plan[i] := List.getElem?_eq_getElem hilt
      have hoi : ops[i]? = some ops[i] := Array.getElem?_eq_getElem hios
      have hoi2 : ops.toList[i]? = some ops[i] := by simp [hios]
      have hob := ObsJ_get ho i _ _ hoi2 hit
      rw [Nat.zero_add] at hob
      have hdst := dstOkF_get k4 i _ _ hoi2 hit
      have hg := masks_get hm hoi
      have e2 : ms.getD i 0 = maskOf (waits ops[i]) := by simp [hg]
      have hps : ∀ j ∈ plan[i].ps, l.getD j false = true := fun j hj => ready_waits hm hr j (by rw [e2]; exact psOkF_get k3 i _ _ hg hit j hj)
      have h6 := List.all_eq_true.1 k6 _ (List.getElem_mem hilt)
      rw [Bool.and_eq_true] at h6
      have hdn : plan[i].d < n := by
        have := h6.1
        rw [Nat.blt_eq] at this
        exact this
      have hen : ∀ p ∈ e, p.1 ≠ plan[i].d := fun p hp e1 => by
        have := List.all_eq_true.1 h6.2 p hp
        rw [e1, Nat.beq_refl] at this
        cases this
      have hdd : ∀ j jt, plan[j]? = some jt → j ≠ i → jt.d ≠ plan[i].d := fun j jt hj hne =>
        distinct_get k5 j i jt.d plan[i].d (by rw [List.getElem?_map, hj]; rfl) (by rw [List.getElem?_map, hit]; rfl) hne
      have hs2 : (l.setIfInBounds i true).size = ops.size := by simpa using hs
      have hd2 := down_set hd hr
      have hB2 : ∀ j, plan.length ≤ j → ¬ (l.setIfInBounds i true).getD j false = true := fun j hj hl => hB j hj (listed_set hl (by omega))
      have hf2 : ops.size - plan.length + left (l.setIfInBounds i true) plan.length ≤ fuel := by
        have := left_set (l := l) (i := i) (by omega) hu plan.length hilt
        omega
      unfold wpOp
      rw [hoi]
      dsimp only
      have hin := List.all_eq_true.1 k9 i (List.mem_range.2 hilt)
      rw [hit] at hin
      simp only [Bool.and_eq_true] at hin
      obtain ⟨hin1, hin2⟩ := hin
      obtain ⟨e', hob2, hst⟩ := Chain.get (fun j hj it hjt => H.vals j it hjt (hps j hj) (fun k hk hl => by
        have := List.all_eq_true.1 hin1 j hj
        unfold tilOk at this
        rw [hjt] at this
        simp only [hk] at this
        rw [Nat.eq_of_beq_eq_true this] at hl
        exact hu hl)) (hob.1 a w) H.base
      have hob3 := hob2 hst (fun hoj => HJ.jj (fun j jt hj hown hl => by
        have hjp : j < plan.length := (List.getElem?_eq_some_iff.1 hj).1
        have hc := List.all_eq_true.1 hoj j (List.mem_range.2 hjp)
        rw [hj] at hc
        simp only [hown, Bool.not_true, Bool.false_or, Bool.or_eq_true] at hc
        rcases hc with hc | hc
        · rw [Nat.eq_of_beq_eq_true hc] at hl
          exact hu hl
        · have hjo : j < ops.size := by omega
          have hgj := masks_get hm (Array.getElem?_eq_getElem hjo)
          have e3 : ms.getD j 0 = maskOf (waits ops[j]) := by simp [hgj]
          refine hu (close_listed hm hd hs j _ (fun m hm2 => ?_) i hc)
          rw [e3, maskOf_bit, mem_waits] at hm2
          obtain ⟨x, hx, hb3, rfl⟩ := hm2
          exact hd j _ (Array.getElem?_eq_getElem hjo) hl x hx hb3))
      have fin : ∀ a' w', (∃ v, a' = a.put ops[i].dst v ∧ plan[i].rel R R' w w' ∧ plan[i].F v w') → wpAny P .any ops Q fuel (l.setIfInBounds i true) a' w' := ?_
      · rcases hob3 with ⟨hw, hwp2⟩ | ⟨hw, hp⟩
        · rw [hw, if_pos rfl]
          exact .inl (Oper.wp_mono fin hwp2)
        · rw [hw, if_neg (by decide)]
          exact fin _ _ hp
      intro a' w' hx
      obtain ⟨v, rfl, hb, hF⟩ := hx
      rw [hdst]
      have stab : ∀ (j : Nat) (jt : Fct), plan[j]? = some jt → (∀ v w w', jt.F v w → R w w' → jt.F v w') ∧ (jt.til = none → ∀ v w w', jt.F v w → R' w w' → jt.F v w') := fun j jt hj => by
        have hjl : j < ops.size := by have := (List.getElem?_eq_some_iff.1 hj).1; omega
        exact (ObsJ_get ho j ops[j] jt (by simp [hjl]) hj).2
      have hil : i < l.size := by omega
      cases hown : plan[i].own with
      | false =>
        unfold Fct.rel at hb
        rw [hown] at hb
        exact ih _ _ _ hs2 hd2 hB2 hf2 ⟨H.put hit hdn hen hdd (fun j jt hj _ _ _ v hv => (stab j jt hj).1 v w w' hv hb) (hR _ _ _ H.base hb) hF, fun hn => hJ _ _ (HJ.jj fun j jt hj hown hl => hn j jt hj hown (getD_set_true hl)) hb⟩
      | true =>
        unfold Fct.rel at hb
        rw [hown] at hb
        rw [hown] at hin2
        have hin2 : ownOk ms plan i = true := by simpa using hin2
        refine ih _ _ _ hs2 hd2 hB2 hf2 ⟨H.put hit hdn hen hdd (fun j jt hj hne hl ht v hv => ?_) (hR' _ _ _ H.base hb) hF, fun hn => ?_⟩
        rotate_left
        · exact absurd (by simp [hil]) (hn i _ hit hown)
        cases htil : jt.til with
        | none => exact (stab j jt hj).2 htil v w w' hv hb
        | some k =>
          exfalso
          have hnk := ht k htil
          have hjp : j < plan.length := (List.getElem?_eq_some_iff.1 hj).1
          have hc := List.all_eq_true.1 hin2 j (List.mem_range.2 hjp)
          rw [hj] at hc
          simp only [htil, Bool.or_eq_true] at hc
          rcases hc with ((hc | hc) | hc) | hc
          · rw [Nat.eq_of_beq_eq_true hc] at hnk
            exact hnk (by simp [show i < l.size by omega])
          · exact hne (Nat.eq_of_beq_eq_true hc)
          · exact hnk (getD_set_true (close_listed hm hd hs i _ (ready_waits hm hr) k hc))
          · have hjo : j < ops.size := by omega
            have hgj := masks_get hm (Array.getElem?_eq_getElem hjo)
            have e3 : ms.getD j 0 = maskOf (waits ops[j]) := by simp [hgj]
            refine hu (close_listed hm hd hs j _ (fun m hm2 => ?_) i hc)
            rw [e3, maskOf_bit, mem_waits] at hm2
            obtain ⟨x, hx, hb3, rfl⟩ := hm2
            exact hd j _ (Array.getElem?_eq_getElem hjo) hl x hx hb3
end
section
variable {P : Program} {n : Nat} {w0 w w' : World} {a : Act} {e e' : Env} {h h' : Hep} {G G' : List (World → Prop)} {Q : Exit → Act → World → Prop} {ops : Array Oper} {rest l : List Oper} {o : Oper} {plan : List It2}
/-- **The region.** -/
theorem d2L {id : Nat} (plan : List It2) (f : Nat) (hf : P.follows .mixedOrders = true) (hk : planOkL ops n e (plan.map It2.fct) (masks ops) f = true) (H : St n w0 a w e h) (g : GS G w) [hL : LastsL G] (ho : Obs2 P ops Q n w0 e h G plan ops.toList plan)
    (tail : nxt2 plan (fun e' G' => Rn P n w0 Q ops (ops.toList.drop plan.length) e' h G') e G)
    (late : nxt2 (plan.eraseIdx f) (fun e' G' => Rn P n w0 Q ops (lateL ops.toList plan.length f) e' h G') e G) : (Code.region id ops true).wp P Q a w := by
  refine wp_region_any hf ?_
  have none_ : ∀ i, ¬ (Array.replicate ops.size false).getD i false = true := fun i hi => by
    by_cases h : i < ops.size
    · simp [h] at hi
    · simp [h] at hi
  have hlen : (plan.map It2.fct).length = plan.length := List.length_map _
  refine any_planL (J := GS G) (fun j it hj => by
    rw [List.getElem?_map] at hj
    obtain ⟨x, _, rfl⟩ := Option.map_eq_some_iff.1 hj
    cases x <;> exact ⟨rfl, rfl⟩) (fun w w' h hb => hL.all _ _ h hb) (fun a w w' H hb => H.call hb) (fun a w w' H hb => H.call hb) rfl hk (Obs2.out 0 (no_own _ _) ho) (fun a w hv hst hg => ?_) (fun a w hv hst hg => ?_) ops.size _ a w.drew (by simp) (fun i o _ hi => absurd hi (none_ i)) (fun i _ => none_ i) ?_ ⟨⟨H.drew, fun j _ _ hj => absurd hj (none_ j)⟩, fun _ => hL.all _ _ g (Below.refl _ _).drew⟩
  · obtain ⟨e', G', h1, h2, h3⟩ := nxt2_of a w tail hst (hg fun j it hj => by
      rw [List.getElem?_map] at hj
      obtain ⟨x, _, rfl⟩ := Option.map_eq_some_iff.1 hj
      cases x <;> rfl) fun it hi => by
        obtain ⟨j, hj⟩ := List.mem_iff_getElem?.1 hi
        exact hv j it.fct (by rw [List.getElem?_map, hj]; rfl) (by cases it <;> rfl)
    rw [hlen]
    exact h1 a w h2 h3
  · obtain ⟨e', G', h1, h2, h3⟩ := nxt2_of a w late hst hg fun it hi => by
        obtain ⟨j, hj⟩ := List.mem_iff_getElem?.1 hi
        rw [List.getElem?_eraseIdx] at hj
        split at hj
        · exact hv j it.fct (by omega) (by rw [List.getElem?_map, hj]; rfl)
        · exact hv (j + 1) it.fct (by omega) (by rw [List.getElem?_map, hj]; rfl)
    rw [hlen]
    exact h1 a w h2 h3
  · have := left_le (Array.replicate ops.size false) (plan.map It2.fct).length
    unfold planOkL at hk
    simp only [Bool.and_eq_true] at hk
    have := Nat.le_of_ble_eq_true hk.1.1.1.1.1.1.1.1
    omega
end
end Go.Proofs.YtiafcgoiolbdhaaDoor
