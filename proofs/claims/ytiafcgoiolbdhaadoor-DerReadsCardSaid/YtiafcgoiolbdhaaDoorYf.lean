/- Words, contracts and walks (Xq, Xr, Lr, Ls, Lu, Lv, Xs, Oe, Lz, Li), laid together. No condition. -/
import Derived.Test.YtiafcgoiolbdhaaDoorYe
import Derived.Shelf.Unicode.ValidAny
import Derived.Lib.LaidU8T
import Derived.MakeChecks
import Derived.LaidMore
import Derived.Lay
import Derived.ProofKit
import Derived.Stop.Joined
import Derived.OpenShut
import Derived.ChangeOld
import Derived.ChangeArms
import Derived.Below
import Derived.Test.YtiafcgoiolbdhaaDoorRows
namespace Go.Proofs.YtiafcgoiolbdhaaDoor
set_option linter.unusedVariables false
set_option linter.unusedSimpArgs false
set_option maxRecDepth 100000
open Go Go.RowKit
/-- The document's bytes; none where there is an error. -/
def bytesB (u8 : List UInt8 → Bool) (T : DT) : List UInt8 := if bytesE u8 T = 0 then packD 12 T else []
theorem bytes_is {u8 : List UInt8 → Bool} {T : DT} : (mayD u8 12 T = false → bytesE u8 T = 2 ∧ bytesB u8 T = []) ∧ (mayD u8 12 T = true → 65000 < (packD 12 T).length → bytesE u8 T = 3 ∧ bytesB u8 T = []) ∧ (mayD u8 12 T = true → (packD 12 T).length ≤ 65000 → bytesE u8 T = 0 ∧ bytesB u8 T = packD 12 T) := by
  refine ⟨fun h => ?_, fun h h2 => ?_, fun h h2 => ?_⟩
  · have e : bytesE u8 T = 2 := by unfold bytesE; rw [h]; rfl
    exact ⟨e, by unfold bytesB; rw [e]; rfl⟩
  · have e : bytesE u8 T = 3 := by unfold bytesE; rw [if_pos h, if_pos h2]
    exact ⟨e, by unfold bytesB; rw [e]; rfl⟩
  · have e : bytesE u8 T = 0 := by unfold bytesE; rw [if_pos h, if_neg (by omega)]
    exact ⟨e, by unfold bytesB; rw [if_pos e]⟩
abbrev few (T : DT) : Prop := 0 ≤ bigD T 600
def BytesOk (f : FuncId) (u8 : List UInt8 → Bool) (T : DT) (v : Value) (W : World) : Prop := Calls Tryd.prog f #[v] W (fun rr w' => ∃ t, rr = .returned t ∧ Below W.heap.size W w' ∧ TF (bytesB u8 T) (.int .i64 ((bytesE u8 T : Nat) : Int)) t w')
theorem form_few {T : DT} (h : (packD 12 T).length ≤ 65000) : formQ 12 T = packD 12 T := (formQ_like 12 T).2 h
theorem form_many {T : DT} (h : 65000 < (packD 12 T).length) : 65000 < (formQ 12 T).length := by
  by_cases h2 : 65000 < (formQ 12 T).length
  · exact h2
  · rw [(formQ_like 12 T).1 (by omega)] at h2
    omega
theorem form_len2 {T : DT} : (65000 < (formQ 12 T).length) ↔ 65000 < (packD 12 T).length := by
  constructor
  · intro h
    by_cases h2 : 65000 < (packD 12 T).length
    · exact h2
    · rw [form_few (by omega)] at h
      omega
  · exact form_many
attribute [local irreducible] bvs byteD rb nodesL ownD mayD packD formQ bytesE bytesB
set_option maxHeartbeats 4000000 in
theorem derbytes_walk {x : DH} {T : DT} (u8 : List UInt8 → Bool) (w : World) (hu8 : UV u8 w) (hpg : PGt w) (hdy : DY w T x) (hN : nodesD T ≤ 1000000) (hlf : leafOk 12 T) : Calls Tryd.prog 12 #[.agg (x.cs)] w (fun rr w' => ∃ t, rr = .returned t ∧ Below w.heap.size w w' ∧ TF (bytesB u8 T) (.int .i64 ((bytesE u8 T : Nat) : Int)) t w') := by
  refine calls_st (vs := [.agg (x.cs)]) 14 Tryd.func12 rfl Tryd.ntmps12 rfl (fun a W H => ?_)
  replace H : St 14 w a W [(0, .agg (x.cs))] [] := H
  refine sqR H gs0 fun Z_ z_ => rB rfl rfl rfl (bx_der x) fun g1 => rS 2 rfl <| rK [1, 1, 1, 0] [] [] <| rN0 z_ ?_
  try clear H a W
  intro a W H
  refine wp_seq_k (fun K2 hK2 => ?_)
  refine wp_seq_k (fun K3 hK3 => ?_)
  cases hq1 : mayD u8 12 T with
  | true =>
    refine rgP H gs0 (rV rfl (does_load rfl rfl (k := 0) rfl Tryd.underlying27 rfl (info_der x)) <| rV rfl (does_call rfl ⟨_, Tryd.func14, by kernel_rfl⟩ rfl (fun W hb => by have h_ := dermay_walk u8 W (hu8.ext hb) (hdy.lasts hb) hN; rw [hq1] at h_; exact h_)) <| rS 1 rfl <| rK [1, 0, 0] [] [] <| rZ0 ?_)
    try clear H a W
    intro a W H
    refine hK3 _ _ ?_
    clear hK3
    refine wp_cond_false (H.ev rfl) ?_
    refine wp_skip ?_
    refine hK2 _ _ ?_
    clear hK2
    refine sqR H gs0 fun Z_ z_ => rV rfl (does_load rfl rfl (k := 0) rfl Tryd.underlying27 rfl (info_der x)) <| rC rfl rfl ⟨_, Tryd.func31, by kernel_rfl⟩ rfl (fun a W H _ => (form_sees u8 hdy.dx 12 _ (Nat.le_refl _) ((Sees.refl (Nat.le_refl _)).below H.below) (hpg.ext H.below) hq1 hlf)) fun v9 => rS 1 rfl <| rK [1, 0, 0, 0, 1, 1, 0] [] [] <| rN z_ ?_
    try clear H a W
    rintro a W H ⟨hv9, -⟩
    obtain ⟨A4, n4, c4, rfl, hb4⟩ := hv9
    have hv4 : BF (formQ 12 T) (.slice A4 n4 c4) W := ⟨_, _, _, rfl, hb4⟩
    have hn4 := hb4.len
    replace H : St 14 w a W [(4, .slice A4 n4 c4), (3, .int .i64 0), (2, .slice none 0 0)] [(g1, 27, x.cs)] := H
    refine wp_seq_k (fun K5 hK5 => ?_)
    refine sqR H (gsC hv4 gs0) fun Z_ z_ => rS 1 rfl <| rV rfl (does_len Tryd.underlying23 rfl rfl) <| rV rfl (does_binOp rfl rfl rfl (z_cmp.2.1 rfl _ _)) <| rK [1, 0, 0] [] [] <| rN z_ ?_
    try clear hv4 H a W
    rintro a W H ⟨hv4, -⟩
    cases hq2 : decide (65000 < ((n4 : Nat) : Int)) with
    | true =>
      rw [hq2] at H
      have hq2p := of_decide_eq_true hq2
      refine wp_cond_true (H.ev rfl) ?_
      refine sqR H (gsC hv4 gs0) fun Z_ z_ => rK [1, 1, 1, 0] [] [] <| rS 1 rfl <| rK [1, 1, 1, 0] [] [] <| rS 1 rfl <| rK [1, 1, 0] [] [] <| rN z_ ?_
      try clear hv4 H a W
      rintro a W H ⟨hv4, -⟩
      refine wp_ret ?_
      repeat (first | (with_reducible refine then_ret ?_) | (with_reducible refine blk_ret ?_))
      refine end_tmps2 (p := 2) (q := 3) rfl rfl rfl H (fun hb => ?_)
      have hl_ : 65000 < (packD 12 T).length := form_len2.1 (by omega)
      refine ⟨_, rfl, hb, ?_⟩
      rw [(bytes_is.2.1 hq1 hl_).1, (bytes_is.2.1 hq1 hl_).2]
      exact ⟨_, rfl, BF.nil _⟩
    | false =>
      rw [hq2] at H
      have hq2p := of_decide_eq_false hq2
      refine wp_cond_false (H.ev rfl) ?_
      refine wp_skip ?_
      refine hK5 _ _ ?_
      clear hK5
      refine sqR H (gsC hv4 gs0) fun Z_ z_ => rS 1 rfl <| rK [1, 1, 1, 1, 0] [] [] <| rS 1 rfl <| rK [1, 1, 1, 1, 0] [] [] <| rS 1 rfl <| rK [1, 1, 0, 0, 0] [] [] <| rN z_ ?_
      try clear hv4 H a W
      rintro a W H ⟨hv4, -⟩
      refine wp_ret ?_
      repeat (first | (with_reducible refine then_ret ?_) | (with_reducible refine blk_ret ?_))
      refine end_tmps2 (p := 2) (q := 3) rfl rfl rfl H (fun hb => ?_)
      have hl_ : (packD 12 T).length ≤ 65000 := Nat.le_of_not_lt fun h => absurd (form_len2.2 h) (by omega)
      refine ⟨_, rfl, hb, ?_⟩
      rw [(bytes_is.2.2 hq1 hl_).1, (bytes_is.2.2 hq1 hl_).2, ← form_few hl_]
      exact ⟨_, rfl, hv4⟩
  | false =>
    refine rgP H gs0 (rV rfl (does_load rfl rfl (k := 0) rfl Tryd.underlying27 rfl (info_der x)) <| rV rfl (does_call rfl ⟨_, Tryd.func14, by kernel_rfl⟩ rfl (fun W hb => by have h_ := dermay_walk u8 W (hu8.ext hb) (hdy.lasts hb) hN; rw [hq1] at h_; exact h_)) <| rS 1 rfl <| rK [1, 0, 0] [] [] <| rZ0 ?_)
    try clear H a W
    intro a W H
    refine hK3 _ _ ?_
    clear hK3
    refine wp_cond_true (H.ev rfl) ?_
    refine sqR H gs0 fun Z_ z_ => rK [1, 1, 0] [] [] <| rS 1 rfl <| rK [1, 1, 0] [] [] <| rS 1 rfl <| rK [1, 1, 0] [] [] <| rN0 z_ ?_
    try clear H a W
    intro a W H
    refine wp_ret ?_
    repeat (first | (with_reducible refine then_ret ?_) | (with_reducible refine blk_ret ?_))
    refine end_tmps2 (p := 2) (q := 3) rfl rfl rfl H (fun hb => ?_)
    refine ⟨_, rfl, hb, ?_⟩
    rw [(bytes_is.1 hq1).1, (bytes_is.1 hq1).2]
    exact ⟨_, rfl, BF.nil _⟩
end Go.Proofs.YtiafcgoiolbdhaaDoor
namespace Go.Proofs.YtiafcgoiolbdhaaDoor
set_option linter.unusedVariables false
set_option linter.unusedSimpArgs false
set_option maxRecDepth 100000
open Go Go.RowKit
def zeroT : DT := .mk 0 false 0 [] [] [] []
def okD (u8 : List UInt8 → Bool) (l : List UInt8) : Bool := (ofD u8 l).isSome
def ofT (u8 : List UInt8 → Bool) (l : List UInt8) : DT := (ofD u8 l).getD zeroT
def ofE (u8 : List UInt8 → Bool) (l : List UInt8) : Nat := if okD u8 l = true then 0 else 4
theorem ofE_yes {u8 : List UInt8 → Bool} {l : List UInt8} (h : okD u8 l = true) : ofE u8 l = 0 := if_pos h
theorem ofE_no {u8 : List UInt8 → Bool} {l : List UInt8} (h : okD u8 l = false) : ofE u8 l = 4 := if_neg (by rw [h]; decide)
/-- A pair of a value that reads as a tree, and another one. -/
def TD (T : DT) (E : Value) (v : Value) (w : World) : Prop := ∃ x : DH, v = .tuple #[.agg x.cs, E] ∧ DX w w.heap.size T x
theorem fill_kids (k n : Int) (c : List UInt8) : kidsOf (fillQ k n c) = [] := by
  unfold fillQ
  repeat' split
  all_goals rfl
theorem fill_leaf (d : Nat) (k n : Int) {c : List UInt8} (h : c.length ≤ 100000) : leafOk (d + 1) (fillQ k n c) := by
  unfold fillQ
  repeat' split
  all_goals exact ⟨by first | exact Nat.zero_le _ | exact h | (rw [List.length_drop]; omega), by first | exact Nat.zero_le _ | exact h, fun T hT => by cases hT⟩
theorem kids_all {rd : List UInt8 → DT × List UInt8} {P : DT → Prop} {m : Nat} (h : ∀ l, l.length ≤ m → P (rd l).1) (hle : ∀ l, (rd l).2.length ≤ l.length) : ∀ (f e : Nat) (l : List UInt8), l.length ≤ m → ∀ T ∈ (kidsRQ rd f e l).1, P T
  | 0, e, l, hl, T, hT => by cases hT
  | f + 1, e, l, hl, T, hT => by
    unfold kidsRQ at hT
    split at hT
    · rcases List.mem_cons.1 hT with rfl | hT
      · exact h l hl
      · exact kids_all h hle f e _ (Nat.le_trans (hle l) hl) T hT
    · cases hT
theorem kidsOf_all {rd : List UInt8 → DT × List UInt8} {P : DT → Prop} {m : Nat} (h : ∀ l, l.length ≤ m → P (rd l).1) (hle : ∀ l, (rd l).2.length ≤ l.length) (l : List UInt8) (n : Int) (s : Bool) (hl : l.length ≤ m) : ∀ T ∈ (kidsOfQ rd l n s).1, P T := by
  unfold kidsOfQ
  split
  · exact fun T hT => by cases hT
  · exact kids_all h hle _ _ l hl
theorem readQ_leaf : ∀ (d : Nat) (l : List UInt8), l.length ≤ 100000 → leafOk d (readQ d l).1
  | 0, l, _ => trivial
  | d + 1, l, hl => by
    unfold readQ
    have h2 := Nat.le_trans (lenQ_le (numQ l 1).2) (numQ_le l 1)
    split
    · exact ⟨Nat.zero_le _, Nat.zero_le _, kidsOf_all (fun l hl => readQ_leaf d l hl) (readQ_le d) _ _ _ (Nat.le_trans h2 hl)⟩
    · exact fill_leaf d _ _ (Nat.le_trans (Nat.le_trans (Nat.le_add_right _ _) (takeQ_le _ _).2) (Nat.le_trans h2 hl))
theorem kids_nodes {rd : List UInt8 → DT × List UInt8} (h : ∀ l, 0 < l.length → nodesD (rd l).1 + (rd l).2.length ≤ l.length) : ∀ (f e : Nat) (l : List UInt8), nodesL (kidsRQ rd f e l).1 + (kidsRQ rd f e l).2.length ≤ l.length
  | 0, e, l => by
    show nodesL [] + l.length ≤ l.length
    rw [nodesL_nil]
    omega
  | f + 1, e, l => by
    unfold kidsRQ
    split
    · have h1 := h l (by omega)
      have h2 := kids_nodes h f e (rd l).2
      show nodesD (rd l).1 + nodesL (kidsRQ rd f e (rd l).2).1 + (kidsRQ rd f e (rd l).2).2.length ≤ _
      omega
    · show nodesL [] + l.length ≤ l.length
      rw [nodesL_nil]
      omega
theorem readQ_nodes : ∀ (d : Nat) (l : List UInt8), 0 < l.length → nodesD (readQ (d + 1) l).1 + (readQ (d + 1) l).2.length ≤ l.length := by
  intro d
  induction d with
  | zero =>
    intro l hl
    unfold readQ
    have h1 := numQ_lt hl
    have h2 := lenQ_le (numQ l 1).2
    split
    · have e : kidsOfQ (readQ 0) (lenQ (numQ l 1).2).2 (lenQ (numQ l 1).2).1 (decide ((0 : Nat) = 0)) = ([], (lenQ (numQ l 1).2).2) := if_pos (.inr (.inr (.inr rfl)))
      rw [e]
      dsimp only
      rw [nodes_eq]
      show 1 + nodesL [] + _ ≤ _
      rw [nodesL_nil]
      omega
    · dsimp only
      rw [nodes_eq, fill_kids, nodesL_nil]
      have := (takeQ_le (lenQ (numQ l 1).2).2 (lenQ (numQ l 1).2).1).1
      omega
  | succ d ih =>
    intro l hl
    unfold readQ
    have h1 := numQ_lt hl
    have h2 := lenQ_le (numQ l 1).2
    split
    · have key : nodesL (kidsOfQ (readQ (d + 1)) (lenQ (numQ l 1).2).2 (lenQ (numQ l 1).2).1 (decide (d + 1 = 0))).1 + (kidsOfQ (readQ (d + 1)) (lenQ (numQ l 1).2).2 (lenQ (numQ l 1).2).1 (decide (d + 1 = 0))).2.length ≤ (lenQ (numQ l 1).2).2.length := by
        unfold kidsOfQ
        split
        · show nodesL [] + (lenQ (numQ l 1).2).2.length ≤ _
          rw [nodesL_nil]
          omega
        · exact kids_nodes ih _ _ _
      dsimp only
      rw [nodes_eq]
      show 1 + nodesL (kidsOfQ (readQ (d + 1)) _ _ _).1 + _ ≤ _
      omega
    · dsimp only
      rw [nodes_eq, fill_kids, nodesL_nil]
      have := (takeQ_le (lenQ (numQ l 1).2).2 (lenQ (numQ l 1).2).1).1
      omega
theorem readQ_few (d : Nat) {l : List UInt8} (hl : l.length ≤ 100000) : nodesD (readQ (d + 1) l).1 ≤ 1000000 := by
  by_cases h : 0 < l.length
  · have := readQ_nodes d l h
    omega
  · have e : l = [] := List.eq_nil_of_length_eq_zero (by omega)
    subst e
    have e1 : numQ [] 1 = (0, []) := rfl
    have hk : ¬ isKids (kindQ 0) := by decide
    unfold readQ
    rw [e1]
    dsimp only
    rw [if_neg hk]
    dsimp only
    rw [nodes_eq, fill_kids, nodesL_nil]
    decide
theorem of_readQ {u8 : List UInt8 → Bool} {l : List UInt8} (hl : l.length ≤ 65000) : (mayD u8 12 (readQ 12 l).1 = true → packD 12 (readQ 12 l).1 = l → ofD u8 l = some (readQ 12 l).1) ∧ (¬ (mayD u8 12 (readQ 12 l).1 = true ∧ packD 12 (readQ 12 l).1 = l) → ofD u8 l = none) := by
  refine ⟨fun h e => ?_, fun h => ?_⟩
  · have := of_pack h (by rw [e]; exact hl)
    rwa [e] at this
  · cases hU : ofD u8 l with
    | none => rfl
    | some U =>
      obtain ⟨h1, h2, h3⟩ := of_some hU
      have hr := readQ_pack u8 12 U [] h1 (by rw [h2]; exact h3) (by rw [h2, List.length_nil]; omega)
      rw [List.append_nil, h2] at hr
      refine absurd ⟨?_, ?_⟩ h
      · rw [hr]
        exact h1
      · rw [hr]
        exact h2
theorem of_long {u8 : List UInt8 → Bool} {l : List UInt8} (h : 65000 < l.length) : ofD u8 l = none := by
  unfold ofD
  exact if_pos h
theorem bytes_ok {u8 : List UInt8 → Bool} {T : DT} {l : List UInt8} (hl : l.length ≤ 65000) : (bytesE u8 T = 0 ∧ bytesB u8 T = l) ↔ (mayD u8 12 T = true ∧ packD 12 T = l) := by
  cases hm : mayD u8 12 T with
  | false =>
    rw [(bytes_is.1 hm).1]
    constructor
    · rintro ⟨h, _⟩
      cases h
    · rintro ⟨h, _⟩
      cases h
  | true =>
    by_cases h2 : 65000 < (packD 12 T).length
    · rw [(bytes_is.2.1 hm h2).1]
      constructor
      · rintro ⟨h, _⟩
        cases h
      · rintro ⟨_, h⟩
        rw [h] at h2
        omega
    · have h3 := bytes_is.2.2 hm (Nat.le_of_not_lt h2)
      rw [h3.1, h3.2]
      simp
section
variable {n : Nat} {w0 w w' : World} {a : Act} {e : Env} {h : Hep} {Q : Exit → Act → World → Prop} {ops : Array Oper} {rest : List Oper} {o o' : Oper}
/-- A reader is made, and a value read from it. -/
theorem pl_readAll {d d' : Nat} {y : Operand} {tys tys' : Array TypeId} {v : Value} {l : List UInt8} (ho : o.op = .call { callee := .value (.func 38), args := #[y], argTypes := tys }) (hg : o.guard = none) (hd : o.dst = some d) (ho' : o'.op = .call { callee := .value (.func 37), args := #[.tmp d, .const (.int .i64 12)], argTypes := tys' }) (hg' : o'.guard = none) (hd' : o'.dst = some d')
    (hy : sev e y = some v) (hv : BF l v w) (hll : l.length ≤ 100000) (hpg : PGt w0) (hl : Nat.blt d n = true) (hl' : Nat.blt d' n = true) (hne : Nat.beq d d' = false) (hf : e.all (fun p => !Nat.beq p.1 d) = true) (hf' : e.all (fun p => !Nat.beq p.1 d') = true) (H : St n w0 a w e h)
    (next : ∀ x t a w', DC (TN t) (readQ 12 l).1 x → St n w0 a w' ((d', .agg x.cs) :: e) (h ++ t) → wpList Tryd.prog ops Q rest a w') : wpList Tryd.prog ops Q (o :: o' :: rest) a w :=
  wpList_plain hg fun K hK => by
    obtain ⟨A, m, c0, rfl, hb0⟩ := hv
    unfold Oper.wp
    rw [run_call (args := [y]) ho ⟨_, Tryd.func38, by kernel_rfl⟩ rfl, H.evs (xs := [y]) (vs := [.slice A m c0]) (by simp [sevs, hy]), Oper.upon_enter]
    refine (wread_any w ⟨_, _, _, rfl, hb0⟩ (by omega)).mono ?_
    rintro r W1 ⟨wm, g, c, rfl, hbm, Km, hr⟩
    refine hK _ _ ?_
    rw [hd]
    have hb1 : Below w.heap.size w W1 := hbm.trans (Km.below.mono hbm.size)
    have H1 : St n w0 (a.put (some d) (.pointer (some ⟨g, 0, none⟩))) W1 ((d, .pointer (some ⟨g, 0, none⟩)) :: e) h := (H.call hb1).put _ hl hf
    refine wpList_plain hg' fun K hK => ?_
    unfold Oper.wp
    rw [run_call (args := [.tmp d, .const (.int .i64 12)]) ho' ⟨_, Tryd.func37, by kernel_rfl⟩ rfl, H1.evs (xs := [.tmp d, .const (.int .i64 12)]) (vs := [.pointer (some ⟨g, 0, none⟩), .int .i64 12]) (by simp [sevs, sev, look]), Oper.upon_enter]
    have hpgm : PGt wm := (hpg.ext H.below).ext hbm
    refine ((kdA_rdA 11 (by decide)).2 wm W1 g c [] l hll hpgm hr Km).mono ?_
    rintro r W2 ⟨⟨x, t, c'⟩, rfl, ⟨hdc, _⟩, K2⟩
    dsimp only at hdc K2 ⊢
    have K3 : Kn wm W2 t := by
      have := K2.sub (h' := t ++ []) (List.sublist_cons_self _ _)
      rwa [List.append_nil] at this
    have hb2 : Below w.heap.size w W2 := hbm.trans (K3.below.mono hbm.size)
    refine hK _ _ (next x t _ _ hdc ?_)
    rw [hd']
    have H2 : St n w0 (a.put (some d) (.pointer (some ⟨g, 0, none⟩))) W2 ((d, .pointer (some ⟨g, 0, none⟩)) :: e) (h ++ t) := by
      have Hn := H.news hb2 ⟨K3.heap, fun p hp => Nat.le_trans hbm.size (K3.own p hp), K3.apart⟩
      exact Hn.put _ hl hf
    have H3 := H2.put (d := d') (.agg x.cs) hl' (by
      simp only [List.all_cons, hf', Bool.and_true, Bool.not_eq_true']
      exact hne)
    exact H3.sub (fun p hp => by
      rcases List.mem_cons.1 hp with rfl | hp
      · exact List.mem_cons_self
      · exact List.mem_cons_of_mem _ (List.mem_cons_of_mem _ hp)) (fun _ h => h) H3.apart
end
attribute [local irreducible] bvs byteD rb nodesL ownD mayD packD formQ bytesE bytesB readQ ofD
set_option maxHeartbeats 4000000 in
theorem derof_walk {Ab : Option Addr} {nb cb : Nat} {lb : List UInt8} (u8 : List UInt8 → Bool) (w : World) (hu8 : UV u8 w) (hpg : PGt w) (hFb : BF lb (.slice Ab nb cb) w) (hlb : lb.length = nb) : Calls Tryd.prog 19 #[.slice Ab nb cb] w (fun rr w' => ∃ t, rr = .returned t ∧ Below w.heap.size w w' ∧ TD (ofT u8 lb) (.int .i64 ((ofE u8 lb : Nat) : Int)) t w') := by
  refine calls_st (vs := [.slice Ab nb cb]) 29 Tryd.func19 rfl Tryd.ntmps19 rfl (fun a W H => ?_)
  replace H : St 29 w a W [(0, .slice Ab nb cb)] [] := H
  refine sqR H gs0 fun Z_ z_ => rA rfl rfl al_der fun g1 => rS 1 rfl <| rN0 z_ ?_
  try clear H a W
  intro a W H
  refine wp_seq_k (fun K2 hK2 => ?_)
  refine sqR H gs0 fun Z_ z_ => rS 1 rfl <| rV rfl (does_len Tryd.underlying23 rfl rfl) <| rV rfl (does_binOp rfl rfl rfl (z_cmp.2.1 rfl _ _)) <| rK [1, 0, 0] [] [] <| rN0 z_ ?_
  try clear H a W
  intro a W H
  cases hq1 : decide (65000 < ((nb : Nat) : Int)) with
  | true =>
    rw [hq1] at H
    have hq1p := of_decide_eq_true hq1
    refine wp_cond_true (H.ev rfl) ?_
    refine sqR H gs0 fun Z_ z_ => rV rfl (does_build (ps := []) rfl rfl bd_der0) <| rW [1] ⟨rfl, rfl⟩ rfl rfl rfl (info_der (DH.mk 0 false 0 SL.no [] SL.no SL.no)) (size_der DH.no (DH.mk 0 false 0 SL.no [] SL.no SL.no)) (DH.mk 0 false 0 SL.no [] SL.no SL.no).one <| rK [1, 1, 0] [] [] <| rS 1 rfl <| rK [1, 0, 0] [] [] <| rN0 z_ ?_
    try clear H a W
    intro a W H
    refine wp_ret ?_
    repeat (first | (with_reducible refine then_ret ?_) | (with_reducible refine blk_ret ?_))
    refine end_cell_tmp (p := 2) (q := 3) rfl rfl rfl (k := 0) rfl Tryd.underlying27 rfl (info_der _) H (fun hb => ?_)
    have ho_ : ofD u8 lb = none := of_long (by omega)
    refine ⟨_, rfl, hb, (DH.mk 0 false 0 SL.no [] SL.no SL.no), ?_, ?_⟩
    · rw [show ofE u8 lb = 4 from ofE_no (by unfold okD; rw [ho_]; rfl)]; rfl
    · rw [show ofT u8 lb = zeroT from by unfold ofT; rw [ho_]; rfl]
      exact (dc_flat (C := fun _ _ _ => False) (by decide) (by decide) (by decide)).dx (fun _ _ _ h => h.elim)
  | false =>
    rw [hq1] at H
    have hq1p := of_decide_eq_false hq1
    refine wp_cond_false (H.ev rfl) ?_
    refine wp_skip ?_
    refine hK2 _ _ ?_
    clear hK2
    refine wp_seq_k (fun K5 hK5 => ?_)
    refine rgP H gs0 (rS 1 rfl <| rI0 ?_)
    try clear H a W
    intro a W H
    refine pl_readAll rfl rfl rfl rfl rfl rfl rfl (bf_old hFb H) (by omega) hpg rfl rfl rfl rfl rfl H ?_
    try clear H a W
    intro x t a W hdc H
    replace H : St 29 w a W [(13, .agg (x.cs)), (11, .slice Ab nb cb), (9, .bool false), (3, .int .i64 0), (2, .pointer (some ⟨g1, 0, none⟩)), (0, .slice Ab nb cb)] ((g1, 27, DH.no.cs) :: t) := H
    refine rgO H gs0 (rA rfl rfl al_der fun g2 => rW [1] ⟨rfl, rfl⟩ rfl rfl rfl (info_der x) (size_der DH.no x) x.one <| rK [1, 0, 0, 0] [] [] <| rZ0 ?_)
    try clear H a W
    intro a W H
    refine hK5 _ _ ?_
    clear hK5
    refine wp_seq_k (fun K6 hK6 => ?_)
    refine sqR H gs0 fun Z_ z_ => rV rfl (does_load rfl rfl (k := 0) rfl Tryd.underlying27 rfl (info_der x)) <| rC rfl rfl ⟨_, Tryd.func12, by kernel_rfl⟩ rfl (fun a W H _ => (derbytes_walk u8 _ (hu8.ext H.below) (hpg.ext H.below) ((hdc.dy fun g_ k_ v_ hc_ => TN.plain (fun p hp => H.heap p (by simp [hp])) hc_)) (readQ_few 11 (by omega)) (readQ_leaf 12 lb (by omega)))) <| rTF fun u1 => rS 5 rfl <| rK [1, 1, 0, 0, 0, 0, 0] [] [] <| rN z_ ?_
    try clear H a W
    rintro a W H ⟨hu1, -⟩
    refine wp_seq_k (fun K8 hK8 => ?_)
    cases hq2 : decide (((bytesE u8 (readQ 12 lb).1 : Nat) : Int) ≠ 0) with
    | true =>
      have hq2p := of_decide_eq_true hq2
      refine rgP H (gsC hu1 gs0) (rS 1 rfl <| rV rfl (does_binOp rfl rfl rfl (er_neq (k := ((bytesE u8 (readQ 12 lb).1 : Nat) : Int)) (m := 0) hq2 _ _)) <| rS 6 rfl <| rK [1, 0, 0, 0, 0, 0, 0, 0, 0, 0, 1, 1, 1, 0] [] [0] <| rZ0 ?_)
      try clear hu1 H a W
      intro a W H
      refine hK8 _ _ ?_
      clear hK8
      refine wp_cond_true (H.ev rfl) ?_
      refine sqR H gs0 fun Z_ z_ => rV rfl (does_build (ps := []) rfl rfl bd_der0) <| rW [0, 1] ⟨rfl, rfl⟩ rfl rfl rfl (info_der (DH.mk 0 false 0 SL.no [] SL.no SL.no)) (size_der DH.no (DH.mk 0 false 0 SL.no [] SL.no SL.no)) (DH.mk 0 false 0 SL.no [] SL.no SL.no).one <| rK [1, 1, 1, 0] [] [] <| rS 1 rfl <| rK [1, 0, 0] [] [] <| rN0 z_ ?_
      try clear H a W
      intro a W H
      refine wp_ret ?_
      repeat (first | (with_reducible refine then_ret ?_) | (with_reducible refine blk_ret ?_))
      refine end_cell_tmp (p := 2) (q := 3) rfl rfl rfl (k := 1) rfl Tryd.underlying27 rfl (info_der _) H (fun hb => ?_)
      have ho_ : ofD u8 lb = none := (of_readQ (by omega)).2 fun h_ => by
        have h2_ := (bytes_ok (u8 := u8) (T := (readQ 12 lb).1) (l := lb) (by omega)).2 h_
        first | exact absurd (congrArg (fun z : Nat => (z : Int)) h2_.1) (by assumption) | exact absurd h2_.2 (by assumption)
      refine ⟨_, rfl, hb, (DH.mk 0 false 0 SL.no [] SL.no SL.no), ?_, ?_⟩
      · rw [show ofE u8 lb = 4 from ofE_no (by unfold okD; rw [ho_]; rfl)]; rfl
      · rw [show ofT u8 lb = zeroT from by unfold ofT; rw [ho_]; rfl]
        exact (dc_flat (C := fun _ _ _ => False) (by decide) (by decide) (by decide)).dx (fun _ _ _ h => h.elim)
    | false =>
      have hq2p := of_decide_eq_false hq2
      cases hq3 : decide (bytesB u8 (readQ 12 lb).1 = lb) with
      | true =>
        have hq3p := of_decide_eq_true hq3
        refine rgP H (gsC hu1 gs0) (rS 1 rfl <| rV rfl (does_binOp rfl rfl rfl (er_neq (k := ((bytesE u8 (readQ 12 lb).1 : Nat) : Int)) (m := 0) hq2 _ _)) <| rS 3 rfl <| rCV rfl rfl ⟨_, Tryd.func39, by kernel_rfl⟩ rfl (fun a W H ⟨hu1, _⟩ => (by have h_ := equalB_any hu1 (bf_old hFb H); rw [hq3] at h_; exact h_)) <| rS 2 rfl <| rK [1, 0, 0, 0, 0, 0, 0, 0, 0, 0, 1, 1, 1, 0] [] [0] <| rZ0 ?_)
        try clear hu1 H a W
        intro a W H
        refine hK8 _ _ ?_
        clear hK8
        refine wp_cond_false (H.ev rfl) ?_
        refine wp_skip ?_
        refine hK6 _ _ ?_
        clear hK6
        refine sqR H gs0 fun Z_ z_ => rV rfl (does_load rfl rfl (k := 0) rfl Tryd.underlying27 rfl (info_der x)) <| rW [0, 1] ⟨rfl, rfl⟩ rfl rfl rfl (info_der x) (size_der DH.no x) x.one <| rK [1, 1, 1, 0] [] [] <| rS 1 rfl <| rK [1, 0, 0, 0] [] [] <| rN0 z_ ?_
        try clear H a W
        intro a W H
        refine wp_ret ?_
        repeat (first | (with_reducible refine then_ret ?_) | (with_reducible refine blk_ret ?_))
        refine end_cell_tmp (p := 2) (q := 3) rfl rfl rfl (k := 1) rfl Tryd.underlying27 rfl (info_der _) H (fun hb => ?_)
        have h_ := (bytes_ok (u8 := u8) (T := (readQ 12 lb).1) (l := lb) (by omega)).1 ⟨by omega, by assumption⟩
        have ho_ := (of_readQ (u8 := u8) (by omega)).1 h_.1 h_.2
        refine ⟨_, rfl, hb, x, ?_, ?_⟩
        · rw [show ofE u8 lb = 0 from ofE_yes (by unfold okD; rw [ho_]; rfl)]; rfl
        · rw [show ofT u8 lb = (readQ 12 lb).1 from by unfold ofT; rw [ho_]; rfl]
          exact ((hdc.dy fun g_ k_ v_ hc_ => TN.plain (fun p hp => H.heap p (by simp [hp])) hc_)).dx
      | false =>
        have hq3p := of_decide_eq_false hq3
        refine rgP H (gsC hu1 gs0) (rS 1 rfl <| rV rfl (does_binOp rfl rfl rfl (er_neq (k := ((bytesE u8 (readQ 12 lb).1 : Nat) : Int)) (m := 0) hq2 _ _)) <| rS 3 rfl <| rCV rfl rfl ⟨_, Tryd.func39, by kernel_rfl⟩ rfl (fun a W H ⟨hu1, _⟩ => (by have h_ := equalB_any hu1 (bf_old hFb H); rw [hq3] at h_; exact h_)) <| rS 2 rfl <| rK [1, 0, 0, 0, 0, 0, 0, 0, 0, 0, 1, 1, 1, 0] [] [0] <| rZ0 ?_)
        try clear hu1 H a W
        intro a W H
        refine hK8 _ _ ?_
        clear hK8
        refine wp_cond_true (H.ev rfl) ?_
        refine sqR H gs0 fun Z_ z_ => rV rfl (does_build (ps := []) rfl rfl bd_der0) <| rW [0, 1] ⟨rfl, rfl⟩ rfl rfl rfl (info_der (DH.mk 0 false 0 SL.no [] SL.no SL.no)) (size_der DH.no (DH.mk 0 false 0 SL.no [] SL.no SL.no)) (DH.mk 0 false 0 SL.no [] SL.no SL.no).one <| rK [1, 1, 1, 0] [] [] <| rS 1 rfl <| rK [1, 0, 0] [] [] <| rN0 z_ ?_
        try clear H a W
        intro a W H
        refine wp_ret ?_
        repeat (first | (with_reducible refine then_ret ?_) | (with_reducible refine blk_ret ?_))
        refine end_cell_tmp (p := 2) (q := 3) rfl rfl rfl (k := 1) rfl Tryd.underlying27 rfl (info_der _) H (fun hb => ?_)
        have ho_ : ofD u8 lb = none := (of_readQ (by omega)).2 fun h_ => by
          have h2_ := (bytes_ok (u8 := u8) (T := (readQ 12 lb).1) (l := lb) (by omega)).2 h_
          first | exact absurd (congrArg (fun z : Nat => (z : Int)) h2_.1) (by assumption) | exact absurd h2_.2 (by assumption)
        refine ⟨_, rfl, hb, (DH.mk 0 false 0 SL.no [] SL.no SL.no), ?_, ?_⟩
        · rw [show ofE u8 lb = 4 from ofE_no (by unfold okD; rw [ho_]; rfl)]; rfl
        · rw [show ofT u8 lb = zeroT from by unfold ofT; rw [ho_]; rfl]
          exact (dc_flat (C := fun _ _ _ => False) (by decide) (by decide) (by decide)).dx (fun _ _ _ h => h.elim)
end Go.Proofs.YtiafcgoiolbdhaaDoor
namespace Go.Proofs.YtiafcgoiolbdhaaDoor
set_option linter.unusedVariables false
set_option linter.unusedSimpArgs false
set_option maxRecDepth 100000
open Go Go.RowKit
structure DK (u8 : List UInt8 → Bool) (w : World) : Prop where
  bytes : ∀ W, Below w.heap.size w W → ∀ {v : Value} {k n : Int} {f : Bool} {a : List Nat}, DF (.mk k f n [] [] a []) v W → (mayD u8 12 (.mk k f n [] [] a []) = true → (packD 12 (.mk k f n [] [] a [])).length ≤ 900000) → BytesOk 12 u8 (.mk k f n [] [] a []) v W
/-- The chapter's row holds in every world behind w. -/
def HKn (w : World) : Prop := ∀ W, Below w.heap.size w W → Calls Tryd.prog 11 #[] W (fun r W' => r = .returned (.bool true) ∧ Below W.heap.size W W')
theorem df_at {w W : World} {T : DT} {x : DH} (h : DX w w.heap.size T x) (hb : Below w.heap.size w W) : DF T (.agg x.cs) W := ⟨x, rfl, h.sees ((Sees.refl (Nat.le_refl _)).below hb)⟩
theorem bd_eql {f g b : Bool} (h : decide (f = g) = b) (p q : Operand) (W : World) : (do eqGuard .eql 4 p q (.bool f) (.bool g); binOp .eql 4 (.bool f) (.bool g) : Sem Value).run Tryd.prog W = .ok (.bool b) W := by
  subst h
  cases f <;> cases g <;> kernel_rfl
set_option maxHeartbeats 4000000 in
theorem num_any (z : Int) (w : World) : Calls Tryd.prog 16 #[.int .i64 z] w (fun rr w' => rr = .returned (.int .i64 z) ∧ Below w.heap.size w w') := by
  refine calls_st (vs := [.int .i64 z]) 4 Tryd.func16 rfl Tryd.ntmps16 rfl (fun a W H => ?_)
  replace H : St 4 w a W [(0, .int .i64 z)] [] := H
  refine sqR H gs0 fun Z_ z_ => rS 1 rfl <| rN0 z_ ?_
  try clear H a W
  intro a W H
  refine sqR H gs0 fun Z_ z_ => rS 1 rfl <| rK [1, 0] [] [] <| rS 1 rfl <| rK [1, 0, 0] [] [] <| rN0 z_ ?_
  try clear H a W
  intro a W H
  refine wp_ret ?_
  repeat (first | (with_reducible refine then_ret ?_) | (with_reducible refine blk_ret ?_))
  refine end_tmp (p := 2) rfl rfl H (fun hb => ?_)
  exact ⟨rfl, hb⟩
end Go.Proofs.YtiafcgoiolbdhaaDoor
namespace Go.Proofs.YtiafcgoiolbdhaaDoor
set_option linter.unusedVariables false
set_option linter.unusedSimpArgs false
set_option maxRecDepth 100000
open Go Go.RowKit
/-- What a reader of bytes answers in every world behind w; E: how it says whether there is a value. -/
def OfOk (f : FuncId) (u8 : List UInt8 → Bool) (E : List UInt8 → Value) (w : World) : Prop := ∀ W, Below w.heap.size w W → ∀ {v : Value} {l : List UInt8}, BF l v W → l.length ≤ 900000 → Calls Tryd.prog f #[v] W (fun rr w' => ∃ t, rr = .returned t ∧ Below W.heap.size W w' ∧ TD (ofT u8 l) (E l) t w')
theorem OfOk.ext {f : FuncId} {u8 : List UInt8 → Bool} {E : List UInt8 → Value} {w W : World} (h : OfOk f u8 E w) (hb : Below w.heap.size w W) : OfOk f u8 E W := fun W2 hb2 => h W2 (hb.trans (hb2.mono hb.size))
theorem DK.ext {u8 : List UInt8 → Bool} {w W : World} (h : DK u8 w) (hb : Below w.heap.size w W) : DK u8 W :=
  have tr : ∀ {W2 : World}, Below W.heap.size W W2 → Below w.heap.size w W2 := fun hb2 => hb.trans (hb2.mono hb.size)
  ⟨fun W2 hb2 => h.bytes W2 (tr hb2)⟩
theorem HKn.ext {w W : World} (h : HKn w) (hb : Below w.heap.size w W) : HKn W := fun W2 hb2 => h W2 (hb.trans (hb2.mono hb.size))
abbrev derE (u8 : List UInt8 → Bool) (l : List UInt8) : Value := .int .i64 ((ofE u8 l : Nat) : Int)
abbrev refE (u8 : List UInt8 → Bool) (l : List UInt8) : Value := .bool (okD u8 l)
theorem dx_on {n : Nat} {w0 w : World} {a : Act} {e : Env} {h : Hep} {T : DT} {x : DH} (hx : DX w0 w0.heap.size T x) (H : St n w0 a w e h) : DX w w.heap.size T x := hx.sees ((Sees.refl (Nat.le_refl _)).below H.below)
set_option maxHeartbeats 4000000 in
theorem reads_walk {Ab : Option Addr} {nb cb : Nat} {lb : List UInt8} (u8 : List UInt8 → Bool) (w : World) (hu8 : UV u8 w) (hkn : HKn w) (hof : OfOk 19 u8 (derE u8) w) (hrf : OfOk 20 u8 (refE u8) w) (hlb : lb.length = nb) (hbb : BF lb (.slice Ab nb cb) w) : Calls Tryd.prog 4 #[.slice Ab nb cb] w (fun rr w' => rr = .returned (.bool true) ∧ Below w.heap.size w w') := by
  refine calls_st (vs := [.slice Ab nb cb]) 42 Tryd.func4 rfl Tryd.ntmps4 rfl (fun a W H => ?_)
  replace H : St 42 w a W [(0, .slice Ab nb cb)] [] := H
  refine sqR H gs0 fun Z_ z_ => rS 1 rfl <| rN0 z_ ?_
  try clear H a W
  intro a W H
  refine wp_seq_k (fun K2 hK2 => ?_)
  refine sqR H gs0 fun Z_ z_ => rS 1 rfl <| rV rfl (does_len Tryd.underlying23 rfl rfl) <| rV rfl (does_binOp rfl rfl rfl (zd_gtr_int (k := ((nb : Nat) : Int)) (m := 9000) rfl _ _)) <| rK [1, 0, 0] [] [] <| rN0 z_ ?_
  try clear H a W
  intro a W H
  cases hq1 : decide (9000 < ((nb : Nat) : Int)) with
  | true =>
    rw [hq1] at H
    have hq1p := of_decide_eq_true hq1
    refine wp_cond_true (H.ev rfl) ?_
    refine sqR H gs0 fun Z_ z_ => rV rfl (does_call rfl ⟨_, Tryd.func11, by kernel_rfl⟩ rfl (fun W hb => hkn W hb)) <| rK [1, 1, 0] [] [] <| rS 1 rfl <| rK [1, 0, 0] [] [] <| rN0 z_ ?_
    try clear H a W
    intro a W H
    refine wp_ret ?_
    repeat (first | (with_reducible refine then_ret ?_) | (with_reducible refine blk_ret ?_))
    refine end_tmp (p := 2) rfl rfl H (fun hb => ?_)
    exact ⟨rfl, hb⟩
  | false =>
    rw [hq1] at H
    have hq1p := of_decide_eq_false hq1
    refine wp_cond_false (H.ev rfl) ?_
    refine wp_skip ?_
    refine hK2 _ _ ?_
    clear hK2
    refine wp_seq_k (fun K5 hK5 => ?_)
    refine rgP H gs0 (rS 1 rfl <| rI0 ?_)
    try clear H a W
    intro a W H
    refine pl_R (R := SB) (F := TD (ofT u8 lb) (derE u8 lb)) sb_st (ob_callS H (wanted_none rfl) rfl ⟨_, Tryd.func19, by kernel_rfl⟩ rfl (hof _ H.below (bf_old hbb H) (by omega))) rfl rfl rfl H ?_
    try clear H a W
    rintro _ a W ⟨x1, rfl, hx_⟩ hR_ H
    obtain ⟨wt1, H, HKt1, hu8, hkn, hof, hrf, hbb, hdx1⟩ : ∃ ws, St 42 ws a W [(13, .tuple #[.agg (x1.cs), .int .i64 ((ofE u8 lb : Nat) : Int)]), (12, .slice Ab nb cb), (9, .bool false), (2, .bool false), (0, .slice Ab nb cb)] [] ∧ Kn w ws [] ∧ UV u8 ws ∧ HKn ws ∧ OfOk 19 u8 (derE u8) ws ∧ OfOk 20 u8 (refE u8) ws ∧ BF lb (.slice Ab nb cb) ws ∧ DX ws ws.heap.size (ofT u8 lb) x1 := ⟨W, H.rebase, H.kn, hu8.ext H.below, hkn.ext H.below, hof.ext H.below, hrf.ext H.below, bf_old hbb H, hx_⟩
    refine rgO H gs0 (rS 3 rfl <| rA rfl rfl al_der fun g1 => rW [1] ⟨rfl, rfl⟩ rfl rfl rfl (info_der x1) (size_der DH.no x1) x1.one <| rS 1 rfl <| rK [1, 1, 0, 0, 0, 0, 0, 0] [] [] <| rZ0 ?_)
    try clear H a W
    intro a W H
    refine hK5 _ _ ?_
    clear hK5
    refine wp_seq_k (fun K6 hK6 => ?_)
    refine rgP H gs0 (rS 1 rfl <| rI0 ?_)
    try clear H a W
    intro a W H
    refine pl_R (R := SB) (F := TD (ofT u8 lb) (refE u8 lb)) sb_st (ob_callS H (wanted_none rfl) rfl ⟨_, Tryd.func20, by kernel_rfl⟩ rfl (hrf _ H.below (bf_old hbb H) (by omega))) rfl rfl rfl H ?_
    try clear H a W
    rintro _ a W ⟨x2, rfl, hx_⟩ hR_ H
    obtain ⟨wt2, H, HKt2, hu8, hkn, hof, hrf, hbb, hdx1, hdx2, hBg1⟩ : ∃ ws, St 42 ws a W [(18, .tuple #[.agg (x2.cs), .bool (okD u8 lb)]), (17, .slice Ab nb cb), (4, .int .i64 ((ofE u8 lb : Nat) : Int)), (3, .pointer (some ⟨g1, 0, none⟩)), (2, .bool false), (0, .slice Ab nb cb)] [] ∧ Kn wt1 ws [(g1, 27, x1.cs)] ∧ UV u8 ws ∧ HKn ws ∧ OfOk 19 u8 (derE u8) ws ∧ OfOk 20 u8 (refE u8) ws ∧ BF lb (.slice Ab nb cb) ws ∧ DX ws ws.heap.size (ofT u8 lb) x1 ∧ DX ws ws.heap.size (ofT u8 lb) x2 ∧ Blk ws g1 27 x1.cs := ⟨W, H.rebase, H.kn, hu8.ext H.below, hkn.ext H.below, hof.ext H.below, hrf.ext H.below, bf_old hbb H, dx_on hdx1 H, hx_, H.blk (k := 0) rfl⟩
    refine rgO H gs0 (rS 3 rfl <| rA rfl rfl al_der fun g2 => rW [1] ⟨rfl, rfl⟩ rfl rfl rfl (info_der x2) (size_der DH.no x2) x2.one <| rS 1 rfl <| rK [1, 1, 0, 0, 0, 0, 0, 1, 1, 1, 0] [] [] <| rZ0 ?_)
    try clear H a W
    intro a W H
    refine hK6 _ _ ?_
    clear hK6
    refine wp_seq_k (fun K7 hK7 => ?_)
    cases hq2 : okD u8 lb with
    | true =>
      rw [hq2] at H
      refine rgP H gs0 (rV rfl (does_loadOld rfl rfl hBg1 Tryd.underlying27 rfl (info_der x1)) <| rV rfl (does_load rfl rfl (k := 0) rfl Tryd.underlying27 rfl (info_der x2)) <| rV rfl (does_call rfl ⟨_, Tryd.func18, by kernel_rfl⟩ rfl (fun W hb => by have h_ := same_any (df_at hdx1 hb) (df_at hdx2 hb); rw [(eqD_iff (ofT u8 lb) (ofT u8 lb)).2 rfl] at h_; exact h_)) <| rS 2 rfl <| rV rfl (does_call rfl ⟨_, Tryd.func16, by kernel_rfl⟩ rfl (fun W hb => num_any _ W)) <| rV rfl (does_binOp rfl rfl rfl (zd_eql_int (k := ((ofE u8 lb : Nat) : Int)) (m := 0) (by rw [ofE_yes hq2] <;> rfl) _ _)) <| rS 1 rfl <| rV rfl (does_binOp rfl rfl rfl (bd_eql (decide_eq_true (by decide)) _ _)) <| rS 10 rfl <| rV rfl (does_call rfl ⟨_, Tryd.func11, by kernel_rfl⟩ rfl (fun W hb => hkn W hb)) <| rS 1 rfl <| rK [1, 1, 1, 1, 1, 1, 1, 1, 1, 1, 1, 1, 1, 1, 1, 1, 1, 1, 1, 1, 1, 1, 1, 1, 1, 0] [] [] <| rS 1 rfl <| rK [1, 0, 0, 0, 0, 0, 0, 0, 0, 0, 0, 0, 0, 0, 0, 0, 0, 0, 0, 0, 0, 0, 0, 0, 0, 0] [0] [] <| rZ0 ?_)
      try clear H a W
      intro a W H
      refine hK7 _ _ ?_
      clear hK7
      refine wp_ret ?_
      repeat (first | (with_reducible refine then_ret ?_) | (with_reducible refine blk_ret ?_))
      refine end_tmp (p := 2) rfl rfl H (fun hb => ?_)
      exact ⟨rfl, (HKt1.below.trans ((HKt2.below.trans (hb.mono HKt2.below.size)).mono HKt1.below.size))⟩
    | false =>
      rw [hq2] at H
      refine rgP H gs0 (rV rfl (does_loadOld rfl rfl hBg1 Tryd.underlying27 rfl (info_der x1)) <| rV rfl (does_load rfl rfl (k := 0) rfl Tryd.underlying27 rfl (info_der x2)) <| rV rfl (does_call rfl ⟨_, Tryd.func18, by kernel_rfl⟩ rfl (fun W hb => by have h_ := same_any (df_at hdx1 hb) (df_at hdx2 hb); rw [(eqD_iff (ofT u8 lb) (ofT u8 lb)).2 rfl] at h_; exact h_)) <| rS 2 rfl <| rV rfl (does_call rfl ⟨_, Tryd.func16, by kernel_rfl⟩ rfl (fun W hb => num_any _ W)) <| rV rfl (does_binOp rfl rfl rfl (zd_eql_int (k := ((ofE u8 lb : Nat) : Int)) (m := 0) (by rw [ofE_no hq2] <;> rfl) _ _)) <| rS 1 rfl <| rV rfl (does_binOp rfl rfl rfl (bd_eql (decide_eq_true (by decide)) _ _)) <| rS 5 rfl <| rV rfl (does_call rfl ⟨_, Tryd.func16, by kernel_rfl⟩ rfl (fun W hb => num_any _ W)) <| rV rfl (does_binOp rfl rfl rfl (zd_eql_int (k := ((ofE u8 lb : Nat) : Int)) (m := 4) (by rw [ofE_no hq2] <;> rfl) _ _)) <| rS 3 rfl <| rV rfl (does_call rfl ⟨_, Tryd.func11, by kernel_rfl⟩ rfl (fun W hb => hkn W hb)) <| rS 1 rfl <| rK [1, 1, 1, 1, 1, 1, 1, 1, 1, 1, 1, 1, 1, 1, 1, 1, 1, 1, 1, 1, 1, 1, 1, 1, 1, 0] [] [] <| rS 1 rfl <| rK [1, 0, 0, 0, 0, 0, 0, 0, 0, 0, 0, 0, 0, 0, 0, 0, 0, 0, 0, 0, 0, 0, 0, 0, 0, 0] [0] [] <| rZ0 ?_)
      try clear H a W
      intro a W H
      refine hK7 _ _ ?_
      clear hK7
      refine wp_ret ?_
      repeat (first | (with_reducible refine then_ret ?_) | (with_reducible refine blk_ret ?_))
      refine end_tmp (p := 2) rfl rfl H (fun hb => ?_)
      exact ⟨rfl, (HKt1.below.trans ((HKt2.below.trans (hb.mono HKt2.below.size)).mono HKt1.below.size))⟩
end Go.Proofs.YtiafcgoiolbdhaaDoor
namespace Go.Proofs.YtiafcgoiolbdhaaDoor
set_option linter.unusedVariables false
set_option linter.unusedSimpArgs false
set_option maxRecDepth 100000
open Go Go.RowKit
/-- What der.Int answers in every world behind w. -/
def IntOk (w : World) : Prop := ∀ W, Below w.heap.size w W → ∀ n : Int, -9223372036854775808 ≤ n ∧ n < 9223372036854775808 → Calls Tryd.prog 25 #[.int .i64 n] W (fun rr w' => ∃ t, rr = .returned t ∧ Below W.heap.size W w' ∧ DF (intT n) t w')
theorem IntOk.ext {w W : World} (h : IntOk w) (hb : Below w.heap.size w W) : IntOk W := fun W2 hb2 => h W2 (hb.trans (hb2.mono hb.size))
theorem int23 (u8 : List UInt8 → Bool) {n : Int} (hn : -9223372036854775808 ≤ n ∧ n < 9223372036854775808) : bytesE u8 (intT n) = 0 ∧ bytesB u8 (intT n) = packD 12 (intT n) := by
  have h := int_len n
  have := size_pos n
  exact bytes_is.2.2 (int_may u8 hn) (by omega)
theorem int_fits {n : Int} {s : Nat} (hs : s = sizeD n) (h : s < 8) : -(pwD (8 * s - 1)) ≤ n ∧ n < pwD (8 * s - 1) := by
  subst hs
  have := size_fits n h
  unfold fitsD at this
  rw [Bool.and_eq_true, decide_eq_true_eq, decide_eq_true_eq] at this
  unfold pwD
  exact this
theorem int_least {n : Int} {s : Nat} (hs : s = sizeD n) (h : 1 < s) : n < -(pwD (8 * s - 9)) ∨ pwD (8 * s - 9) ≤ n := by
  subst hs
  have := size_least n h
  unfold fitsD at this
  rw [show 8 * (sizeD n - 1) - 1 = 8 * sizeD n - 9 by omega, Bool.and_eq_false_iff, decide_eq_false_iff_not, decide_eq_false_iff_not] at this
  unfold pwD
  omega
attribute [local irreducible] pwD
set_option maxHeartbeats 4000000 in
theorem orders_walk (n m : Int) (u8 : List UInt8 → Bool) (w : World) (hn : -9223372036854775808 ≤ n ∧ n < 9223372036854775808) (hm : -9223372036854775808 ≤ m ∧ m < 9223372036854775808) (hu8 : UV u8 w) (hdk : DK u8 w) (hkn : HKn w) (hin : IntOk w) : Calls Tryd.prog 7 #[.int .i64 n, .int .i64 m] w (fun rr w' => rr = .returned (.bool true) ∧ Below w.heap.size w w') := by
  refine calls_st (vs := [.int .i64 n, .int .i64 m]) 105 Tryd.func7 rfl Tryd.ntmps7 rfl (fun a W H => ?_)
  replace H : St 105 w a W [(0, .int .i64 n), (1, .int .i64 m)] [] := H
  refine sqR H gs0 fun Z_ z_ => rS 1 rfl <| rN0 z_ ?_
  try clear H a W
  intro a W H
  refine wp_seq_k (fun K2 hK2 => ?_)
  refine rgP H gs0 (rS 1 rfl <| rI0 ?_)
  try clear H a W
  intro a W H
  refine pl_R (R := SB) (F := DF (intT n)) sb_st (ob_callS H (wanted_none rfl) rfl ⟨_, Tryd.func25, by kernel_rfl⟩ rfl (hin _ H.below n hn)) rfl rfl rfl H ?_
  try clear H a W
  rintro _ a W ⟨x1, rfl, hx_⟩ hR_ H
  obtain ⟨wt1, H, HKt1, hu8, hdk, hkn, hin, hdx1⟩ : ∃ ws, St 105 ws a W [(12, .agg (x1.cs)), (11, .int .i64 n), (4, .bool false), (0, .int .i64 n), (1, .int .i64 m)] [] ∧ Kn w ws [] ∧ UV u8 ws ∧ DK u8 ws ∧ HKn ws ∧ IntOk ws ∧ DX ws ws.heap.size (intT n) x1 := ⟨W, H.rebase, H.kn, hu8.ext H.below, hdk.ext H.below, hkn.ext H.below, hin.ext H.below, hx_⟩
  refine rgO H gs0 (rC rfl rfl ⟨_, Tryd.func12, by kernel_rfl⟩ rfl (fun a W H _ => (hdk.bytes _ H.below (df_at hdx1 H.below) (fun _ => by show (packD 12 (intT n)).length ≤ 900000; rw [int_len]; have := size_pos n; omega))) <| rTF fun u1 => rS 5 rfl <| rK [1, 1, 0, 0, 0, 0, 0, 0] [] [] <| rZ ?_)
  try clear H a W
  rintro a W H ⟨hu1, -⟩
  refine hK2 _ _ ?_
  clear hK2
  refine wp_seq_k (fun K3 hK3 => ?_)
  refine rgP H (gsC hu1 gs0) (rS 1 rfl <| rI ?_)
  try clear hu1 H a W
  rintro a W H ⟨hu1, -⟩
  refine pl_R (R := SB) (F := DF (intT m)) sb_st (ob_callS H (wanted_none rfl) rfl ⟨_, Tryd.func25, by kernel_rfl⟩ rfl (hin _ H.below m hm)) rfl rfl rfl H ?_
  try clear H a W
  rintro _ a W ⟨x2, rfl, hx_⟩ hR_ H
  replace hu1 := BF.sb _ _ _ hu1 hR_
  obtain ⟨wt2, H, HKt2, hu8, hdk, hkn, hin, hdx1, hdx2, hu1⟩ : ∃ ws, St 105 ws a W [(18, .agg (x2.cs)), (17, .int .i64 m), (6, .int .i64 ((bytesE u8 (intT n) : Nat) : Int)), (5, u1), (4, .bool false), (0, .int .i64 n), (1, .int .i64 m)] [] ∧ Kn wt1 ws [] ∧ UV u8 ws ∧ DK u8 ws ∧ HKn ws ∧ IntOk ws ∧ DX ws ws.heap.size (intT n) x1 ∧ DX ws ws.heap.size (intT m) x2 ∧ BF (bytesB u8 (intT n)) u1 ws := ⟨W, H.rebase, H.kn, hu8.ext H.below, hdk.ext H.below, hkn.ext H.below, hin.ext H.below, dx_on hdx1 H, hx_, hu1⟩
  refine rgO H gs0 (rC rfl rfl ⟨_, Tryd.func12, by kernel_rfl⟩ rfl (fun a W H _ => (hdk.bytes _ H.below (df_at hdx2 H.below) (fun _ => by show (packD 12 (intT m)).length ≤ 900000; rw [int_len]; have := size_pos m; omega))) <| rTF fun u3 => rS 5 rfl <| rK [1, 1, 0, 0, 0, 0, 0, 0] [] [] <| rZ ?_)
  try clear H a W
  rintro a W H ⟨hu3, -⟩
  obtain ⟨A0, n0, c0, rfl, hs0_⟩ := (bf_old hu1 H)
  have hn0 : (bytesB u8 (intT n)).length = n0 := hs0_.len
  obtain ⟨A1, n1, c1, rfl, hs1_⟩ := hu3
  have hn1 : (bytesB u8 (intT m)).length = n1 := hs1_.len
  have hp0 : BF (bytesB u8 (intT n)) (.slice A0 n0 c0) W := ⟨_, _, _, rfl, hs0_⟩
  have hp1 : BF (bytesB u8 (intT m)) (.slice A1 n1 c1) W := ⟨_, _, _, rfl, hs1_⟩
  replace H : St 105 wt2 a W [(8, .int .i64 ((bytesE u8 (intT m) : Nat) : Int)), (7, .slice A1 n1 c1), (6, .int .i64 ((bytesE u8 (intT n) : Nat) : Int)), (5, .slice A0 n0 c0), (4, .bool false), (0, .int .i64 n), (1, .int .i64 m)] [] := H
  obtain ⟨wt3, H, HKt3, hu8, hdk, hkn, hin, hdx1, hdx2, hcel, hp1, hp0⟩ : ∃ ws, St 105 ws a W [(8, .int .i64 ((bytesE u8 (intT m) : Nat) : Int)), (7, .slice A1 n1 c1), (6, .int .i64 ((bytesE u8 (intT n) : Nat) : Int)), (5, .slice A0 n0 c0), (4, .bool false), (0, .int .i64 n), (1, .int .i64 m)] [] ∧ Kn wt2 ws [] ∧ UV u8 ws ∧ DK u8 ws ∧ HKn ws ∧ IntOk ws ∧ DX ws ws.heap.size (intT n) x1 ∧ DX ws ws.heap.size (intT m) x2 ∧ (∃ gb ob, 0 < n0 → A0 = some ⟨gb, ob, none⟩ ∧ gb < ws.heap.size ∧ ∀ i, i < n0 → World.cell? ws ⟨gb, ob + i, none⟩ = some (.int .u8 ((((bytesB u8 (intT n)).getD i 0).toNat : Nat) : Int))) ∧ BF (bytesB u8 (intT m)) (.slice A1 n1 c1) ws ∧ BF (bytesB u8 (intT n)) (.slice A0 n0 c0) ws := ⟨W, H.rebase, H.kn, hu8.ext H.below, hdk.ext H.below, hkn.ext H.below, hin.ext H.below, dx_on hdx1 H, dx_on hdx2 H, hs0_.nat (Nat.le_refl _), hp1, hp0⟩
  obtain ⟨gb, ob, hbb⟩ := hcel
  have hsz := size_pos n
  obtain ⟨hE0, hB0⟩ := int23 u8 hn
  obtain ⟨hE1, hB1⟩ := int23 u8 hm
  have hl0 : n0 = sizeD n + 2 := by rw [← hn0, hB0, int_len]
  have hv1 : ((bytesB u8 (intT n)).getD 1 0).toNat = sizeD n := by rw [hB0, int_pack]; exact byteD_nat (by omega)
  have hs2 : n0 - 2 = sizeD n := by omega
  have hw1 : n0 - 2 < 8 → (0 < pwD (8 * (n0 - 2) - 1) ∧ pwD (8 * (n0 - 2) - 1) ≤ 4611686018427387904) ∧ -(pwD (8 * (n0 - 2) - 1)) ≤ n ∧ n < pwD (8 * (n0 - 2) - 1) := fun h => ⟨pwD_le (by omega), int_fits hs2 h⟩
  have hw9 : 1 < n0 - 2 → (0 < pwD (8 * (n0 - 2) - 9) ∧ pwD (8 * (n0 - 2) - 9) ≤ 4611686018427387904) ∧ (n < -(pwD (8 * (n0 - 2) - 9)) ∨ pwD (8 * (n0 - 2) - 9) ≤ n) := fun h => ⟨pwD_le (by omega), int_least hs2 h⟩
  have heq : decide ((bytesB u8 (intT n)) = (bytesB u8 (intT m))) = decide (n = m) := by rw [hB0, hB1]; exact decide_eq_decide.2 (int_inj hn hm)
  refine hK3 _ _ ?_
  clear hK3
  refine wp_seq_k (fun K4 hK4 => ?_)
  refine sqR H gs0 fun Z_ z_ => rS 1 rfl <| rV rfl (does_call rfl ⟨_, Tryd.func16, by kernel_rfl⟩ rfl (fun W hb => num_any _ W)) <| rS 1 rfl <| rV rfl (does_call rfl ⟨_, Tryd.func16, by kernel_rfl⟩ rfl (fun W hb => num_any _ W)) <| rV rfl (does_binOp rfl rfl rfl (zd_add_int (k := ((bytesE u8 (intT n) : Nat) : Int)) (m := ((bytesE u8 (intT m) : Nat) : Int)) (c := ((bytesE u8 (intT n) : Nat) : Int) + ((bytesE u8 (intT m) : Nat) : Int)) rfl (by omega) _ _)) <| rV rfl (does_binOp rfl rfl rfl (zd_neq_int (k := (((bytesE u8 (intT n) : Nat) : Int) + ((bytesE u8 (intT m) : Nat) : Int))) (m := 0) (decide_eq_false (by omega)) _ _)) <| rS 2 rfl <| rV rfl (does_len Tryd.underlying23 rfl rfl) <| rV rfl (does_binOp rfl rfl rfl (zd_lss_int (k := ((n0 : Nat) : Int)) (m := 3) (decide_eq_false (by omega)) _ _)) <| rS 3 rfl <| rV rfl (does_len Tryd.underlying23 rfl rfl) <| rV rfl (does_binOp rfl rfl rfl (zd_gtr_int (k := ((n0 : Nat) : Int)) (m := 10) (decide_eq_false (by omega)) _ _)) <| rS 3 rfl <| rV rfl (does_indexAddr rfl rfl rfl (ia_bytD (j := 1) (hbb (by omega)).1 (by omega))) <| rV rfl (does_loadCell (v := .int .u8 ((((bytesB u8 (intT n)).getD 1 0).toNat : Nat) : Int)) rfl rfl ((hbb (by omega)).2.2 1 (by omega)) (hbb (by omega)).2.1 ld_bytD) <| rV rfl (does_convert rfl rfl (cv_bi (byt_lt _ _))) <| rS 1 rfl <| rV rfl (does_len Tryd.underlying23 rfl rfl) <| rV rfl (does_binOp rfl rfl rfl (zd_sub_int (k := ((n0 : Nat) : Int)) (m := 2) (c := ((n0 - 2 : Nat) : Int)) (by omega) (by omega) _ _)) <| rV rfl (does_binOp rfl rfl rfl (zd_neq_int (k := ((((bytesB u8 (intT n)).getD 1 0).toNat : Nat) : Int)) (m := ((n0 - 2 : Nat) : Int)) (decide_eq_false (by omega)) _ _)) <| rS 1 rfl <| rK [1, 0, 0, 0, 0, 0, 0, 0, 0, 0, 0, 0, 0, 0, 0, 0, 0, 0, 0, 0, 0, 0, 0, 0, 0, 0, 0, 1, 0] [] [] <| rN0 z_ ?_
  try clear H a W
  intro a W H
  refine wp_cond_false (H.ev rfl) ?_
  refine wp_skip ?_
  refine hK4 _ _ ?_
  clear hK4
  refine sqR H gs0 fun Z_ z_ => rS 1 rfl <| rV rfl (does_len Tryd.underlying23 rfl rfl) <| rV rfl (does_binOp rfl rfl rfl (zd_sub_int (k := ((n0 : Nat) : Int)) (m := 2) (c := ((n0 - 2 : Nat) : Int)) (by omega) (by omega) _ _)) <| rS 1 rfl <| rK [1, 0, 0, 0, 0] [] [] <| rN0 z_ ?_
  try clear H a W
  intro a W H
  refine wp_seq_k (fun K7 hK7 => ?_)
  refine wp_seq_k (fun K8 hK8 => ?_)
  cases hq1 : decide (((n0 - 2 : Nat) : Int) < 8) with
  | true =>
    have hq1p := of_decide_eq_true hq1
    refine rgP H gs0 (rS 1 rfl <| rV rfl (does_binOp rfl rfl rfl (zd_lss_int (k := ((n0 - 2 : Nat) : Int)) (m := 8) hq1 _ _)) <| rS 3 rfl <| rV rfl (does_binOp rfl rfl rfl (zd_mul8 (k := (n0 - 2)) (by omega) _ _)) <| rV rfl (does_binOp rfl rfl rfl (zd_sub_int (k := ((8 * (n0 - 2) : Nat) : Int)) (m := 1) (c := ((8 * (n0 - 2) - 1 : Nat) : Int)) (by omega) (by omega) _ _)) <| rV rfl (does_convert rfl rfl (cv_uint (by omega))) <| rV rfl (does_binOp rfl rfl rfl (zd_shl1 (s := (8 * (n0 - 2) - 1)) (by omega) _ _)) <| rV rfl (does_unOp rfl rfl (zd_neg (x := (pwD (8 * (n0 - 2) - 1))) (by omega))) <| rV rfl (does_binOp rfl rfl rfl (zd_lss_i64 (k := n) (m := (-(pwD (8 * (n0 - 2) - 1)))) (decide_eq_false (by omega)) _ _)) <| rS 3 rfl <| rV rfl (does_binOp rfl rfl rfl (zd_mul8 (k := (n0 - 2)) (by omega) _ _)) <| rV rfl (does_binOp rfl rfl rfl (zd_sub_int (k := ((8 * (n0 - 2) : Nat) : Int)) (m := 1) (c := ((8 * (n0 - 2) - 1 : Nat) : Int)) (by omega) (by omega) _ _)) <| rV rfl (does_convert rfl rfl (cv_uint (by omega))) <| rV rfl (does_binOp rfl rfl rfl (zd_shl1 (s := (8 * (n0 - 2) - 1)) (by omega) _ _)) <| rV rfl (does_binOp rfl rfl rfl (zd_geq_i64 (k := n) (m := (pwD (8 * (n0 - 2) - 1))) (decide_eq_false (by omega)) _ _)) <| rS 2 rfl <| rK [1, 0, 0, 0, 0, 0, 0, 0, 0, 0, 0, 0, 0, 0, 0, 0, 0, 0, 0, 0, 0] [] [] <| rZ0 ?_)
    try clear H a W
    intro a W H
    refine hK8 _ _ ?_
    clear hK8
    refine wp_cond_false (H.ev rfl) ?_
    refine wp_skip ?_
    refine hK7 _ _ ?_
    clear hK7
    refine wp_seq_k (fun K9 hK9 => ?_)
    refine wp_seq_k (fun K10 hK10 => ?_)
    cases hq2 : decide (1 < ((n0 - 2 : Nat) : Int)) with
    | true =>
      have hq2p := of_decide_eq_true hq2
      cases hq3 : decide ((-(pwD (8 * (n0 - 2) - 9))) ≤ n) with
      | true =>
        have hq3p := of_decide_eq_true hq3
        refine rgP H gs0 (rS 1 rfl <| rV rfl (does_binOp rfl rfl rfl (zd_gtr_int (k := ((n0 - 2 : Nat) : Int)) (m := 1) hq2 _ _)) <| rS 3 rfl <| rV rfl (does_binOp rfl rfl rfl (zd_mul8 (k := (n0 - 2)) (by omega) _ _)) <| rV rfl (does_binOp rfl rfl rfl (zd_sub_int (k := ((8 * (n0 - 2) : Nat) : Int)) (m := 9) (c := ((8 * (n0 - 2) - 9 : Nat) : Int)) (by omega) (by omega) _ _)) <| rV rfl (does_convert rfl rfl (cv_uint (by omega))) <| rV rfl (does_binOp rfl rfl rfl (zd_shl1 (s := (8 * (n0 - 2) - 9)) (by omega) _ _)) <| rV rfl (does_unOp rfl rfl (zd_neg (x := (pwD (8 * (n0 - 2) - 9))) (by omega))) <| rV rfl (does_binOp rfl rfl rfl (zd_geq_i64 (k := n) (m := (-(pwD (8 * (n0 - 2) - 9)))) hq3 _ _)) <| rS 4 rfl <| rV rfl (does_binOp rfl rfl rfl (zd_mul8 (k := (n0 - 2)) (by omega) _ _)) <| rV rfl (does_binOp rfl rfl rfl (zd_sub_int (k := ((8 * (n0 - 2) : Nat) : Int)) (m := 9) (c := ((8 * (n0 - 2) - 9 : Nat) : Int)) (by omega) (by omega) _ _)) <| rV rfl (does_convert rfl rfl (cv_uint (by omega))) <| rV rfl (does_binOp rfl rfl rfl (zd_shl1 (s := (8 * (n0 - 2) - 9)) (by omega) _ _)) <| rV rfl (does_binOp rfl rfl rfl (zd_lss_i64 (k := n) (m := (pwD (8 * (n0 - 2) - 9))) (decide_eq_false (by omega)) _ _)) <| rS 1 rfl <| rK [1, 0, 0, 0, 0, 0, 0, 0, 0, 0, 0, 0, 0, 0, 0, 0, 0, 0, 0, 0, 0, 0, 0] [] [] <| rZ0 ?_)
        try clear H a W
        intro a W H
        refine hK10 _ _ ?_
        clear hK10
        refine wp_cond_false (H.ev rfl) ?_
        refine wp_skip ?_
        refine hK9 _ _ ?_
        clear hK9
        refine sqR H gs0 fun Z_ z_ => rS 1 rfl <| rOV rfl (fun a W H _ => ob_strD H (wanted_none rfl) rfl rfl (bf_old hp0 H)) <| rS 1 rfl <| rOV rfl (fun a W H _ => ob_strD H (wanted_none rfl) rfl rfl (bf_old hp1 H)) <| rV rfl (does_binOp rfl rfl rfl (sd_eql (l := (bytesB u8 (intT n))) (m := (bytesB u8 (intT m))) rfl _ _)) <| rS 2 rfl <| rV rfl (does_binOp rfl rfl rfl (zd_eql_i64 (k := n) (m := m) rfl _ _)) <| rV rfl (does_binOp rfl rfl rfl (bd_eql (f := (decide ((bytesB u8 (intT n)) = (bytesB u8 (intT m))))) (g := (decide (n = m))) (decide_eq_true (by rw [heq] <;> exact decide_eq_decide.2 (by omega))) _ _)) <| rS 1 rfl <| rV rfl (does_call rfl ⟨_, Tryd.func11, by kernel_rfl⟩ rfl (fun W hb => hkn W hb)) <| rS 1 rfl <| rK [1, 1, 1, 1, 1, 1, 1, 1, 1, 1, 1, 1, 1, 1, 1, 0] [] [] <| rS 1 rfl <| rK [1, 0, 0, 0, 0, 0, 0, 0, 0, 0, 0, 0, 0, 0, 0, 0, 0, 0] [] [] <| rN0 z_ ?_
        try clear H a W
        intro a W H
        refine wp_ret ?_
        repeat (first | (with_reducible refine then_ret ?_) | (with_reducible refine blk_ret ?_))
        refine end_tmp (p := 4) rfl rfl H (fun hb => ?_)
        exact ⟨rfl, (HKt1.below.trans ((HKt2.below.trans ((HKt3.below.trans (hb.mono HKt3.below.size)).mono HKt2.below.size)).mono HKt1.below.size))⟩
      | false =>
        have hq3p := of_decide_eq_false hq3
        refine rgP H gs0 (rS 1 rfl <| rV rfl (does_binOp rfl rfl rfl (zd_gtr_int (k := ((n0 - 2 : Nat) : Int)) (m := 1) hq2 _ _)) <| rS 3 rfl <| rV rfl (does_binOp rfl rfl rfl (zd_mul8 (k := (n0 - 2)) (by omega) _ _)) <| rV rfl (does_binOp rfl rfl rfl (zd_sub_int (k := ((8 * (n0 - 2) : Nat) : Int)) (m := 9) (c := ((8 * (n0 - 2) - 9 : Nat) : Int)) (by omega) (by omega) _ _)) <| rV rfl (does_convert rfl rfl (cv_uint (by omega))) <| rV rfl (does_binOp rfl rfl rfl (zd_shl1 (s := (8 * (n0 - 2) - 9)) (by omega) _ _)) <| rV rfl (does_unOp rfl rfl (zd_neg (x := (pwD (8 * (n0 - 2) - 9))) (by omega))) <| rV rfl (does_binOp rfl rfl rfl (zd_geq_i64 (k := n) (m := (-(pwD (8 * (n0 - 2) - 9)))) hq3 _ _)) <| rS 10 rfl <| rK [1, 0, 0, 0, 0, 0, 0, 0, 0, 0, 0, 0, 0, 0, 0, 0, 0, 0, 0, 0, 0, 0, 0] [] [] <| rZ0 ?_)
        try clear H a W
        intro a W H
        refine hK10 _ _ ?_
        clear hK10
        refine wp_cond_false (H.ev rfl) ?_
        refine wp_skip ?_
        refine hK9 _ _ ?_
        clear hK9
        refine sqR H gs0 fun Z_ z_ => rS 1 rfl <| rOV rfl (fun a W H _ => ob_strD H (wanted_none rfl) rfl rfl (bf_old hp0 H)) <| rS 1 rfl <| rOV rfl (fun a W H _ => ob_strD H (wanted_none rfl) rfl rfl (bf_old hp1 H)) <| rV rfl (does_binOp rfl rfl rfl (sd_eql (l := (bytesB u8 (intT n))) (m := (bytesB u8 (intT m))) rfl _ _)) <| rS 2 rfl <| rV rfl (does_binOp rfl rfl rfl (zd_eql_i64 (k := n) (m := m) rfl _ _)) <| rV rfl (does_binOp rfl rfl rfl (bd_eql (f := (decide ((bytesB u8 (intT n)) = (bytesB u8 (intT m))))) (g := (decide (n = m))) (decide_eq_true (by rw [heq] <;> exact decide_eq_decide.2 (by omega))) _ _)) <| rS 1 rfl <| rV rfl (does_call rfl ⟨_, Tryd.func11, by kernel_rfl⟩ rfl (fun W hb => hkn W hb)) <| rS 1 rfl <| rK [1, 1, 1, 1, 1, 1, 1, 1, 1, 1, 1, 1, 1, 1, 1, 0] [] [] <| rS 1 rfl <| rK [1, 0, 0, 0, 0, 0, 0, 0, 0, 0, 0, 0, 0, 0, 0, 0, 0, 0] [] [] <| rN0 z_ ?_
        try clear H a W
        intro a W H
        refine wp_ret ?_
        repeat (first | (with_reducible refine then_ret ?_) | (with_reducible refine blk_ret ?_))
        refine end_tmp (p := 4) rfl rfl H (fun hb => ?_)
        exact ⟨rfl, (HKt1.below.trans ((HKt2.below.trans ((HKt3.below.trans (hb.mono HKt3.below.size)).mono HKt2.below.size)).mono HKt1.below.size))⟩
    | false =>
      have hq2p := of_decide_eq_false hq2
      refine rgP H gs0 (rS 1 rfl <| rV rfl (does_binOp rfl rfl rfl (zd_gtr_int (k := ((n0 - 2 : Nat) : Int)) (m := 1) hq2 _ _)) <| rS 19 rfl <| rK [1, 0, 0, 0, 0, 0, 0, 0, 0, 0, 0, 0, 0, 0, 0, 0, 0, 0, 0, 0, 0, 0, 0] [] [] <| rZ0 ?_)
      try clear H a W
      intro a W H
      refine hK10 _ _ ?_
      clear hK10
      refine wp_cond_false (H.ev rfl) ?_
      refine wp_skip ?_
      refine hK9 _ _ ?_
      clear hK9
      refine sqR H gs0 fun Z_ z_ => rS 1 rfl <| rOV rfl (fun a W H _ => ob_strD H (wanted_none rfl) rfl rfl (bf_old hp0 H)) <| rS 1 rfl <| rOV rfl (fun a W H _ => ob_strD H (wanted_none rfl) rfl rfl (bf_old hp1 H)) <| rV rfl (does_binOp rfl rfl rfl (sd_eql (l := (bytesB u8 (intT n))) (m := (bytesB u8 (intT m))) rfl _ _)) <| rS 2 rfl <| rV rfl (does_binOp rfl rfl rfl (zd_eql_i64 (k := n) (m := m) rfl _ _)) <| rV rfl (does_binOp rfl rfl rfl (bd_eql (f := (decide ((bytesB u8 (intT n)) = (bytesB u8 (intT m))))) (g := (decide (n = m))) (decide_eq_true (by rw [heq] <;> exact decide_eq_decide.2 (by omega))) _ _)) <| rS 1 rfl <| rV rfl (does_call rfl ⟨_, Tryd.func11, by kernel_rfl⟩ rfl (fun W hb => hkn W hb)) <| rS 1 rfl <| rK [1, 1, 1, 1, 1, 1, 1, 1, 1, 1, 1, 1, 1, 1, 1, 0] [] [] <| rS 1 rfl <| rK [1, 0, 0, 0, 0, 0, 0, 0, 0, 0, 0, 0, 0, 0, 0, 0, 0, 0] [] [] <| rN0 z_ ?_
      try clear H a W
      intro a W H
      refine wp_ret ?_
      repeat (first | (with_reducible refine then_ret ?_) | (with_reducible refine blk_ret ?_))
      refine end_tmp (p := 4) rfl rfl H (fun hb => ?_)
      exact ⟨rfl, (HKt1.below.trans ((HKt2.below.trans ((HKt3.below.trans (hb.mono HKt3.below.size)).mono HKt2.below.size)).mono HKt1.below.size))⟩
  | false =>
    have hq1p := of_decide_eq_false hq1
    refine rgP H gs0 (rS 1 rfl <| rV rfl (does_binOp rfl rfl rfl (zd_lss_int (k := ((n0 - 2 : Nat) : Int)) (m := 8) hq1 _ _)) <| rS 19 rfl <| rK [1, 0, 0, 0, 0, 0, 0, 0, 0, 0, 0, 0, 0, 0, 0, 0, 0, 0, 0, 0, 0] [] [] <| rZ0 ?_)
    try clear H a W
    intro a W H
    refine hK8 _ _ ?_
    clear hK8
    refine wp_cond_false (H.ev rfl) ?_
    refine wp_skip ?_
    refine hK7 _ _ ?_
    clear hK7
    refine wp_seq_k (fun K14 hK14 => ?_)
    refine wp_seq_k (fun K15 hK15 => ?_)
    cases hq4 : decide (1 < ((n0 - 2 : Nat) : Int)) with
    | true =>
      have hq4p := of_decide_eq_true hq4
      cases hq5 : decide ((-(pwD (8 * (n0 - 2) - 9))) ≤ n) with
      | true =>
        have hq5p := of_decide_eq_true hq5
        refine rgP H gs0 (rS 1 rfl <| rV rfl (does_binOp rfl rfl rfl (zd_gtr_int (k := ((n0 - 2 : Nat) : Int)) (m := 1) hq4 _ _)) <| rS 3 rfl <| rV rfl (does_binOp rfl rfl rfl (zd_mul8 (k := (n0 - 2)) (by omega) _ _)) <| rV rfl (does_binOp rfl rfl rfl (zd_sub_int (k := ((8 * (n0 - 2) : Nat) : Int)) (m := 9) (c := ((8 * (n0 - 2) - 9 : Nat) : Int)) (by omega) (by omega) _ _)) <| rV rfl (does_convert rfl rfl (cv_uint (by omega))) <| rV rfl (does_binOp rfl rfl rfl (zd_shl1 (s := (8 * (n0 - 2) - 9)) (by omega) _ _)) <| rV rfl (does_unOp rfl rfl (zd_neg (x := (pwD (8 * (n0 - 2) - 9))) (by omega))) <| rV rfl (does_binOp rfl rfl rfl (zd_geq_i64 (k := n) (m := (-(pwD (8 * (n0 - 2) - 9)))) hq5 _ _)) <| rS 4 rfl <| rV rfl (does_binOp rfl rfl rfl (zd_mul8 (k := (n0 - 2)) (by omega) _ _)) <| rV rfl (does_binOp rfl rfl rfl (zd_sub_int (k := ((8 * (n0 - 2) : Nat) : Int)) (m := 9) (c := ((8 * (n0 - 2) - 9 : Nat) : Int)) (by omega) (by omega) _ _)) <| rV rfl (does_convert rfl rfl (cv_uint (by omega))) <| rV rfl (does_binOp rfl rfl rfl (zd_shl1 (s := (8 * (n0 - 2) - 9)) (by omega) _ _)) <| rV rfl (does_binOp rfl rfl rfl (zd_lss_i64 (k := n) (m := (pwD (8 * (n0 - 2) - 9))) (decide_eq_false (by omega)) _ _)) <| rS 1 rfl <| rK [1, 0, 0, 0, 0, 0, 0, 0, 0, 0, 0, 0, 0, 0, 0, 0, 0, 0, 0, 0, 0, 0, 0] [] [] <| rZ0 ?_)
        try clear H a W
        intro a W H
        refine hK15 _ _ ?_
        clear hK15
        refine wp_cond_false (H.ev rfl) ?_
        refine wp_skip ?_
        refine hK14 _ _ ?_
        clear hK14
        refine sqR H gs0 fun Z_ z_ => rS 1 rfl <| rOV rfl (fun a W H _ => ob_strD H (wanted_none rfl) rfl rfl (bf_old hp0 H)) <| rS 1 rfl <| rOV rfl (fun a W H _ => ob_strD H (wanted_none rfl) rfl rfl (bf_old hp1 H)) <| rV rfl (does_binOp rfl rfl rfl (sd_eql (l := (bytesB u8 (intT n))) (m := (bytesB u8 (intT m))) rfl _ _)) <| rS 2 rfl <| rV rfl (does_binOp rfl rfl rfl (zd_eql_i64 (k := n) (m := m) rfl _ _)) <| rV rfl (does_binOp rfl rfl rfl (bd_eql (f := (decide ((bytesB u8 (intT n)) = (bytesB u8 (intT m))))) (g := (decide (n = m))) (decide_eq_true (by rw [heq] <;> exact decide_eq_decide.2 (by omega))) _ _)) <| rS 1 rfl <| rV rfl (does_call rfl ⟨_, Tryd.func11, by kernel_rfl⟩ rfl (fun W hb => hkn W hb)) <| rS 1 rfl <| rK [1, 1, 1, 1, 1, 1, 1, 1, 1, 1, 1, 1, 1, 1, 1, 0] [] [] <| rS 1 rfl <| rK [1, 0, 0, 0, 0, 0, 0, 0, 0, 0, 0, 0, 0, 0, 0, 0, 0, 0] [] [] <| rN0 z_ ?_
        try clear H a W
        intro a W H
        refine wp_ret ?_
        repeat (first | (with_reducible refine then_ret ?_) | (with_reducible refine blk_ret ?_))
        refine end_tmp (p := 4) rfl rfl H (fun hb => ?_)
        exact ⟨rfl, (HKt1.below.trans ((HKt2.below.trans ((HKt3.below.trans (hb.mono HKt3.below.size)).mono HKt2.below.size)).mono HKt1.below.size))⟩
      | false =>
        have hq5p := of_decide_eq_false hq5
        refine rgP H gs0 (rS 1 rfl <| rV rfl (does_binOp rfl rfl rfl (zd_gtr_int (k := ((n0 - 2 : Nat) : Int)) (m := 1) hq4 _ _)) <| rS 3 rfl <| rV rfl (does_binOp rfl rfl rfl (zd_mul8 (k := (n0 - 2)) (by omega) _ _)) <| rV rfl (does_binOp rfl rfl rfl (zd_sub_int (k := ((8 * (n0 - 2) : Nat) : Int)) (m := 9) (c := ((8 * (n0 - 2) - 9 : Nat) : Int)) (by omega) (by omega) _ _)) <| rV rfl (does_convert rfl rfl (cv_uint (by omega))) <| rV rfl (does_binOp rfl rfl rfl (zd_shl1 (s := (8 * (n0 - 2) - 9)) (by omega) _ _)) <| rV rfl (does_unOp rfl rfl (zd_neg (x := (pwD (8 * (n0 - 2) - 9))) (by omega))) <| rV rfl (does_binOp rfl rfl rfl (zd_geq_i64 (k := n) (m := (-(pwD (8 * (n0 - 2) - 9)))) hq5 _ _)) <| rS 10 rfl <| rK [1, 0, 0, 0, 0, 0, 0, 0, 0, 0, 0, 0, 0, 0, 0, 0, 0, 0, 0, 0, 0, 0, 0] [] [] <| rZ0 ?_)
        try clear H a W
        intro a W H
        refine hK15 _ _ ?_
        clear hK15
        refine wp_cond_false (H.ev rfl) ?_
        refine wp_skip ?_
        refine hK14 _ _ ?_
        clear hK14
        refine sqR H gs0 fun Z_ z_ => rS 1 rfl <| rOV rfl (fun a W H _ => ob_strD H (wanted_none rfl) rfl rfl (bf_old hp0 H)) <| rS 1 rfl <| rOV rfl (fun a W H _ => ob_strD H (wanted_none rfl) rfl rfl (bf_old hp1 H)) <| rV rfl (does_binOp rfl rfl rfl (sd_eql (l := (bytesB u8 (intT n))) (m := (bytesB u8 (intT m))) rfl _ _)) <| rS 2 rfl <| rV rfl (does_binOp rfl rfl rfl (zd_eql_i64 (k := n) (m := m) rfl _ _)) <| rV rfl (does_binOp rfl rfl rfl (bd_eql (f := (decide ((bytesB u8 (intT n)) = (bytesB u8 (intT m))))) (g := (decide (n = m))) (decide_eq_true (by rw [heq] <;> exact decide_eq_decide.2 (by omega))) _ _)) <| rS 1 rfl <| rV rfl (does_call rfl ⟨_, Tryd.func11, by kernel_rfl⟩ rfl (fun W hb => hkn W hb)) <| rS 1 rfl <| rK [1, 1, 1, 1, 1, 1, 1, 1, 1, 1, 1, 1, 1, 1, 1, 0] [] [] <| rS 1 rfl <| rK [1, 0, 0, 0, 0, 0, 0, 0, 0, 0, 0, 0, 0, 0, 0, 0, 0, 0] [] [] <| rN0 z_ ?_
        try clear H a W
        intro a W H
        refine wp_ret ?_
        repeat (first | (with_reducible refine then_ret ?_) | (with_reducible refine blk_ret ?_))
        refine end_tmp (p := 4) rfl rfl H (fun hb => ?_)
        exact ⟨rfl, (HKt1.below.trans ((HKt2.below.trans ((HKt3.below.trans (hb.mono HKt3.below.size)).mono HKt2.below.size)).mono HKt1.below.size))⟩
    | false =>
      have hq4p := of_decide_eq_false hq4
      refine rgP H gs0 (rS 1 rfl <| rV rfl (does_binOp rfl rfl rfl (zd_gtr_int (k := ((n0 - 2 : Nat) : Int)) (m := 1) hq4 _ _)) <| rS 19 rfl <| rK [1, 0, 0, 0, 0, 0, 0, 0, 0, 0, 0, 0, 0, 0, 0, 0, 0, 0, 0, 0, 0, 0, 0] [] [] <| rZ0 ?_)
      try clear H a W
      intro a W H
      refine hK15 _ _ ?_
      clear hK15
      refine wp_cond_false (H.ev rfl) ?_
      refine wp_skip ?_
      refine hK14 _ _ ?_
      clear hK14
      refine sqR H gs0 fun Z_ z_ => rS 1 rfl <| rOV rfl (fun a W H _ => ob_strD H (wanted_none rfl) rfl rfl (bf_old hp0 H)) <| rS 1 rfl <| rOV rfl (fun a W H _ => ob_strD H (wanted_none rfl) rfl rfl (bf_old hp1 H)) <| rV rfl (does_binOp rfl rfl rfl (sd_eql (l := (bytesB u8 (intT n))) (m := (bytesB u8 (intT m))) rfl _ _)) <| rS 2 rfl <| rV rfl (does_binOp rfl rfl rfl (zd_eql_i64 (k := n) (m := m) rfl _ _)) <| rV rfl (does_binOp rfl rfl rfl (bd_eql (f := (decide ((bytesB u8 (intT n)) = (bytesB u8 (intT m))))) (g := (decide (n = m))) (decide_eq_true (by rw [heq] <;> exact decide_eq_decide.2 (by omega))) _ _)) <| rS 1 rfl <| rV rfl (does_call rfl ⟨_, Tryd.func11, by kernel_rfl⟩ rfl (fun W hb => hkn W hb)) <| rS 1 rfl <| rK [1, 1, 1, 1, 1, 1, 1, 1, 1, 1, 1, 1, 1, 1, 1, 0] [] [] <| rS 1 rfl <| rK [1, 0, 0, 0, 0, 0, 0, 0, 0, 0, 0, 0, 0, 0, 0, 0, 0, 0] [] [] <| rN0 z_ ?_
      try clear H a W
      intro a W H
      refine wp_ret ?_
      repeat (first | (with_reducible refine then_ret ?_) | (with_reducible refine blk_ret ?_))
      refine end_tmp (p := 4) rfl rfl H (fun hb => ?_)
      exact ⟨rfl, (HKt1.below.trans ((HKt2.below.trans ((HKt3.below.trans (hb.mono HKt3.below.size)).mono HKt2.below.size)).mono HKt1.below.size))⟩
end Go.Proofs.YtiafcgoiolbdhaaDoor
namespace Go.Proofs.YtiafcgoiolbdhaaDoor
set_option linter.unusedVariables false
set_option linter.unusedSimpArgs false
set_option maxRecDepth 100000
open Go Go.RowKit
def oidT (l : List Nat) : DT := .mk 5 false 0 [] [] l []
/-- What der.Oid answers in every world behind w. -/
def OidOk (w : World) : Prop := ∀ W, Below w.heap.size w W → ∀ {v : Value} {l : List Nat}, NSF l v W → l.length ≤ 1000 → Calls Tryd.prog 23 #[v] W (fun rr w' => ∃ t, rr = .returned t ∧ Below W.heap.size W w' ∧ DF (oidT l) t w')
theorem OidOk.ext {w W : World} (h : OidOk w) (hb : Below w.heap.size w W) : OidOk W := fun W2 hb2 => h W2 (hb.trans (hb2.mono hb.size))
theorem kn_int1 : packD 12 (intT 128) = [2, 2, 0, 128] := by decide +kernel
theorem kn_int2 : packD 12 (intT (-128)) = [2, 1, 128] := by decide +kernel
theorem hi_0 : hiD 0 = [] := by rw [hiD, dif_pos rfl]
theorem kn_oid : packD 12 (oidT [2, 5, 4, 3]) = [6, 3, 85, 4, 3] := by
  have e : ∀ n, n < 128 → groupsD n = [byteD n] := fun n hn => by
    unfold groupsD
    rw [Nat.div_eq_of_lt hn, Nat.mod_eq_of_lt hn, hi_0, List.nil_append]
  show headD (tagD 5 0) (contD 5 false 0 [] [] [2, 5, 4, 3] []) = _
  have e2 : contD 5 false 0 [] [] [2, 5, 4, 3] [] = [85, 4, 3] := by
    rw [contD_eq, List.append_nil]
    show groupsD (40 * 2 + 5) ++ [4, 3].flatMap groupsD = _
    rw [e _ (by omega)]
    simp only [List.flatMap_cons, List.flatMap_nil]
    rw [e 4 (by omega), e 3 (by omega)]
    rfl
  rw [e2]
  rfl
theorem oid_may (u8 : List UInt8 → Bool) : mayD u8 12 (oidT [2, 5, 4, 3]) = true := rfl
theorem kn_bytes (u8 : List UInt8 → Bool) : (bytesE u8 (intT 128) = 0 ∧ bytesB u8 (intT 128) = [2, 2, 0, 128]) ∧ (bytesE u8 (intT (-128)) = 0 ∧ bytesB u8 (intT (-128)) = [2, 1, 128]) ∧ (bytesE u8 (oidT [2, 5, 4, 3]) = 0 ∧ bytesB u8 (oidT [2, 5, 4, 3]) = [6, 3, 85, 4, 3]) := by
  have h1 := int23 u8 (n := 128) (by omega)
  have h2 := int23 u8 (n := -128) (by omega)
  have h3 := bytes_is.2.2 (oid_may u8) (by rw [kn_oid]; simp)
  exact ⟨⟨h1.1, h1.2.trans kn_int1⟩, ⟨h2.1, h2.2.trans kn_int2⟩, ⟨h3.1, h3.2.trans kn_oid⟩⟩
theorem kn_of (u8 : List UInt8 → Bool) : okD u8 [2, 2, 0, 127] = false ∧ okD u8 [1, 1, 1] = false := ⟨rfl, rfl⟩
theorem run_byteD4 (w : World) (x y z t : UInt8) : (Instr.buildSlice 23 4 #[(0, bv x), (1, bv y), (2, bv z), (3, bv t)]).run Tryd.prog w = .ok (.slice (some ⟨w.heap.size, 0, none⟩) 4 4) (w.alloc (.cells (bvs [x, y, z, t]) 5)) := by kernel_rfl
theorem run_newN4 (w : World) (x y z t : Nat) : (Instr.buildSlice 24 4 #[(0, .int .u64 (x : Int)), (1, .int .u64 (y : Int)), (2, .int .u64 (z : Int)), (3, .int .u64 (t : Int))]).run Tryd.prog w = .ok (.slice (some ⟨w.heap.size, 0, none⟩) 4 4) (w.alloc (.cells #[nvD x, nvD y, nvD z, nvD t] 47)) := by kernel_rfl
section
variable {n : Nat} {w0 w : World} {a : Act} {e : Env} {h : Hep} {Q : Exit → Act → World → Prop} {ops : Array Oper} {o : Oper}
theorem ob_byteOF4 {y0 y1 y2 y3 : Operand} {x y z t : UInt8} (H : St n w0 a w e h) (hw : ∀ a w, St n w0 a w e h → Region.wanted o (yielded ops a.tmps) = true) (ho : o.op = .buildSlice 23 4 #[(0, y0), (1, y1), (2, y2), (3, y3)]) (h0 : sev e y0 = some (bv x)) (h1 : sev e y1 = some (bv y)) (h2 : sev e y2 = some (bv z)) (h3 : sev e y3 = some (bv t)) : ObS Tryd.prog ops Q o a w (OF w0.heap.size h [x, y, z, t]) := by
  obtain ⟨h4, h5⟩ := of_new H (l := [x, y, z, t]) (by unfold maxLen; simp)
  refine ob_runR H hw ⟨_, _, ?_, h4, h5⟩
  simp [execOp, ho, H.ev h0, H.ev h1, H.ev h2, H.ev h3, run_byteD4, Result.andThen]
theorem ob_newN4 {y0 y1 y2 y3 : Operand} {x y z t : Nat} (hx : x < 1000 ∧ y < 1000 ∧ z < 1000 ∧ t < 1000) (H : St n w0 a w e h) (hw : ∀ a w, St n w0 a w e h → Region.wanted o (yielded ops a.tmps) = true) (ho : o.op = .buildSlice 24 4 #[(0, y0), (1, y1), (2, y2), (3, y3)]) (h0 : sev e y0 = some (.int .u64 (x : Int))) (h1 : sev e y1 = some (.int .u64 (y : Int))) (h2 : sev e y2 = some (.int .u64 (z : Int))) (h3 : sev e y3 = some (.int .u64 (t : Int))) : ObS Tryd.prog ops Q o a w (NSF [x, y, z, t]) := by
  obtain ⟨h4, h5⟩ := nsf_new w [x, y, z, t] (by simp; omega)
  refine ob_runR H hw ⟨_, _, ?_, h4, h5⟩
  simp [execOp, ho, H.ev h0, H.ev h1, H.ev h2, H.ev h3, run_newN4, Result.andThen]
end
set_option maxHeartbeats 4000000 in
theorem known_walk (u8 : List UInt8 → Bool) (w : World) (hu8 : UV u8 w) (hdk : DK u8 w) (hin : IntOk w) (hoi : OidOk w) (hof : OfOk 19 u8 (derE u8) w) : Calls Tryd.prog 11 #[] w (fun rr w' => rr = .returned (.bool true) ∧ Below w.heap.size w w') := by
  have hk1_ := (kn_bytes u8).1.1
  have hk2_ := (kn_bytes u8).2.1.1
  have hk3_ := (kn_bytes u8).2.2.1
  refine calls_st (vs := []) 71 Tryd.func11 rfl Tryd.ntmps11 rfl (fun a W H => ?_)
  replace H : St 71 w a W [] [] := H
  refine sqR H gs0 fun Z_ z_ => rS 1 rfl <| rN0 z_ ?_
  try clear H a W
  intro a W H
  refine wp_seq_k (fun K2 hK2 => ?_)
  refine rg_plain ?_
  refine pl_R (R := SB) (F := DF (intT 128)) sb_st (ob_callS H (wanted_none rfl) rfl ⟨_, Tryd.func25, by kernel_rfl⟩ rfl (hin _ H.below 128 (by omega))) rfl rfl rfl H ?_
  try clear H a W
  rintro _ a W ⟨x1, rfl, hx_⟩ hR_ H
  obtain ⟨wt1, H, HKt1, hu8, hdk, hin, hoi, hof, hdx1⟩ : ∃ ws, St 71 ws a W [(12, .agg (x1.cs)), (0, .bool false)] [] ∧ Kn w ws [] ∧ UV u8 ws ∧ DK u8 ws ∧ IntOk ws ∧ OidOk ws ∧ OfOk 19 u8 (derE u8) ws ∧ DX ws ws.heap.size (intT 128) x1 := ⟨W, H.rebase, H.kn, hu8.ext H.below, hdk.ext H.below, hin.ext H.below, hoi.ext H.below, hof.ext H.below, hx_⟩
  refine rgO H gs0 (rC rfl rfl ⟨_, Tryd.func12, by kernel_rfl⟩ rfl (fun a W H _ => (hdk.bytes _ H.below (df_at hdx1 H.below) (fun _ => by show (packD 12 (intT 128)).length ≤ 900000; rw [kn_int1]; simp))) <| rTF fun u1 => rS 5 rfl <| rK [1, 1, 0, 0, 0, 0, 0] [] [] <| rZ ?_)
  try clear H a W
  rintro a W H ⟨hu1, -⟩
  refine hK2 _ _ ?_
  clear hK2
  refine wp_seq_k (fun K3 hK3 => ?_)
  refine rg_plain ?_
  refine pl_R (R := SB) (F := DF (intT (-128))) sb_st (ob_callS H (wanted_none rfl) rfl ⟨_, Tryd.func25, by kernel_rfl⟩ rfl (hin _ H.below (-128) (by omega))) rfl rfl rfl H ?_
  try clear H a W
  rintro _ a W ⟨x2, rfl, hx_⟩ hR_ H
  replace hu1 := BF.sb _ _ _ hu1 hR_
  obtain ⟨wt2, H, HKt2, hu8, hdk, hin, hoi, hof, hdx1, hdx2, hu1⟩ : ∃ ws, St 71 ws a W [(17, .agg (x2.cs)), (2, .int .i64 ((bytesE u8 (intT 128) : Nat) : Int)), (1, u1), (0, .bool false)] [] ∧ Kn wt1 ws [] ∧ UV u8 ws ∧ DK u8 ws ∧ IntOk ws ∧ OidOk ws ∧ OfOk 19 u8 (derE u8) ws ∧ DX ws ws.heap.size (intT 128) x1 ∧ DX ws ws.heap.size (intT (-128)) x2 ∧ BF (bytesB u8 (intT 128)) u1 ws := ⟨W, H.rebase, H.kn, hu8.ext H.below, hdk.ext H.below, hin.ext H.below, hoi.ext H.below, hof.ext H.below, dx_on hdx1 H, hx_, hu1⟩
  refine rgO H gs0 (rC rfl rfl ⟨_, Tryd.func12, by kernel_rfl⟩ rfl (fun a W H _ => (hdk.bytes _ H.below (df_at hdx2 H.below) (fun _ => by show (packD 12 (intT (-128))).length ≤ 900000; rw [kn_int2]; simp))) <| rTF fun u3 => rS 5 rfl <| rK [1, 1, 0, 0, 0, 0, 0] [] [] <| rZ ?_)
  try clear H a W
  rintro a W H ⟨hu3, -⟩
  refine hK3 _ _ ?_
  clear hK3
  refine wp_seq_k (fun K4 hK4 => ?_)
  refine rgP H (gsC hu3 gs0) (rO rfl (fun a W H _ => ob_newN4 (x := 2) (y := 5) (z := 4) (t := 3) (by omega) H (wanted_none rfl) rfl rfl rfl rfl rfl) fun v22 => rI ?_)
  try clear hu3 H a W
  rintro a W H ⟨hv22, hu3, -⟩
  refine pl_R (R := SB) (F := DF (oidT [2, 5, 4, 3])) sb_st (ob_callS H (wanted_none rfl) rfl ⟨_, Tryd.func23, by kernel_rfl⟩ rfl (hoi _ H.below hv22 (by simp))) rfl rfl rfl H ?_
  try clear H a W
  rintro _ a W ⟨x3, rfl, hx_⟩ hR_ H
  replace hv22 := Lasts.lasts (F := NSF [2, 5, 4, 3] v22) _ _ hv22 hR_
  replace hu3 := BF.sb _ _ _ hu3 hR_
  obtain ⟨wt3, H, HKt3, hu8, hdk, hin, hoi, hof, hdx1, hdx2, hu1, hdx3, hu3⟩ : ∃ ws, St 71 ws a W [(23, .agg (x3.cs)), (22, v22), (4, .int .i64 ((bytesE u8 (intT (-128)) : Nat) : Int)), (3, u3), (2, .int .i64 ((bytesE u8 (intT 128) : Nat) : Int)), (1, u1), (0, .bool false)] [] ∧ Kn wt2 ws [] ∧ UV u8 ws ∧ DK u8 ws ∧ IntOk ws ∧ OidOk ws ∧ OfOk 19 u8 (derE u8) ws ∧ DX ws ws.heap.size (intT 128) x1 ∧ DX ws ws.heap.size (intT (-128)) x2 ∧ BF (bytesB u8 (intT 128)) u1 ws ∧ DX ws ws.heap.size (oidT [2, 5, 4, 3]) x3 ∧ BF (bytesB u8 (intT (-128))) u3 ws := ⟨W, H.rebase, H.kn, hu8.ext H.below, hdk.ext H.below, hin.ext H.below, hoi.ext H.below, hof.ext H.below, dx_on hdx1 H, dx_on hdx2 H, bf_old hu1 H, hx_, hu3⟩
  refine rgO H (gsC hv22 gs0) (rC rfl rfl ⟨_, Tryd.func12, by kernel_rfl⟩ rfl (fun a W H _ => (hdk.bytes _ H.below (df_at hdx3 H.below) (fun _ => by show (packD 12 (oidT [2, 5, 4, 3])).length ≤ 900000; rw [kn_oid]; simp))) <| rTF fun u5 => rS 5 rfl <| rK [1, 1, 0, 0, 0, 0, 0, 0] [] [1, 0] <| rZ ?_)
  try clear hv22 H a W
  rintro a W H ⟨hu5, -⟩
  refine hK4 _ _ ?_
  clear hK4
  refine wp_seq_k (fun K5 hK5 => ?_)
  refine rgP H (gsC hu5 gs0) (rO rfl (fun a W H _ => ob_byteOF4 (x := 2) (y := 2) (z := 0) (t := 127) H (wanted_none rfl) rfl rfl rfl rfl rfl) fun v28 => rI ?_)
  try clear hu5 H a W
  rintro a W H ⟨hv28, hu5, -⟩
  refine pl_R (R := SB) (F := TD (ofT u8 [2, 2, 0, 127]) (derE u8 [2, 2, 0, 127])) sb_st (ob_callS H (wanted_none rfl) rfl ⟨_, Tryd.func19, by kernel_rfl⟩ rfl (hof _ H.below hv28.bf (by simp))) rfl rfl rfl H ?_
  try clear H a W
  rintro _ a W ⟨x4, rfl, hx_⟩ hR_ H
  replace hv28 := Lasts.lasts (F := OF wt3.heap.size [] [2, 2, 0, 127] v28) _ _ hv28 hR_
  replace hu5 := BF.sb _ _ _ hu5 hR_
  obtain ⟨wt4, H, HKt4, hu8, hdk, hin, hoi, hof, hdx1, hdx2, hu1, hdx3, hu3, hdx4, hu5⟩ : ∃ ws, St 71 ws a W [(29, .tuple #[.agg (x4.cs), .int .i64 ((ofE u8 [2, 2, 0, 127] : Nat) : Int)]), (28, v28), (6, .int .i64 ((bytesE u8 (oidT [2, 5, 4, 3]) : Nat) : Int)), (5, u5), (4, .int .i64 ((bytesE u8 (intT (-128)) : Nat) : Int)), (3, u3), (2, .int .i64 ((bytesE u8 (intT 128) : Nat) : Int)), (1, u1), (0, .bool false)] [] ∧ Kn wt3 ws [] ∧ UV u8 ws ∧ DK u8 ws ∧ IntOk ws ∧ OidOk ws ∧ OfOk 19 u8 (derE u8) ws ∧ DX ws ws.heap.size (intT 128) x1 ∧ DX ws ws.heap.size (intT (-128)) x2 ∧ BF (bytesB u8 (intT 128)) u1 ws ∧ DX ws ws.heap.size (oidT [2, 5, 4, 3]) x3 ∧ BF (bytesB u8 (intT (-128))) u3 ws ∧ DX ws ws.heap.size (ofT u8 [2, 2, 0, 127]) x4 ∧ BF (bytesB u8 (oidT [2, 5, 4, 3])) u5 ws := ⟨W, H.rebase, H.kn, hu8.ext H.below, hdk.ext H.below, hin.ext H.below, hoi.ext H.below, hof.ext H.below, dx_on hdx1 H, dx_on hdx2 H, bf_old hu1 H, dx_on hdx3 H, bf_old hu3 H, hx_, hu5⟩
  refine rgO H (gsC hv28 gs0) (rS 3 rfl <| rA rfl rfl al_der fun g1 => rW [1] ⟨rfl, rfl⟩ rfl rfl rfl (info_der x4) (size_der DH.no x4) x4.one <| rS 1 rfl <| rK [1, 0, 0, 0, 0, 0, 0] [0] [] <| rZ0 ?_)
  try clear hv28 H a W
  intro a W H
  refine hK5 _ _ ?_
  clear hK5
  refine wp_seq_k (fun K6 hK6 => ?_)
  refine rgP H gs0 (rO rfl (fun a W H _ => ob_byteOF3 (x := 1) (y := 1) (z := 1) H (wanted_none rfl) rfl rfl rfl rfl) fun v33 => rI ?_)
  try clear H a W
  rintro a W H ⟨hv33, -⟩
  refine pl_R (R := SB) (F := TD (ofT u8 [1, 1, 1]) (derE u8 [1, 1, 1])) sb_st (ob_callS H (wanted_none rfl) rfl ⟨_, Tryd.func19, by kernel_rfl⟩ rfl (hof _ H.below hv33.bf (by simp))) rfl rfl rfl H ?_
  try clear H a W
  rintro _ a W ⟨x5, rfl, hx_⟩ hR_ H
  replace hv33 := Lasts.lasts (F := OF wt4.heap.size [] [1, 1, 1] v33) _ _ hv33 hR_
  obtain ⟨wt5, H, HKt5, hu8, hdk, hin, hoi, hof, hdx1, hdx2, hu1, hdx3, hu3, hdx4, hu5, hdx5⟩ : ∃ ws, St 71 ws a W [(34, .tuple #[.agg (x5.cs), .int .i64 ((ofE u8 [1, 1, 1] : Nat) : Int)]), (33, v33), (8, .int .i64 ((ofE u8 [2, 2, 0, 127] : Nat) : Int)), (6, .int .i64 ((bytesE u8 (oidT [2, 5, 4, 3]) : Nat) : Int)), (5, u5), (4, .int .i64 ((bytesE u8 (intT (-128)) : Nat) : Int)), (3, u3), (2, .int .i64 ((bytesE u8 (intT 128) : Nat) : Int)), (1, u1), (0, .bool false)] [] ∧ Kn wt4 ws [] ∧ UV u8 ws ∧ DK u8 ws ∧ IntOk ws ∧ OidOk ws ∧ OfOk 19 u8 (derE u8) ws ∧ DX ws ws.heap.size (intT 128) x1 ∧ DX ws ws.heap.size (intT (-128)) x2 ∧ BF (bytesB u8 (intT 128)) u1 ws ∧ DX ws ws.heap.size (oidT [2, 5, 4, 3]) x3 ∧ BF (bytesB u8 (intT (-128))) u3 ws ∧ DX ws ws.heap.size (ofT u8 [2, 2, 0, 127]) x4 ∧ BF (bytesB u8 (oidT [2, 5, 4, 3])) u5 ws ∧ DX ws ws.heap.size (ofT u8 [1, 1, 1]) x5 := ⟨W, H.rebase, H.kn, hu8.ext H.below, hdk.ext H.below, hin.ext H.below, hoi.ext H.below, hof.ext H.below, dx_on hdx1 H, dx_on hdx2 H, bf_old hu1 H, dx_on hdx3 H, bf_old hu3 H, dx_on hdx4 H, bf_old hu5 H, hx_⟩
  refine rgO H (gsC hv33 gs0) (rS 3 rfl <| rA rfl rfl al_der fun g2 => rW [1] ⟨rfl, rfl⟩ rfl rfl rfl (info_der x5) (size_der DH.no x5) x5.one <| rS 1 rfl <| rK [1, 0, 0, 0, 0, 0, 0] [0] [] <| rZ0 ?_)
  try clear hv33 H a W
  intro a W H
  refine hK6 _ _ ?_
  clear hK6
  refine sqR H gs0 fun Z_ z_ => rS 1 rfl <| rOV rfl (fun a W H _ => ob_strD H (wanted_none rfl) rfl rfl (bf_old hu1 H)) <| rV rfl (does_binOp rfl rfl rfl (sd_eql (l := (bytesB u8 (intT 128))) (m := [2, 2, 0, 128]) (decide_eq_true (kn_bytes u8).1.2) _ _)) <| rS 2 rfl <| rOV rfl (fun a W H _ => ob_strD H (wanted_some rfl rfl rfl rfl rfl) rfl rfl (bf_old hu3 H)) <| rV rfl (does_binOp rfl rfl rfl (sd_eql (l := (bytesB u8 (intT (-128)))) (m := [2, 1, 128]) (decide_eq_true (kn_bytes u8).2.1.2) _ _)) <| rS 3 rfl <| rOV rfl (fun a W H _ => ob_strD H (wanted_some rfl rfl rfl rfl rfl) rfl rfl (bf_old hu5 H)) <| rV rfl (does_binOp rfl rfl rfl (sd_eql (l := (bytesB u8 (oidT [2, 5, 4, 3]))) (m := [6, 3, 85, 4, 3]) (decide_eq_true (kn_bytes u8).2.2.2) _ _)) <| rS 3 rfl <| rV rfl (does_call rfl ⟨_, Tryd.func16, by kernel_rfl⟩ rfl (fun W hb => num_any _ W)) <| rS 1 rfl <| rV rfl (does_call rfl ⟨_, Tryd.func16, by kernel_rfl⟩ rfl (fun W hb => num_any _ W)) <| rV rfl (does_binOp rfl rfl rfl (zd_add_int (k := ((bytesE u8 (intT 128) : Nat) : Int)) (m := ((bytesE u8 (intT (-128)) : Nat) : Int)) (c := (((bytesE u8 (intT 128) : Nat) : Int) + ((bytesE u8 (intT (-128)) : Nat) : Int))) rfl (by omega) _ _)) <| rS 1 rfl <| rV rfl (does_call rfl ⟨_, Tryd.func16, by kernel_rfl⟩ rfl (fun W hb => num_any _ W)) <| rV rfl (does_binOp rfl rfl rfl (zd_add_int (k := (((bytesE u8 (intT 128) : Nat) : Int) + ((bytesE u8 (intT (-128)) : Nat) : Int))) (m := ((bytesE u8 (oidT [2, 5, 4, 3]) : Nat) : Int)) (c := ((((bytesE u8 (intT 128) : Nat) : Int) + ((bytesE u8 (intT (-128)) : Nat) : Int)) + ((bytesE u8 (oidT [2, 5, 4, 3]) : Nat) : Int))) rfl (by omega) _ _)) <| rV rfl (does_binOp rfl rfl rfl (zd_eql_int (k := ((((bytesE u8 (intT 128) : Nat) : Int) + ((bytesE u8 (intT (-128)) : Nat) : Int)) + ((bytesE u8 (oidT [2, 5, 4, 3]) : Nat) : Int))) (m := 0) (decide_eq_true (by omega)) _ _)) <| rS 3 rfl <| rV rfl (does_call rfl ⟨_, Tryd.func16, by kernel_rfl⟩ rfl (fun W hb => num_any _ W)) <| rV rfl (does_binOp rfl rfl rfl (zd_eql_int (k := ((ofE u8 [2, 2, 0, 127] : Nat) : Int)) (m := 4) (by rw [ofE_no (kn_of u8).1] <;> rfl) _ _)) <| rS 3 rfl <| rV rfl (does_call rfl ⟨_, Tryd.func16, by kernel_rfl⟩ rfl (fun W hb => num_any _ W)) <| rV rfl (does_binOp rfl rfl rfl (zd_eql_int (k := ((ofE u8 [1, 1, 1] : Nat) : Int)) (m := 4) (by rw [ofE_no (kn_of u8).2] <;> rfl) _ _)) <| rS 1 rfl <| rK [1, 1, 1, 1, 1, 1, 1, 1, 1, 1, 1, 1, 1, 1, 1, 1, 1, 1, 1, 1, 1, 1, 1, 1, 1, 1, 1, 1, 1, 1, 1, 1, 1, 1, 1, 1, 1, 1, 1, 1, 1, 1, 0] [] [] <| rS 1 rfl <| rK [1, 0, 0, 0, 0, 0, 0, 0, 0, 0, 0, 0, 0, 0, 0, 0, 0, 0, 0, 0, 0, 0, 0, 0, 0, 0, 0, 0, 0, 0, 0, 0, 0, 0, 0, 0, 0, 0, 0, 0, 0, 0, 0] [] [] <| rN0 z_ ?_
  try clear H a W
  intro a W H
  refine wp_ret ?_
  repeat (first | (with_reducible refine then_ret ?_) | (with_reducible refine blk_ret ?_))
  refine end_tmp (p := 0) rfl rfl H (fun hb => ?_)
  exact ⟨rfl, (HKt1.below.trans ((HKt2.below.trans ((HKt3.below.trans ((HKt4.below.trans ((HKt5.below.trans (hb.mono HKt5.below.size)).mono HKt4.below.size)).mono HKt3.below.size)).mono HKt2.below.size)).mono HKt1.below.size))⟩
theorem known_is {u8 : List UInt8 → Bool} {w : World} (hu8 : UV u8 w) (hdk : DK u8 w) (hin : IntOk w) (hoi : OidOk w) (hof : OfOk 19 u8 (derE u8) w) : HKn w := fun W hb => known_walk u8 W (hu8.ext hb) (hdk.ext hb) (hin.ext hb) (hoi.ext hb) (hof.ext hb)
end Go.Proofs.YtiafcgoiolbdhaaDoor
namespace Go.Proofs.YtiafcgoiolbdhaaDoor
set_option linter.unusedVariables false
set_option linter.unusedSimpArgs false
set_option maxRecDepth 100000
open Go Go.RowKit
theorem run_new0 (W : World) : (Instr.buildSlice 24 0 #[]).run Tryd.prog W = .ok (.slice (some ⟨W.heap.size, 0, none⟩) 0 0) (W.alloc (.cells #[] 47)) := by kernel_rfl
theorem bd_derA (k : Int) (A : Option Addr) (m c : Nat) (W : World) : (Instr.build 27 [(0, .int .i64 k), (5, .slice A m c)].toArray).run Tryd.prog W = .ok (.agg (DH.mk k false 0 SL.no [] (SL.mk A m c) SL.no).cs) W := by kernel_rfl
theorem sl_isnil {A : Option Addr} {m c : Nat} {b : Bool} (h : A.isNone = b) (p q : Operand) (W : World) : (do eqGuard .eql 24 p q (.slice A m c) (.slice none 0 0); binOp .eql 24 (.slice A m c) (.slice none 0 0) : Sem Value).run Tryd.prog W = .ok (.bool b) W := by
  subst h
  cases A <;> kernel_rfl
section
variable {n : Nat} {w0 w : World} {a : Act} {e : Env} {h : Hep} {Q : Exit → Act → World → Prop} {ops : Array Oper} {rest : List Oper} {o o2 o3 : Oper}
/-- A copy of whole numbers. -/
theorem pl_cloneN {d d2 d3 : Nat} {y : Operand} {v : Value} {l : List Nat} (ho : o.op = .buildSlice 24 0 #[]) (hg : o.guard = none) (hd : o.dst = some d) (ho2 : o2.op = .move y) (hg2 : o2.guard = none) (hd2 : o2.dst = some d2) (ho3 : o3.op = .call { callee := .builtin .append, args := #[.tmp d, .tmp d2], argTypes := #[24, 24] }) (hg3 : o3.guard = none) (hd3 : o3.dst = some d3)
    (hy : ∀ u, sev ((d, u) :: e) y = some v) (hv : NSF l v w) (hs : l.length ≤ 100000) (hl : Nat.blt d n = true) (hl2 : Nat.blt d2 n = true) (hl3 : Nat.blt d3 n = true) (hne : Nat.beq d d2 = false ∧ Nat.beq d2 d3 = false ∧ Nat.beq d d3 = false) (hf : e.all (fun p => !Nat.beq p.1 d) = true) (hf2 : e.all (fun p => !Nat.beq p.1 d2) = true) (hf3 : e.all (fun p => !Nat.beq p.1 d3) = true) (H : St n w0 a w e h)
    (next : ∀ A c t a w', OutD 47 1 t (.slice A l.length c) l.length (l.map nvD) → St n w0 a w' ((d3, .slice A l.length c) :: e) (h ++ t) → wpList Tryd.prog ops Q rest a w') : wpList Tryd.prog ops Q (o :: o2 :: o3 :: rest) a w :=
  wpList_plain hg fun K hK => by
    have e1 : (execOp a.eval o).run Tryd.prog w = .ok (.value (.slice (some ⟨w.heap.size, 0, none⟩) 0 0)) (w.alloc (.cells #[] 47)) := by
      simp [execOp, ho, run_new0, Result.andThen]
    have hb1 : Below w.heap.size w (w.alloc (.cells #[] 47)) := (Below.refl _ _).alloc (Nat.le_refl _) _
    have B1 : Blk (w.alloc (.cells #[] 47)) w.heap.size 47 #[] := Blk.new _ _ _
    have H1 : St n w0 (a.put (some d) (.slice (some ⟨w.heap.size, 0, none⟩) 0 0)) (w.alloc (.cells #[] 47)) ((d, .slice (some ⟨w.heap.size, 0, none⟩) 0 0) :: e) h := (H.call hb1).put _ hl hf
    have hv1 : NSF l v (w.alloc (.cells #[] 47)) := Lasts.lasts (F := NSF l v) _ _ hv hb1
    have hown : (w.alloc (.cells #[] 47)).ownsRow w.heap.size 47 1 (.slice (some ⟨w.heap.size, 0, none⟩) 0 0) 0 [] := ⟨rfl, .inr ⟨w.heap.size, 0, #[], rfl, Nat.le_refl _, B1, Nat.le_refl _, Nat.zero_le _, rfl, rfl⟩⟩
    unfold Oper.wp
    rw [e1]
    refine hK _ _ ?_
    rw [hd]
    generalize w.alloc (.cells #[] 47) = w1 at *
    refine wpList_plain hg2 fun K hK => ?_
    have e2 : (execOp (a.put (some d) (.slice (some ⟨w.heap.size, 0, none⟩) 0 0)).eval o2).run Tryd.prog w1 = .ok (.value v) w1 := by
      simp [execOp, ho2, H1.ev (hy _)]
    unfold Oper.wp
    rw [e2]
    refine hK _ _ ?_
    rw [hd2]
    have H2 := H1.put (d := d2) v hl2 (by simp only [List.all_cons, hf2, Bool.and_true, Bool.not_eq_true']; exact hne.1)
    refine wpList_plain hg3 fun K hK => ?_
    obtain ⟨A, k, c, rfl, hr⟩ := hv1
    have hk := hr.len
    subst hk
    have hi := u64_infoD
    cases hq : Tryd.prog.info? 47 with
    | none => rw [hq] at hi; cases hi
    | some i =>
      rw [hq] at hi
      simp only [Option.map_some, Option.some.injEq, Prod.mk.injEq] at hi
      obtain ⟨hz0, hsz, hby⟩ := hi
      obtain ⟨v', w', h1, hown2, h3⟩ : ∃ v' w', (Builtin.append_ #[24, 24] o3.type #[.slice (some ⟨w.heap.size, 0, none⟩) 0 0, .slice A l.length c]).run Tryd.prog w1 = .ok v' w' ∧ w'.ownsRow w.heap.size 47 1 v' l.length (l.map nvD) ∧ Below w.heap.size w w' := by
        rcases A with _ | ad
        · have h0 := hr.nil_ rfl
          have h1 := hr.cap
          obtain rfl : l = [] := List.eq_nil_of_length_eq_zero (by omega)
          subst h0
          exact ⟨_, w1, run_append_owned_none (P := Tryd.prog) w1 w.heap.size 24 o3.type 47 i 1 Tryd.underlying24 hq _ _ _ hown, hown, hb1⟩
        · obtain ⟨v', w', h1, h2, h3, _, _⟩ := run_append_own_at (P := Tryd.prog) w1 w.heap.size 24 o3.type 47 i _ 1 8 Tryd.underlying24 hq hz0 hsz hby rfl (by omega) _ _ _ hown ad l.length c (l.map nvD) (by simp) (fun j y hy => by
            rw [List.getElem?_map] at hy
            obtain ⟨z, hz, rfl⟩ := Option.map_eq_some_iff.1 hy
            obtain ⟨b, of, e1, _, hcc⟩ := hr.at_ (by have := (List.getElem?_eq_some_iff.1 hz).1; omega)
            injection e1 with e1
            subst e1
            rw [Addr.add_lit]
            exact hcc j z hz) (fun y hy => by
            obtain ⟨z, _, rfl⟩ := List.mem_map.1 hy
            rfl) (by simp only [maxLen]; omega) (by omega) hb1.size
          exact ⟨v', w', h1, by simpa using h2, hb1.grown h3 hb1.size (fun j hj => by
            injection hj with hj
            rw [← hj]
            exact Nat.le_refl _)⟩
      obtain ⟨t, ht, H'⟩ := own_told (B := 0) H h3 hown2
      obtain ⟨A', c', rfl, _⟩ := ht.form
      have x1 := H2.ev (x := .tmp d) (v := .slice (some ⟨w.heap.size, 0, none⟩) 0 0) (by
        have h_ : Nat.beq d2 d = false := by
          cases hq_ : Nat.beq d2 d with
          | false => rfl
          | true =>
            have e_ := Nat.eq_of_beq_eq_true hq_
            have h1_ := hne.1
            rw [e_, Nat.beq_refl] at h1_
            cases h1_
        simp [sev, look, h_])
      have x2 := H2.ev (x := .tmp d2) (v := .slice A l.length c) (by simp [sev, look])
      unfold Oper.wp
      simp [execOp, ho3, resolve, invoke, builtin, x1, x2, h1, Result.andThen]
      refine hK _ _ (next A' c' t _ _ ht ?_)
      rw [hd3]
      have H3 : St n w0 _ w' ((d2, .slice A l.length c) :: (d, .slice (some ⟨w.heap.size, 0, none⟩) 0 0) :: e) (h ++ t) := (H'.put (d := d) (.slice (some ⟨w.heap.size, 0, none⟩) 0 0) hl hf).put (d := d2) (.slice A l.length c) hl2 (by simp only [List.all_cons, hf2, Bool.and_true, Bool.not_eq_true']; exact hne.1)
      have H4 := H3.put (d := d3) (.slice A' l.length c') hl3 (by simp only [List.all_cons, hf3, Bool.and_true, Bool.and_eq_true, Bool.not_eq_true']; exact ⟨hne.2.1, hne.2.2⟩)
      exact H4.sub (fun p hp => by
        rcases List.mem_cons.1 hp with rfl | hp
        · exact List.mem_cons_self
        · exact List.mem_cons_of_mem _ (List.mem_cons_of_mem _ (List.mem_cons_of_mem _ hp))) (fun _ h => h) H4.apart
end
attribute [local irreducible] bvs byteD rb
set_option maxHeartbeats 4000000 in
theorem derint_walk (n : Int) (w : World) (hn : -9223372036854775808 ≤ n ∧ n < 9223372036854775808) : Calls Tryd.prog 25 #[.int .i64 n] w (fun rr w' => ∃ t, rr = .returned t ∧ Below w.heap.size w w' ∧ DF (intT n) t w') := by
  refine calls_st (vs := [.int .i64 n]) 5 Tryd.func25 rfl Tryd.ntmps25 rfl (fun a W H => ?_)
  replace H : St 5 w a W [(0, .int .i64 n)] [] := H
  refine sqR H gs0 fun Z_ z_ => rA rfl rfl al_der fun g1 => rN0 z_ ?_
  try clear H a W
  intro a W H
  refine sqR H gs0 fun Z_ z_ => rS 1 rfl <| rV rfl (does_build rfl rfl (bd_derKN 2 n)) <| rW [1] ⟨rfl, rfl⟩ rfl rfl rfl (info_der (DH.mk 2 false n SL.no [] SL.no SL.no)) (size_der DH.no (DH.mk 2 false n SL.no [] SL.no SL.no)) (DH.mk 2 false n SL.no [] SL.no SL.no).one <| rK [0, 0, 1, 0] [] [] <| rN0 z_ ?_
  try clear H a W
  intro a W H
  refine wp_ret ?_
  repeat (first | (with_reducible refine then_ret ?_) | (with_reducible refine blk_ret ?_))
  refine end_cell (p := 2) rfl rfl (k := 0) rfl Tryd.underlying27 rfl (info_der _) H (fun hb => ?_)
  exact ⟨_, rfl, hb, (DH.mk 2 false n SL.no [] SL.no SL.no), rfl, (dc_flat (C := fun _ _ _ => False) (by decide) hn (by decide)).dx (fun _ _ _ h => h.elim)⟩
set_option maxHeartbeats 4000000 in
theorem cloneU_walk {Aa : Option Addr} {na ca : Nat} {la : List Nat} (w : World) (hnn : NS w w.heap.size Aa na ca la) (hla : la.length ≤ 100000) : Calls Tryd.prog 42 #[.slice Aa na ca] w (fun rr w' => ∃ v, rr = .returned v ∧ Below w.heap.size w w' ∧ w'.ownsRow w.heap.size 47 1 v la.length (la.map nvD)) := by
  have hns : NSF la (.slice Aa na ca) w := ⟨_, _, _, rfl, hnn⟩
  refine calls_st (vs := [.slice Aa na ca]) 8 Tryd.func42 rfl Tryd.ntmps42 rfl (fun a W H => ?_)
  replace H : St 8 w a W [(0, .slice Aa na ca)] [] := H
  refine sqR H gs0 fun Z_ z_ => rS 1 rfl <| rN0 z_ ?_
  try clear H a W
  intro a W H
  refine wp_seq_k (fun K2 hK2 => ?_)
  refine sqR H gs0 fun Z_ z_ => rS 1 rfl <| rV rfl (does_binOp rfl rfl rfl (sl_isnil rfl _ _)) <| rK [1, 0] [] [] <| rN0 z_ ?_
  try clear H a W
  intro a W H
  cases hq1 : Aa.isNone with
  | true =>
    rw [hq1] at H
    refine wp_cond_true (H.ev rfl) ?_
    refine sqR H gs0 fun Z_ z_ => rK [1, 0] [] [] <| rS 1 rfl <| rK [1, 0] [] [] <| rN0 z_ ?_
    try clear H a W
    intro a W H
    refine wp_ret ?_
    repeat (first | (with_reducible refine then_ret ?_) | (with_reducible refine blk_ret ?_))
    refine end_tmp (p := 2) rfl rfl H (fun hb => ?_)
    have hA_ : Aa = none := Option.isNone_iff_eq_none.1 hq1
    have h0_ : la = [] := List.eq_nil_of_length_eq_zero (by have := hnn.nil_ hA_; have := hnn.cap; have := hnn.len; omega)
    refine ⟨_, rfl, hb, ?_⟩
    rw [h0_]
    exact World.ownsRow_nil _ _ _ _
  | false =>
    rw [hq1] at H
    refine wp_cond_false (H.ev rfl) ?_
    refine wp_skip ?_
    refine hK2 _ _ ?_
    clear hK2
    refine wp_seq_k (fun K5 hK5 => ?_)
    refine rg_plain ?_
    refine pl_cloneN rfl rfl rfl rfl rfl rfl rfl rfl rfl (fun _ => rfl) (Lasts.lasts (F := NSF la (.slice Aa na ca)) _ _ hns (by have hb_ := H.below; exact hb_)) (by omega) rfl rfl rfl ⟨rfl, rfl, rfl⟩ rfl rfl rfl H ?_
    try clear H a W
    intro A8 c8 t8 a W hO H
    replace H : St 8 w a W [(7, .slice A8 la.length c8), (4, .bool false), (2, .slice none 0 0), (0, .slice Aa na ca)] (t8) := H
    refine rgO H gs0 (rK [1, 1, 0] [] [] <| rS 1 rfl <| rK [1, 0, 0, 0] [] [] <| rZ0 ?_)
    try clear H a W
    intro a W H
    refine hK5 _ _ ?_
    clear hK5
    refine wp_ret ?_
    repeat (first | (with_reducible refine then_ret ?_) | (with_reducible refine blk_ret ?_))
    refine end_tmp (p := 2) rfl rfl H (fun hb => ?_)
    exact ⟨_, rfl, hb, hO.owns (h := []) H⟩
theorem cloneU_any {v : Value} {l : List Nat} (w : World) (hv : NSF l v w) (hl : l.length ≤ 100000) : Calls Tryd.prog 42 #[v] w (fun rr w' => ∃ v, rr = .returned v ∧ Below w.heap.size w w' ∧ w'.ownsRow w.heap.size 47 1 v l.length (l.map nvD)) := by
  obtain ⟨A, n, c, rfl, h⟩ := hv
  exact cloneU_walk w h hl
set_option maxHeartbeats 4000000 in
theorem deroid_walk {v0 : Value} {la : List Nat} (w : World) (hns : NSF la v0 w) (hla : la.length ≤ 100000) : Calls Tryd.prog 23 #[v0] w (fun rr w' => ∃ t, rr = .returned t ∧ Below w.heap.size w w' ∧ DF (oidT la) t w') := by
  have hlt : ∀ x ∈ la, x < 18446744073709551616 := by obtain ⟨_, _, _, _, h_⟩ := hns; exact h_.lt
  refine calls_st (vs := [v0]) 6 Tryd.func23 rfl Tryd.ntmps23 rfl (fun a W H => ?_)
  replace H : St 6 w a W [(0, v0)] [] := H
  refine sqR H gs0 fun Z_ z_ => rA rfl rfl al_der fun g1 => rN0 z_ ?_
  try clear H a W
  intro a W H
  refine wp_seq_k (fun K2 hK2 => ?_)
  refine rgP H gs0 (rS 1 rfl <| rI0 ?_)
  try clear H a W
  intro a W H
  refine pl_callOwn rfl ⟨_, Tryd.func42, by kernel_rfl⟩ rfl (cloneU_any _ (Lasts.lasts (F := NSF la v0) _ _ hns H.below) hla) rfl rfl rfl rfl H ?_
  try clear H a W
  intro v9 t9 a W hO H
  obtain ⟨A9, c9, rfl, hc9_⟩ := hO.form
  replace H : St 6 w a W [(4, .slice A9 la.length c9), (3, v0), (2, .pointer (some ⟨g1, 0, none⟩)), (0, v0)] ((g1, 27, DH.no.cs) :: t9) := H
  refine rgO H gs0 (rV rfl (does_build rfl rfl (bd_derA 5 _ _ _)) <| rW [1] ⟨rfl, rfl⟩ rfl rfl rfl (info_der (DH.mk 5 false 0 SL.no [] (SL.mk A9 la.length c9) SL.no)) (size_der DH.no (DH.mk 5 false 0 SL.no [] (SL.mk A9 la.length c9) SL.no)) (DH.mk 5 false 0 SL.no [] (SL.mk A9 la.length c9) SL.no).one <| rK [0, 0, 0, 1, 0] [] [] <| rZ0 ?_)
  try clear H a W
  intro a W H
  refine hK2 _ _ ?_
  clear hK2
  refine wp_ret ?_
  repeat (first | (with_reducible refine then_ret ?_) | (with_reducible refine blk_ret ?_))
  refine end_cell (p := 2) rfl rfl (k := 0) rfl Tryd.underlying27 rfl (info_der _) H (fun hb => ?_)
  exact ⟨_, rfl, hb, (DH.mk 5 false 0 SL.no [] (SL.mk A9 la.length c9) SL.no), rfl, ((dc_A (by decide) (by decide) hlt (by omega) hO).dy fun g_ k_ v_ hc_ => TN.plain (fun p hp => H.heap p (by simp [hp])) hc_).dx⟩
theorem int_ok (w : World) : IntOk w := fun W hb n hn => derint_walk n W hn
theorem oid_ok (w : World) : OidOk w := fun W hb {v l} hv hl => deroid_walk W hv (by omega)
theorem dof_is {u8 : List UInt8 → Bool} {w : World} (hu8 : UV u8 w) (hpg : PGt w) : OfOk 19 u8 (derE u8) w := fun W hb {v l} hv hl => by
  obtain ⟨A, n, c, rfl, h⟩ := hv
  exact derof_walk u8 W (hu8.ext hb) (hpg.ext hb) ⟨_, _, _, rfl, h⟩ h.len
theorem dk_is {u8 : List UInt8 → Bool} {w : World} (hu8 : UV u8 w) (hpg : PGt w) : DK u8 w := ⟨fun W hb {v k n f a} hv _ => by
  obtain ⟨x, rfl, hx⟩ := hv
  refine derbytes_walk u8 W (hu8.ext hb) (hpg.ext hb) (DY.leaf hx) ?_ ⟨Nat.zero_le _, Nat.zero_le _, fun T hT => by cases hT⟩
  rw [nodes_eq]
  show 1 + nodesL [] ≤ 1000000
  rw [nodesL_nil]
  decide⟩
theorem kn_is {u8 : List UInt8 → Bool} {w : World} (hu8 : UV u8 w) (hpg : PGt w) : HKn w := known_is hu8 (dk_is hu8 hpg) (int_ok w) (oid_ok w) (dof_is hu8 hpg)
end Go.Proofs.YtiafcgoiolbdhaaDoor
namespace Go.Proofs.YtiafcgoiolbdhaaDoor
set_option linter.unusedVariables false
set_option maxRecDepth 100000
open Go Go.RowKit Go.Lib
open Go.ChangeShapes Go.WideShapes Go.ChangeAt
def laysValid_ren : Go.Shelf.Ren := ⟨fun | 196 => 51 | 259 => 72 | n => n, fun | 9 => 9 | 4 => 4 | 3 => 3 | 5 => 5 | 12 => 12 | 119 => 116 | 0 => 0 | 46 => 54 | 139 => 119 | 138 => 118 | 53 => 47 | n => n, fun | 3 => 1 | 4 => 2 | n => n⟩
theorem laysValid : Go.Proofs.Lays.n196 Tryd.prog laysValid_ren := {
  mixed := by kernel_rfl
  f196 := Tryd.func51.trans (congrArg some (by kernel_rfl))
  f259 := Tryd.func72.trans (congrArg some (by kernel_rfl))
  t0 := Tryd.underlying0
  a0 := Tryd.isAgg0
  z0 := Tryd.sizeOf0
  v0 := Tryd.zeroValue0
  t3 := Tryd.underlying3
  a3 := Tryd.isAgg3
  z3 := Tryd.sizeOf3
  v3 := Tryd.zeroValue3
  t4 := Tryd.underlying4
  a4 := Tryd.isAgg4
  z4 := Tryd.sizeOf4
  v4 := Tryd.zeroValue4
  t5 := Tryd.underlying5
  a5 := Tryd.isAgg5
  z5 := Tryd.sizeOf5
  v5 := Tryd.zeroValue5
  t9 := Tryd.underlying9
  a9 := Tryd.isAgg9
  z9 := Tryd.sizeOf9
  v9 := Tryd.zeroValue9
  t12 := Tryd.underlying12
  a12 := Tryd.isAgg12
  z12 := Tryd.sizeOf12
  v12 := Tryd.zeroValue12
  t46 := Tryd.underlying54
  a46 := Tryd.isAgg54
  z46 := Tryd.sizeOf54
  v46 := Tryd.zeroValue54
  t53 := Tryd.underlying47
  a53 := Tryd.isAgg47
  z53 := Tryd.sizeOf47
  v53 := Tryd.zeroValue47
  t119 := Tryd.underlying116
  a119 := Tryd.isAgg116
  z119 := Tryd.sizeOf116
  t138 := Tryd.underlying118
  a138 := Tryd.isAgg118
  z138 := Tryd.sizeOf118
  v138 := Tryd.zeroValue118
  t139 := Tryd.underlying119
  a139 := Tryd.isAgg119
  z139 := Tryd.sizeOf119
  v139 := Tryd.zeroValue119
  g3 := by kernel_rfl
  g4 := by kernel_rfl }
def V8 (l : List UInt8) : Bool := Lib.validD l
theorem uv_of {w : World} (h3 : VarReads Tryd.prog w "unicode/utf8.first" firstData) (h4 : VarReads Tryd.prog w "unicode/utf8.acceptRanges" acceptData) : UV V8 w := fun W hb l hl => by
  have hT := utf8Tabs_of_readsT (ρ := laysValid_ren) (U8Types.of196 laysValid) ⟨by kernel_rfl, by kernel_rfl, by kernel_rfl, by kernel_rfl, by kernel_rfl, by kernel_rfl, by kernel_rfl⟩ h3 h4
  have h := Any.utf8_ValidString laysValid (strB l) W (by rw [strB_size]; omega) (Utf8Tabs_below hT hb)
  rw [strB_data] at h
  exact h
theorem own : ownKnob Tryd.prog.godebug = none := by kernel_rfl
theorem laidOut : laidOutB Tryd.prog = true := by kernel_rfl
def laidP : List (String × DataW Unit) := [("unicode/utf8.acceptRanges", Rows.laid_unicode_utf8_acceptRanges), ("escutcheon/der.tags", Rows.laid_escutcheon_der_tags), ("unicode/utf8.first", Rows.laid_unicode_utf8_first)]
theorem door_met (os : Os) (args : Array Value) : laidMetH Tryd.prog laidP ((World.laidAll Tryd.prog os laidP).forCall (fun _ _ => 0) ⟨#[], args, []⟩).memory := by
  rw [MakeChecks.laidMetH_plain _ _ _ (by kernel_rfl)]
  exact laidMet_laidAll _ (by kernel_rfl) (by kernel_rfl)
theorem laid_first : Rows.laid_unicode_utf8_first = firstData := by kernel_rfl
theorem laid_accept : (Rows.laid_unicode_utf8_acceptRanges : DataW Unit) = acceptData := by kernel_rfl
/-- What the laws ask of the world. -/
structure PG (w : World) : Prop where
  u8 : UV V8 w
  tags : PGt w
theorem cells_u8T : Tryd.prog.cellsOf 5 = 1 := by kernel_rfl
theorem cells_a11 : Tryd.prog.cellsOf 110 = 11 := by kernel_rfl
theorem und_u8T : Tryd.prog.underlying 5 = some (.int .u8) := by kernel_rfl
theorem und_a11 : Tryd.prog.underlying 110 = some (.array 11 5) := by kernel_rfl
def litsT (L : List Nat) : List (DataW Unit) := L.map fun x => .lit (.int .u8 ((x : Nat) : Int))
theorem tags_cells {W : World} {fuel : Nat} {cs : List Value} {L : List Nat} {p : List MemPlace} {held : Bool} (hd : DataW.trod (fun _ => ()) Tryd.prog W 0 (fun _ => true) held fuel 110 cs = some (.agg (litsT L), p)) (hk : 11 = L.length) : ∀ i x : Nat, L[i]? = some x → cs[i]? = some (.int .u8 (x : Int)) := by
  obtain ⟨xs, m1, rfl, hx1, hlen, hn3, hel⟩ := DataW.trod_array und_a11 hd
  simp only [Prod.mk.injEq, DataW.agg.injEq] at hx1
  intro i x hx
  have hi : i < 11 := by rw [hk]; exact (List.getElem?_eq_some_iff.1 hx).1
  have h1 := hel i hi
  rw [cells_u8T, Nat.mul_one] at h1
  have hxi : xs[i]? = some xs[i] := List.getElem?_eq_getElem (by omega)
  rw [hxi] at h1
  obtain ⟨z, e1, e2, e3⟩ := DataW.trod_int und_u8T h1
  have hl : i < cs.length := by rw [hlen, cells_a11]; omega
  have hd : (cs.drop i).take 1 = [cs[i]] := by
    rw [List.drop_eq_getElem_cons hl]
    rfl
  have h2 : cs[i]? = some (.int .u8 z) := by
    have : (cs.drop i).take 1 = [.int .u8 z] := e1
    rw [hd] at this
    rw [List.getElem?_eq_getElem hl]
    simpa using this
  have h3 : (xs.map (·.1))[i]? = some (.lit (.int .u8 z)) := by
    rw [List.getElem?_map, hxi]
    simp [e2]
  rw [← hx1.1, litsT, List.getElem?_map, hx] at h3
  injection h3 with h3
  injection h3 with h3
  injection h3 with h3 h4
  rw [h2, h4]
theorem gT : Tryd.prog.globalNamed "escutcheon/der.tags" = some 0 := by kernel_rfl
theorem tT : (Tryd.prog.globals[0]?).map (·.type) = some 110 := by kernel_rfl
theorem lT : Rows.laid_escutcheon_der_tags = .agg (litsT [0, 1, 2, 3, 4, 6, 12, 48, 160, 49, 24]) := by kernel_rfl
theorem tab_words : ∀ i, i < 11 → ([0, 1, 2, 3, 4, 6, 12, 48, 160, 49, 24] : List Nat)[i]? = some (tabQ i) := by decide +kernel
theorem pg_of_laid {W : World} (h : laidMetH Tryd.prog laidP W) : PG W := by
  rw [MakeChecks.laidMetH_plain _ _ _ (by kernel_rfl)] at h
  have h3 := Lib.laidMet.reads h (n := "unicode/utf8.first") (d := Rows.laid_unicode_utf8_first) (by simp [laidP])
  have h4 := Lib.laidMet.reads h (n := "unicode/utf8.acceptRanges") (d := Rows.laid_unicode_utf8_acceptRanges) (by simp [laidP])
  rw [laid_first] at h3
  rw [laid_accept] at h4
  obtain ⟨ps, ⟨g0, t0, cs0, f0, p0, q0, hg0, ht0, hv0, hd0, ⟨g1, t1, cs1, f1, p1, q1, hg1, ht1, hv1, hd1, _⟩, _⟩, _, _⟩ := h
  obtain rfl := Option.some.inj (gT.symm.trans hg1)
  obtain rfl := Option.some.inj (tT.symm.trans ht1)
  rw [lT] at hd1
  have c1 := tags_cells hd1 rfl
  have s1 : ∀ i, i < 11 → W.cell? ⟨0, i, none⟩ = some (.int .u8 ((tabQ i : Nat) : Int)) := fun i hi => by
    rw [World.var?_cell gT hv1 i, ← Array.getElem?_toList, c1 i _ (tab_words i hi)]
  exact ⟨uv_of h3 h4, ⟨block_lt_of_cell (s1 0 (by decide)), s1⟩⟩
end Go.Proofs.YtiafcgoiolbdhaaDoor
namespace Go.Proofs.YtiafcgoiolbdhaaDoor
set_option linter.unusedVariables false
set_option linter.unusedSimpArgs false
set_option maxRecDepth 100000
open Go Go.RowKit
theorem arA_len1 (l : List UInt8) : ∀ k, (arA l k).length ≤ k + 1
  | 0 => Nat.zero_le _
  | k + 1 => by
    have ih := arA_len1 l k
    unfold arA at ih ⊢
    unfold arS
    split
    · show (arS l k).2.length ≤ _
      omega
    · show (if (arS l k).2.isEmpty then _ else _ : List Nat).length ≤ _
      split
      · simp
      · rw [List.length_append, List.length_singleton]
        omega
theorem groups_5 {n : Nat} (h : n < 34359738368) : (groupsD n).length ≤ 5 := by
  unfold groupsD
  rw [List.length_append, List.length_singleton]
  have := hi_len 4 (n / 128) (by omega)
  omega
theorem flat_5 : ∀ (r : List Nat), (∀ x ∈ r, x < 2147483648) → (r.flatMap groupsD).length ≤ 5 * r.length
  | [], _ => Nat.le_refl _
  | x :: r, h => by
    rw [List.flatMap_cons, List.length_append, List.length_cons]
    have h1 := groups_5 (n := x) (by have := h x List.mem_cons_self; omega)
    have h2 := flat_5 r (fun y hy => h y (List.mem_cons_of_mem _ hy))
    omega
theorem oid_5 {a : List Nat} (h : arcsOk a = true) : (oidD a).length ≤ 5 * (a.length - 1) := by
  unfold arcsOk at h
  simp only [Bool.and_eq_true, Bool.or_eq_true, decide_eq_true_eq] at h
  obtain ⟨⟨⟨⟨h1, h2⟩, h3⟩, h4⟩, h5⟩ := h
  have hall : ∀ x ∈ a, x < 2147483648 := fun x hx => by simpa using List.all_eq_true.1 h5 x hx
  rcases a with _ | ⟨x, _ | ⟨y, r⟩⟩
  · simp at h1
  · simp at h1
  · simp only [List.getD_cons_zero] at h3
    have hy := hall y (by simp)
    unfold oidD
    rw [List.length_append]
    have g1 := groups_5 (n := 40 * x + y) (by omega)
    have g2 := flat_5 r (fun z hz => hall z (by simp [hz]))
    simp only [List.length_cons]
    omega
theorem len_le3 (n : Nat) : (lenD n).length ≤ 3 := by
  unfold lenD
  split
  · simp
  · split <;> simp
theorem kids_9 (u8 : List UInt8 → Bool) {d : Nat} (ih : ∀ l T j, readD d l = some (T, j) → mayD u8 d T = true → (packD d T).length ≤ 9 * j) : ∀ (f : Nat) (c : List UInt8) (ks : List DT), rdKids (readD d) f c = some ks → ks.all (mayD u8 d) = true → (ks.flatMap (packD d)).length ≤ 9 * c.length
  | f, [], ks, h, _ => by
    have : ks = [] := by
      cases f <;> (injection h with h; exact h.symm)
    subst this
    exact Nat.le_refl _
  | 0, _ :: _, ks, h, _ => by cases h
  | f + 1, x :: c, ks, h, hm => by
    unfold rdKids at h
    cases hr : readD d (x :: c) with
    | none => rw [hr] at h; cases h
    | some p =>
      obtain ⟨T, j⟩ := p
      rw [hr] at h
      obtain ⟨ks', hk, rfl⟩ := Option.map_eq_some_iff.1 h
      rw [List.all_cons, Bool.and_eq_true] at hm
      have h1 := ih _ _ _ hr hm.1
      have h2 := kids_9 u8 ih f _ ks' hk hm.2
      have h3 := read_pos hr
      rw [List.flatMap_cons, List.length_append]
      rw [List.length_drop] at h2
      omega
theorem whole_8 (n : Int) : (wholeD n).length ≤ 8 := by
  unfold wholeD
  rw [be_len]
  exact (size_pos n).2
theorem read_9 (u8 : List UInt8 → Bool) : ∀ (d : Nat) (l : List UInt8) (T : DT) (j : Nat), readD d l = some (T, j) → mayD u8 d T = true → (packD d T).length ≤ 9 * j
  | 0, l, T, j, h, _ => by cases h
  | d + 1, l, T, j, h, hm => by
    cases hs : spanD l with
    | none => rw [readD_no hs] at h; cases h
    | some p =>
      obtain ⟨i, j'⟩ := p
      rw [readD_succ hs] at h
      obtain ⟨T', hT, e⟩ := Option.map_eq_some_iff.1 h
      injection e with e1 e2
      subst e1 e2
      have hi : 2 ≤ i ∧ i ≤ j' ∧ j' ≤ l.length := by
        have := hs
        unfold spanD at this
        repeat' split at this
        all_goals first
          | (cases this; done)
          | (injection this with this; injection this with h1 h2; omega)
      generalize hc : (l.take j').drop i = c at hT
      have hcl : c.length = j' - i := by rw [← hc, List.length_drop, List.length_take]; omega
      generalize kindD (l.getD 0 0).toNat = k at hT
      generalize (l.getD 0 0).toNat = x at hT
      have hmk : ∀ (k : Int) (f : Bool) (n : Int) (b t : List UInt8) (a : List Nat) (ks : List DT), T' = .mk k f n b t a ks → (packD (d + 1) T').length ≤ 4 + (contD k f n b t a (ks.flatMap (packD d))).length := fun k f n b t a ks e => by
        subst e
        unfold packD
        rw [head_len]
        have := len_le3 (contD k f n b t a (ks.flatMap (packD d))).length
        omega
      unfold makeD at hT
      have hcl9 : 4 + 9 * c.length + 9 ≤ 9 * j' := by omega
      have nokids : ([] : List DT).flatMap (packD d) = [] := rfl
      have kids_ : ∀ ks, rdK d c = some ks → mayD u8 (d + 1) T' = true → kidsOf T' = ks → (ks.flatMap (packD d)).length ≤ 9 * c.length := fun ks h1 h2 h3 => by
        unfold mayD at h2
        rw [Bool.and_eq_true, h3] at h2
        exact kids_9 u8 (read_9 u8 d) c.length c ks h1 h2.2
      split at hT
      · injection hT with hT; subst hT
        have := hmk _ _ _ _ _ _ _ rfl
        rw [nokids] at this
        simp [contD] at this
        omega
      split at hT
      · injection hT with hT; subst hT
        have := hmk _ _ _ _ _ _ _ rfl
        have h8 := whole_8 (numD c)
        rw [nokids] at this
        simp [contD] at this
        omega
      split at hT
      · injection hT with hT; subst hT
        have := hmk _ _ _ _ _ _ _ rfl
        rw [nokids] at this
        have hd1 : (0 :: c.drop 1 ++ ([] : List UInt8)).length ≤ c.length + 1 := by rw [List.append_nil, List.length_cons, List.length_drop]; omega
        have e3 : contD 3 false 0 (c.drop 1) [] [] [] = 0 :: c.drop 1 ++ ([] : List UInt8) := rfl
        rw [e3] at this
        omega
      split at hT
      · injection hT with hT; subst hT
        have := hmk _ _ _ _ _ _ _ rfl
        rw [nokids] at this
        simp [contD] at this
        omega
      split at hT
      · injection hT with hT; subst hT
        have := hmk _ _ _ _ _ _ _ rfl
        rw [nokids] at this
        have hao : arcsOk (arcsD c 0 []) = true := by
          unfold mayD ownD at hm
          simp only [Bool.and_eq_true] at hm
          have := hm.1.1.1.1.1.1.2
          simpa using this
        have h5 := oid_5 hao
        have h6 := arA_len1 c c.length
        rw [← arcs_end] at h6
        simp [contD] at this
        omega
      split at hT
      · rename_i hk
        injection hT with hT; subst hT
        have := hmk _ _ _ _ _ _ _ rfl
        rw [nokids] at this
        rcases hk with rfl | rfl <;> (simp [contD] at this; omega)
      split at hT
      · rename_i hk
        obtain ⟨ks, h1, h2⟩ := Option.map_eq_some_iff.1 hT
        have := hmk _ _ _ _ _ _ _ h2.symm
        have h3 := kids_ ks h1 hm (by rw [← h2]; rfl)
        rcases hk with rfl | rfl <;> (simp [contD] at this; simp at h3; omega)
      split at hT
      · obtain ⟨ks, h1, h2⟩ := Option.map_eq_some_iff.1 hT
        have := hmk _ _ _ _ _ _ _ h2.symm
        have h3 := kids_ ks h1 hm (by rw [← h2]; rfl)
        simp [contD] at this
        simp at h3
        omega
      · cases hT
theorem dq_df {n : Nat} {w0 w : World} {a : Act} {e : Env} {h t : Hep} {P : Nat → Prop} {T : DT} {x : DH} (hP : ∀ b, P b → b < w0.heap.size) (hd : DQ w0 P t T x) (H : St n w0 a w e (h ++ t)) : DX w w.heap.size T x :=
  (hd.dp (P' := fun b => b < w.heap.size) (fun p hp => H.below.cell (hP _ hp)) (fun b hp => Nat.lt_of_lt_of_le (hP b hp) H.below.size) (fun p hp => have hb := H.heap p (List.mem_append.2 (.inr hp)); ⟨hb, hb.lt⟩)).dx (fun _ h => h)
theorem ofD_none {u8 : List UInt8 → Bool} {l : List UInt8} (h : 65000 < l.length ∨ readD 12 l = none) : ofD u8 l = none := by
  unfold ofD
  by_cases hl : 65000 < l.length
  · rw [if_pos hl]
  · rw [if_neg hl]
    rcases h with h | h
    · exact absurd h hl
    · rw [h]
theorem ofD_at {u8 : List UInt8 → Bool} {l : List UInt8} {T : DT} {j : Nat} (hl : ¬ 65000 < l.length) (h : readD 12 l = some (T, j)) : ofD u8 l = bif decide (j = l.length) && (mayD u8 12 T && decide (packD 12 T = l)) then some T else none := by
  unfold ofD
  rw [if_neg hl, h]
theorem zero_dq (w : World) (P : Nat → Prop) (t : Hep) : DQ w P t zeroT (DH.mk 0 false 0 SL.no [] SL.no SL.no) := dq_leaf (by decide) (by decide) ⟨by decide, by decide⟩ (BP.nil _ _)
theorem dq_dx {w w' : World} {P : Nat → Prop} {t : Hep} {T : DT} {x : DH} (hP : ∀ b, P b → b < w.heap.size) (hb : Below w.heap.size w w') (hn : NR w.heap.size t w') (hd : DQ w P t T x) : DX w' w'.heap.size T x :=
  (hd.dp (P' := fun b => b < w'.heap.size) (fun p hp => hb.cell (hP _ hp)) (fun b hp => Nat.lt_of_lt_of_le (hP b hp) hb.size) (fun p hp => ⟨hn.heap p hp, (hn.heap p hp).lt⟩)).dx (fun _ h => h)
attribute [local irreducible] tagD kindD numD arcsD rdK readD packD mayD ofD
set_option maxHeartbeats 4000000 in
theorem rof_walk {lb : List UInt8} {Ab : Option Addr} {nb cb : Nat} {P : Nat → Prop} (u8 : List UInt8 → Bool) (w : World) (hu8 : UV u8 w) (hP : ∀ b, P b → b < w.heap.size) (hbp : BP w P Ab nb cb lb) : Calls Tryd.prog 20 #[.slice Ab nb cb] w (fun rr w' => ∃ (x : DH) (t : Hep), rr = .returned (.tuple #[.agg x.cs, refE u8 lb]) ∧ Below w.heap.size w w' ∧ NR w.heap.size t w' ∧ DQ w P t (ofT u8 lb) x) := by
  have hbs := hbp.bs hP
  have hlb := hbp.len
  have hbfb : BF lb (.slice Ab nb cb) w := ⟨_, _, _, rfl, hbs⟩
  refine calls_st (vs := [.slice Ab nb cb]) 40 Tryd.func20 rfl Tryd.ntmps20 rfl (fun a W H => ?_)
  replace H : St 40 w a W [(0, .slice Ab nb cb)] [] := H
  refine sqR H gs0 fun Z_ z_ => rA rfl rfl al_der fun g1 => rS 1 rfl <| rN0 z_ ?_
  try clear H a W
  intro a W H
  refine wp_seq_k (fun K2 hK2 => ?_)
  refine sqR H gs0 fun Z_ z_ => rS 1 rfl <| rV rfl (does_len Tryd.underlying23 rfl rfl) <| rV rfl (does_binOp rfl rfl rfl (zd_gtr_int (k := ((nb : Nat) : Int)) (m := 65000) rfl _ _)) <| rK [1, 0, 0] [] [] <| rN0 z_ ?_
  try clear H a W
  intro a W H
  cases hq1 : decide (65000 < ((nb : Nat) : Int)) with
  | true =>
    rw [hq1] at H
    have hq1p := of_decide_eq_true hq1
    refine wp_cond_true (H.ev rfl) ?_
    refine sqR H gs0 fun Z_ z_ => rV rfl (does_build (ps := []) rfl rfl bd_der0) <| rW [1] ⟨rfl, rfl⟩ rfl rfl rfl (info_der (DH.mk 0 false 0 SL.no [] SL.no SL.no)) (size_der DH.no (DH.mk 0 false 0 SL.no [] SL.no SL.no)) (DH.mk 0 false 0 SL.no [] SL.no SL.no).one <| rK [1, 1, 0] [] [] <| rS 1 rfl <| rK [1, 0, 0] [] [] <| rN0 z_ ?_
    try clear H a W
    intro a W H
    refine wp_ret ?_
    repeat (first | (with_reducible refine then_ret ?_) | (with_reducible refine blk_ret ?_))
    refine end_cell_tmp (p := 2) (q := 3) rfl rfl rfl (k := 0) rfl Tryd.underlying27 rfl (info_der _) H (fun hb => ?_)
    have hof : ofD u8 lb = none := by
      exact ofD_none (.inl (by omega))
    refine ⟨(DH.mk 0 false 0 SL.no [] SL.no SL.no), [], ?_, hb, NR.nil _ _, ?_⟩
    · show _ = Ending.returned (.tuple #[_, .bool (okD u8 lb)])
      rw [show okD u8 lb = false from by unfold okD; rw [hof]; rfl]
    · rw [show ofT u8 lb = zeroT from by unfold ofT; rw [hof]; rfl]
      exact zero_dq _ _ _
  | false =>
    rw [hq1] at H
    have hq1p := of_decide_eq_false hq1
    refine wp_cond_false (H.ev rfl) ?_
    refine wp_skip ?_
    refine hK2 _ _ ?_
    clear hK2
    refine wp_seq_k (fun K5 hK5 => ?_)
    refine rgP H gs0 (rS 1 rfl <| rI0 ?_)
    try clear H a W
    intro a W H
    refine pl_read rfl rfl (read_any 12 (by omega)) hP hbp (by omega) rfl rfl rfl rfl H ?_
    try clear H a W
    intro x1 j1 ok1 t1 a W hr1 hr2 H
    obtain ⟨T1, hT1⟩ : ∃ T1, ok1 = true → readD 12 lb = some (T1, j1) ∧ DQ w P t1 T1 x1 := by
      cases ok1 with
      | false => exact ⟨zeroT, fun h => by cases h⟩
      | true => obtain ⟨T, h⟩ := hr1 rfl; exact ⟨T, fun _ => h⟩
    replace H : St 40 w a W [(13, .tuple #[.agg (x1.cs), .int .i64 ((j1 : Nat) : Int), .bool ok1]), (12, .slice Ab nb cb), (9, .bool false), (3, .bool false), (2, .pointer (some ⟨g1, 0, none⟩)), (0, .slice Ab nb cb)] ((g1, 27, DH.no.cs) :: t1) := H
    refine rgO H gs0 (rS 4 rfl <| rA rfl rfl al_der fun g2 => rW [1] ⟨rfl, rfl⟩ rfl rfl rfl (info_der x1) (size_der DH.no x1) x1.one <| rS 2 rfl <| rK [1, 1, 1, 0, 0, 0, 0, 0, 0, 0] [] [] <| rZ0 ?_)
    try clear H a W
    intro a W H
    replace H : St 40 w a W [(6, .bool ok1), (5, .int .i64 ((j1 : Nat) : Int)), (4, .pointer (some ⟨g2, 0, none⟩)), (3, .bool false), (2, .pointer (some ⟨g1, 0, none⟩)), (0, .slice Ab nb cb)] ((g2, 27, x1.cs) :: (g1, 27, DH.no.cs) :: t1) := H.sub (by simp) (fun _ h => h) H.apart
    refine hK5 _ _ ?_
    clear hK5
    refine wp_seq_k (fun K6 hK6 => ?_)
    refine wp_seq_k (fun K7 hK7 => ?_)
    cases hq2 : ok1 with
    | true =>
      rw [hq2] at H
      cases hq3 : decide (((j1 : Nat) : Int) ≠ ((nb : Nat) : Int)) with
      | true =>
        have hq3p := of_decide_eq_true hq3
        refine d2 (.v 17 _ [] :: .v 18 _ [0] :: .v 19 _ [1] :: .v 20 _ [2] :: .v 21 _ [2] :: .v 22 _ [4, 2] :: .v 23 _ [3, 5, 2] :: .v 24 _ [2, 6] :: .v 25 _ [7] :: .u 26 [8] :: .u 27 [9, 8] :: .u 28 [10, 8] :: .v 29 _ [8, 11] :: .v 30 _ [12] :: .u 31 [13] :: .u 32 [14, 13] :: .u 33 [15, 13] :: .u 34 [13] :: .u 35 [17, 13] :: .u 36 [16, 18, 13] :: .v 37 _ [13, 19] :: []) (by kernel_rfl) (by kernel_rfl) H gs0 ⟨oS rfl rfl, oS rfl rfl, oS rfl rfl, oS rfl rfl, oS rfl rfl, oV rfl (does_len Tryd.underlying23 rfl rfl), oV rfl (does_binOp rfl rfl rfl (zd_neq_int (k := ((j1 : Nat) : Int)) (m := ((nb : Nat) : Int)) hq3 _ _)), oS rfl rfl, oS rfl rfl, oU rfl, oU rfl, oU rfl, oS rfl rfl, oS rfl rfl, oU rfl, oU rfl, oU rfl, oU rfl, oU rfl, oU rfl, oS rfl rfl, trivial⟩ (rK [1, 0, 0, 0, 0, 0, 0, 0, 0, 0, 0, 0, 0, 0, 0, 0, 0, 0, 0, 0, 0, 0, 0, 1, 1, 1, 0] [] [] <| rZ0 ?_)
        try clear H a W
        intro a W H
        refine hK7 _ _ ?_
        clear hK7
        refine wp_cond_true (H.ev rfl) ?_
        refine sqR H gs0 fun Z_ z_ => rV rfl (does_build (ps := []) rfl rfl bd_der0) <| rW [0, 1] ⟨rfl, rfl⟩ rfl rfl rfl (info_der (DH.mk 0 false 0 SL.no [] SL.no SL.no)) (size_der DH.no (DH.mk 0 false 0 SL.no [] SL.no SL.no)) (DH.mk 0 false 0 SL.no [] SL.no SL.no).one <| rK [1, 1, 1, 0] [] [] <| rS 1 rfl <| rK [1, 0, 0] [] [] <| rN0 z_ ?_
        try clear H a W
        intro a W H
        refine wp_ret ?_
        repeat (first | (with_reducible refine then_ret ?_) | (with_reducible refine blk_ret ?_))
        refine end_cell_tmp (p := 2) (q := 3) rfl rfl rfl (k := 1) rfl Tryd.underlying27 rfl (info_der _) H (fun hb => ?_)
        have hof : ofD u8 lb = none := by
          rw [ofD_at (by omega) (hT1 hq2).1]
          rw [decide_eq_false (show ¬ j1 = lb.length by omega)]
          rfl
        refine ⟨(DH.mk 0 false 0 SL.no [] SL.no SL.no), [], ?_, hb, NR.nil _ _, ?_⟩
        · show _ = Ending.returned (.tuple #[_, .bool (okD u8 lb)])
          rw [show okD u8 lb = false from by unfold okD; rw [hof]; rfl]
        · rw [show ofT u8 lb = zeroT from by unfold ofT; rw [hof]; rfl]
          exact zero_dq _ _ _
      | false =>
        have hq3p := of_decide_eq_false hq3
        cases hq4 : mayD u8 12 T1 with
        | true =>
          refine d2 (.v 17 _ [] :: .v 18 _ [0] :: .v 19 _ [1] :: .v 20 _ [2] :: .v 21 _ [2] :: .v 22 _ [4, 2] :: .v 23 _ [3, 5, 2] :: .v 24 _ [2, 6] :: .v 25 _ [7] :: .v 26 _ [8] :: .v 27 _ [9, 8] :: .v 28 _ [10, 8] :: .v 29 _ [8, 11] :: .v 30 _ [12] :: .v 31 _ [13] :: .f 32 _ [14, 13] :: .v 33 _ [15, 13] :: .v 34 _ [13] :: .v 35 _ [17, 13] :: .v 36 _ [16, 18, 13] :: .v 37 _ [13, 19] :: []) (by kernel_rfl) (by kernel_rfl) H gs0 ⟨oS rfl rfl, oS rfl rfl, oS rfl rfl, oS rfl rfl, oS rfl rfl, oV rfl (does_len Tryd.underlying23 rfl rfl), oV rfl (does_binOp rfl rfl rfl (zd_neq_int (k := ((j1 : Nat) : Int)) (m := ((nb : Nat) : Int)) hq3 _ _)), oS rfl rfl, oS rfl rfl, oV rfl (does_load rfl rfl (k := 0) rfl Tryd.underlying27 rfl (info_der x1)), oCV rfl rfl ⟨_, Tryd.func15, by kernel_rfl⟩ rfl (fun a W H _ => ((by have h_ := may_any u8 ⟨_, rfl, dq_df (h := [(g2, 27, x1.cs), (g1, 27, DH.no.cs)]) hP (hT1 hq2).2 H⟩ 12 (by omega) (hu8.ext H.below); rw [hq4] at h_; exact h_))), oS rfl rfl, oS rfl rfl, oS rfl rfl, oV rfl (does_load rfl rfl (k := 0) rfl Tryd.underlying27 rfl (info_der x1)), ⟨fun a W  H _ => ob_callS H (wanted_some rfl rfl rfl rfl rfl) rfl ⟨_, Tryd.func32, by kernel_rfl⟩ rfl (pack_sees u8 (dq_df (h := [(g2, 27, x1.cs), (g1, 27, DH.no.cs)]) hP (hT1 hq2).2 H) 12 _ (Sees.refl (Nat.le_refl _)) hq4 (by have := read_9 u8 12 lb T1 j1 (hT1 hq2).1 hq4; have := (read_pos (hT1 hq2).1).2; omega)), fun _ => inferInstance⟩, fun a W v32 hv32 H _ => ob_strD H (wanted_some rfl rfl rfl rfl rfl) rfl rfl hv32, oS rfl rfl, fun a W  H _ => ob_strD H (wanted_some rfl rfl rfl rfl rfl) rfl rfl (bf_old hbfb H), oV rfl (does_binOp rfl rfl rfl (sd_neq (l := (packD 12 T1)) (m := lb) rfl _ _)), oS rfl rfl, trivial⟩ (fun v32 => rK [1, 0, 0, 0, 0, 0, 0, 0, 0, 0, 0, 0, 0, 0, 0, 0, 0, 0, 0, 0, 0, 0, 0, 1, 1, 1, 0] [] [0] <| rZ0 ?_)
          try clear H a W
          intro a W H
          refine hK7 _ _ ?_
          clear hK7
          cases hq5 : decide ((packD 12 T1) ≠ lb) with
          | true =>
            rw [hq5] at H
            have hq5p := of_decide_eq_true hq5
            refine wp_cond_true (H.ev rfl) ?_
            refine sqR H gs0 fun Z_ z_ => rV rfl (does_build (ps := []) rfl rfl bd_der0) <| rW [0, 1] ⟨rfl, rfl⟩ rfl rfl rfl (info_der (DH.mk 0 false 0 SL.no [] SL.no SL.no)) (size_der DH.no (DH.mk 0 false 0 SL.no [] SL.no SL.no)) (DH.mk 0 false 0 SL.no [] SL.no SL.no).one <| rK [1, 1, 1, 0] [] [] <| rS 1 rfl <| rK [1, 0, 0] [] [] <| rN0 z_ ?_
            try clear H a W
            intro a W H
            refine wp_ret ?_
            repeat (first | (with_reducible refine then_ret ?_) | (with_reducible refine blk_ret ?_))
            refine end_cell_tmp (p := 2) (q := 3) rfl rfl rfl (k := 1) rfl Tryd.underlying27 rfl (info_der _) H (fun hb => ?_)
            have hof : ofD u8 lb = none := by
              rw [ofD_at (by omega) (hT1 hq2).1]
              rw [decide_eq_false (of_decide_eq_true hq5), Bool.and_false, Bool.and_false]
              rfl
            refine ⟨(DH.mk 0 false 0 SL.no [] SL.no SL.no), [], ?_, hb, NR.nil _ _, ?_⟩
            · show _ = Ending.returned (.tuple #[_, .bool (okD u8 lb)])
              rw [show okD u8 lb = false from by unfold okD; rw [hof]; rfl]
            · rw [show ofT u8 lb = zeroT from by unfold ofT; rw [hof]; rfl]
              exact zero_dq _ _ _
          | false =>
            rw [hq5] at H
            have hq5p := of_decide_eq_false hq5
            refine wp_cond_false (H.ev rfl) ?_
            refine wp_skip ?_
            refine hK6 _ _ ?_
            clear hK6
            refine sqR H gs0 fun Z_ z_ => rV rfl (does_load rfl rfl (k := 0) rfl Tryd.underlying27 rfl (info_der x1)) <| rW [0, 1] ⟨rfl, rfl⟩ rfl rfl rfl (info_der x1) (size_der DH.no x1) x1.one <| rK [1, 1, 1, 0] [] [] <| rS 1 rfl <| rK [1, 0, 0, 0] [] [] <| rN0 z_ ?_
            try clear H a W
            intro a W H
            refine wp_ret ?_
            repeat (first | (with_reducible refine then_ret ?_) | (with_reducible refine blk_ret ?_))
            refine end_cell_tmp (p := 2) (q := 3) rfl rfl rfl (k := 1) rfl Tryd.underlying27 rfl (info_der _) H (fun hb => ?_)
            have hof : ofD u8 lb = some T1 := by
              have hpk_ : packD 12 T1 = lb := Decidable.byContradiction fun h_ => (of_decide_eq_false hq5) h_
              rw [ofD_at (by omega) (hT1 hq2).1, hq4, decide_eq_true (show j1 = lb.length by omega), decide_eq_true hpk_]
              rfl
            refine ⟨x1, t1, ?_, hb, St.nr (h := [(g2, 27, x1.cs), (g1, 27, x1.cs)]) (t := t1) H, ?_⟩
            · show _ = Ending.returned (.tuple #[.agg x1.cs, .bool (okD u8 lb)])
              rw [show okD u8 lb = true from by unfold okD; rw [hof]; rfl]
            · rw [show ofT u8 lb = T1 from by unfold ofT; rw [hof]; rfl]
              exact (hT1 hq2).2
        | false =>
          refine d2 (.v 17 _ [] :: .v 18 _ [0] :: .v 19 _ [1] :: .v 20 _ [2] :: .v 21 _ [2] :: .v 22 _ [4, 2] :: .v 23 _ [3, 5, 2] :: .v 24 _ [2, 6] :: .v 25 _ [7] :: .v 26 _ [8] :: .v 27 _ [9, 8] :: .v 28 _ [10, 8] :: .v 29 _ [8, 11] :: .v 30 _ [12] :: .u 31 [13] :: .u 32 [14, 13] :: .u 33 [15, 13] :: .u 34 [13] :: .u 35 [17, 13] :: .u 36 [16, 18, 13] :: .v 37 _ [13, 19] :: []) (by kernel_rfl) (by kernel_rfl) H gs0 ⟨oS rfl rfl, oS rfl rfl, oS rfl rfl, oS rfl rfl, oS rfl rfl, oV rfl (does_len Tryd.underlying23 rfl rfl), oV rfl (does_binOp rfl rfl rfl (zd_neq_int (k := ((j1 : Nat) : Int)) (m := ((nb : Nat) : Int)) hq3 _ _)), oS rfl rfl, oS rfl rfl, oV rfl (does_load rfl rfl (k := 0) rfl Tryd.underlying27 rfl (info_der x1)), oCV rfl rfl ⟨_, Tryd.func15, by kernel_rfl⟩ rfl (fun a W H _ => ((by have h_ := may_any u8 ⟨_, rfl, dq_df (h := [(g2, 27, x1.cs), (g1, 27, DH.no.cs)]) hP (hT1 hq2).2 H⟩ 12 (by omega) (hu8.ext H.below); rw [hq4] at h_; exact h_))), oS rfl rfl, oS rfl rfl, oS rfl rfl, oU rfl, oU rfl, oU rfl, oU rfl, oU rfl, oU rfl, oS rfl rfl, trivial⟩ (rK [1, 0, 0, 0, 0, 0, 0, 0, 0, 0, 0, 0, 0, 0, 0, 0, 0, 0, 0, 0, 0, 0, 0, 1, 1, 1, 0] [] [] <| rZ0 ?_)
          try clear H a W
          intro a W H
          refine hK7 _ _ ?_
          clear hK7
          refine wp_cond_true (H.ev rfl) ?_
          refine sqR H gs0 fun Z_ z_ => rV rfl (does_build (ps := []) rfl rfl bd_der0) <| rW [0, 1] ⟨rfl, rfl⟩ rfl rfl rfl (info_der (DH.mk 0 false 0 SL.no [] SL.no SL.no)) (size_der DH.no (DH.mk 0 false 0 SL.no [] SL.no SL.no)) (DH.mk 0 false 0 SL.no [] SL.no SL.no).one <| rK [1, 1, 1, 0] [] [] <| rS 1 rfl <| rK [1, 0, 0] [] [] <| rN0 z_ ?_
          try clear H a W
          intro a W H
          refine wp_ret ?_
          repeat (first | (with_reducible refine then_ret ?_) | (with_reducible refine blk_ret ?_))
          refine end_cell_tmp (p := 2) (q := 3) rfl rfl rfl (k := 1) rfl Tryd.underlying27 rfl (info_der _) H (fun hb => ?_)
          have hof : ofD u8 lb = none := by
            rw [ofD_at (by omega) (hT1 hq2).1]
            rw [hq4, Bool.false_and, Bool.and_false]
            rfl
          refine ⟨(DH.mk 0 false 0 SL.no [] SL.no SL.no), [], ?_, hb, NR.nil _ _, ?_⟩
          · show _ = Ending.returned (.tuple #[_, .bool (okD u8 lb)])
            rw [show okD u8 lb = false from by unfold okD; rw [hof]; rfl]
          · rw [show ofT u8 lb = zeroT from by unfold ofT; rw [hof]; rfl]
            exact zero_dq _ _ _
    | false =>
      rw [hq2] at H
      refine d2 (.v 17 _ [] :: .v 18 _ [0] :: .v 19 _ [1] :: .u 20 [2] :: .u 21 [2] :: .u 22 [4, 2] :: .u 23 [3, 5, 2] :: .v 24 _ [2, 6] :: .v 25 _ [7] :: .u 26 [8] :: .u 27 [9, 8] :: .u 28 [10, 8] :: .v 29 _ [8, 11] :: .v 30 _ [12] :: .u 31 [13] :: .u 32 [14, 13] :: .u 33 [15, 13] :: .u 34 [13] :: .u 35 [17, 13] :: .u 36 [16, 18, 13] :: .v 37 _ [13, 19] :: []) (by kernel_rfl) (by kernel_rfl) H gs0 ⟨oS rfl rfl, oS rfl rfl, oS rfl rfl, oU rfl, oU rfl, oU rfl, oU rfl, oS rfl rfl, oS rfl rfl, oU rfl, oU rfl, oU rfl, oS rfl rfl, oS rfl rfl, oU rfl, oU rfl, oU rfl, oU rfl, oU rfl, oU rfl, oS rfl rfl, trivial⟩ (rK [1, 0, 0, 0, 0, 0, 0, 0, 0, 0, 0, 0, 0, 0, 0, 0, 0, 0, 0, 0, 0, 0, 0, 1, 1, 1, 0] [] [] <| rZ0 ?_)
      try clear H a W
      intro a W H
      refine hK7 _ _ ?_
      clear hK7
      refine wp_cond_true (H.ev rfl) ?_
      refine sqR H gs0 fun Z_ z_ => rV rfl (does_build (ps := []) rfl rfl bd_der0) <| rW [0, 1] ⟨rfl, rfl⟩ rfl rfl rfl (info_der (DH.mk 0 false 0 SL.no [] SL.no SL.no)) (size_der DH.no (DH.mk 0 false 0 SL.no [] SL.no SL.no)) (DH.mk 0 false 0 SL.no [] SL.no SL.no).one <| rK [1, 1, 1, 0] [] [] <| rS 1 rfl <| rK [1, 0, 0] [] [] <| rN0 z_ ?_
      try clear H a W
      intro a W H
      refine wp_ret ?_
      repeat (first | (with_reducible refine then_ret ?_) | (with_reducible refine blk_ret ?_))
      refine end_cell_tmp (p := 2) (q := 3) rfl rfl rfl (k := 1) rfl Tryd.underlying27 rfl (info_der _) H (fun hb => ?_)
      have hof : ofD u8 lb = none := by
        exact ofD_none (.inr (hr2 hq2))
      refine ⟨(DH.mk 0 false 0 SL.no [] SL.no SL.no), [], ?_, hb, NR.nil _ _, ?_⟩
      · show _ = Ending.returned (.tuple #[_, .bool (okD u8 lb)])
        rw [show okD u8 lb = false from by unfold okD; rw [hof]; rfl]
      · rw [show ofT u8 lb = zeroT from by unfold ofT; rw [hof]; rfl]
        exact zero_dq _ _ _
theorem rof_any {u8 : List UInt8 → Bool} {w : World} (hu8 : UV u8 w) : OfOk 20 u8 (refE u8) w := fun W hb {v l} hv hl => by
  obtain ⟨A, n, c, rfl, hbs⟩ := hv
  refine (rof_walk u8 W (hu8.ext hb) (fun b h => h) (P := fun b => b < W.heap.size) (BP.of_bs hbs fun b o _ _ h => h)).mono ?_
  rintro rr w' ⟨x, t, rfl, hbel, hn, hd⟩
  exact ⟨_, rfl, hbel, x, rfl, dq_dx (fun b h => h) hbel hn hd⟩
end Go.Proofs.YtiafcgoiolbdhaaDoor
namespace Go.Proofs.YtiafcgoiolbdhaaDoor
set_option linter.unusedVariables false
set_option linter.unusedSimpArgs false
open Go Go.RowKit
theorem PG.dk {w : World} (h : PG w) : DK V8 w := dk_is h.u8 h.tags
theorem PG.of_ {w : World} (h : PG w) : OfOk 19 V8 (derE V8) w := dof_is h.u8 h.tags
theorem PG.rof {w : World} (h : PG w) : OfOk 20 V8 (refE V8) w := rof_any h.u8
theorem PG.kn {w : World} (h : PG w) : HKn w := kn_is h.u8 h.tags
end Go.Proofs.YtiafcgoiolbdhaaDoor
