/- Package disk (layer 14): edits. -/
import Derived.Test.YtiebelmglchbdaaPf
namespace Go.Proofs.Ytiebelmglchbdaa
set_option linter.unusedVariables false
set_option linter.unusedSimpArgs false
set_option maxRecDepth 100000
open Go Go.RowKit

theorem b_xorP (x y : UInt8) (p q : Operand) (W : World) : (do eqGuard .xor 5 p q (bv x) (bv y); binOp .xor 5 (bv x) (bv y) : Sem Value).run Try.prog W = .ok (bv (x ^^^ y)) W := b_xor x y p q W
theorem ia_block {g o k : Nat} (hk : k < 512) (W : World) : (Instr.indexAt 77 (.pointer (some ⟨g, o, none⟩)) (.int .i64 (k : Int))).run Try.prog W = .ok (.pointer (some ⟨g, o + k, none⟩)) W := by
  have h1 : (0 : Int) ≤ (k : Int) := by omega
  have h2 : (k : Int) < 512 := by omega
  go_simp
theorem ld_u8t {g j : Nat} {t : TypeId} {cur : Array Value} {x : UInt8} (hj : cur[j]? = some (bv x)) (W : World) (h : Blk W g t cur) : (Instr.loadAt 5 (.pointer (some ⟨g, j, none⟩))).run Try.prog W = .ok (bv x) W := by
  have hc : W.cell? ⟨g, j, none⟩ = some (.int .u8 (x.toNat : Int)) := (h.cell j).trans hj
  unfold bv
  go_simp
theorem st_u8t {g j : Nat} {t : TypeId} {cur : Array Value} {x y : UInt8} (hj : cur[j]? = some (bv x)) (W : World) (h : Blk W g t cur) : (Instr.storeAt 5 (.pointer (some ⟨g, j, none⟩)) (bv y)).run Try.prog W = .ok () (W.setCells g j [bv y]) := by
  have hc : W.cell? ⟨g, j, none⟩ = some (bv x) := (h.cell j).trans hj
  have hf := h.frozen j
  have hs : (W.cell? ⟨g, j, none⟩).isSome = true := by rw [hc]; rfl
  show _ = Result.ok () (W.setCell ⟨g, j, none⟩ (bv y))
  unfold bv
  go_simp
theorem bvs_at {b : List UInt8} {k : Nat} (h : k < b.length) : (bvs b)[k]? = some (bv (b.getD k 0)) := by
  rw [bvs_get, List.getD_eq_getElem?_getD, List.getElem?_eq_getElem h]
  rfl
theorem xorB_set {k : Nat} {x : UInt8} {b : List UInt8} (h : k < b.length) : xorB k x b = b.set k (b.getD k 0 ^^^ x) := by
  unfold xorB
  apply List.ext_getElem?
  intro j
  rw [List.getElem?_modify, List.getElem?_set]
  by_cases e : k = j
  · subst e
    simp [List.getD_eq_getElem?_getD, List.getElem?_eq_getElem h, h]
  · simp [e]
theorem set_xor {k : Nat} {x : UInt8} {b : List UInt8} (h : k < b.length) : setV (bvs b) k [bv (b.getD k 0 ^^^ x)] = bvs (xorB k x b) := by
  rw [xorB_set h]
  show (bvs b).setIfInBounds k (bv _) = _
  exact bvs_set b k _
theorem modify_set {B : List (List UInt8)} {n : Nat} (f : List UInt8 → List UInt8) (h : n < B.length) : B.modify n f = B.set n (f (B.getD n [])) := by
  apply List.ext_getElem?
  intro j
  rw [List.getElem?_modify, List.getElem?_set]
  by_cases e : n = j
  · subst e
    simp [List.getD_eq_getElem?_getD, List.getElem?_eq_getElem h, h]
  · simp [e]
theorem edit_last (n k : Nat) (x : UInt8) (L : List (Nat × List UInt8)) (m : Nat) : lastAt (editL n k x L) m = lastAt L m := by
  induction L using snocInd with
  | h0 => rfl
  | h1 l p ih =>
    have e : editL n k x (l ++ [p]) = editL n k x l ++ [if p.1 = n then (p.1, xorB k x p.2) else p] := by
      unfold editL
      rw [List.map_append]
      rfl
    have e2 : (if p.1 = n then (p.1, xorB k x p.2) else p).1 = p.1 := by split <;> rfl
    have e3 : (editL n k x l).length = l.length := by simp [editL]
    rw [e, last_snoc, last_snoc, e2, e3, ih]
/-! The cells of a row of writes. -/
def edC (n a : Nat) (x : UInt8) (L : List (Nat × List UInt8)) (cur : Array Value) : Nat → Array Value
  | 0 => cur
  | k + 1 => if (L.getD k (0, [])).1 = n then (edC n a x L cur k).setIfInBounds (k * 513 + 1 + a) (bv ((L.getD k (0, [])).2.getD a 0 ^^^ x)) else edC n a x L cur k
section
variable {n a : Nat} {x : UInt8} {L : List (Nat × List UInt8)} {cur : Array Value}
theorem edC_succ (k : Nat) : edC n a x L cur (k + 1) = if (L.getD k (0, [])).1 = n then (edC n a x L cur k).setIfInBounds (k * 513 + 1 + a) (bv ((L.getD k (0, [])).2.getD a 0 ^^^ x)) else edC n a x L cur k := rfl
theorem edC_size (k : Nat) : (edC n a x L cur k).size = cur.size := by
  induction k with
  | zero => rfl
  | succ k ih => rw [edC_succ]; split <;> simp [ih]
theorem dwcs_app (A R : List (Nat × List UInt8)) : dwcs (A ++ R) = dwcs A ++ dwcs R := List.flatMap_append
theorem editL_take (k : Nat) {p : Nat × List UInt8} (hp : L[k]? = some p) : editL n a x (L.take (k + 1)) = editL n a x (L.take k) ++ [if p.1 = n then (p.1, xorB a x p.2) else p] := by
  rw [List.take_add_one, hp]
  unfold editL
  rw [List.map_append]
  rfl
theorem editL_512 (h : ∀ p ∈ L, p.2.length = 512) : ∀ p ∈ editL n a x L, p.2.length = 512 := fun p hp => by
  obtain ⟨q, hq, rfl⟩ := List.mem_map.1 hp
  have := h q hq
  split
  · rw [xor_len]; exact this
  · exact this
theorem edC_take (hL : ∀ p ∈ L, p.2.length = 512) (ha : a < 512) (hc : cur.toList.take (L.length * 513) = dwcs L) : ∀ k, k ≤ L.length → (edC n a x L cur k).toList.take (L.length * 513) = dwcs (editL n a x (L.take k) ++ L.drop k)
  | 0, _ => by rw [List.take_zero, List.drop_zero]; exact hc
  | k + 1, hk => by
    have hlt : k < L.length := by omega
    have hp : L[k]? = some L[k] := List.getElem?_eq_getElem hlt
    have hp5 := hL _ (List.getElem_mem hlt)
    have ih := edC_take hL ha hc k (by omega)
    have e1 : L.drop k = L[k] :: L.drop (k + 1) := List.drop_eq_getElem_cons hlt
    have e2 : L.getD k (0, []) = L[k] := get_of hp
    have hlen : (dwcs (editL n a x (L.take k))).length = k * 513 := by
      rw [dwcs_len (editL_512 fun p hp => hL p (List.mem_of_mem_take hp))]
      simp [editL, Nat.min_eq_left (show k ≤ L.length by omega)]
    rw [edC_succ, e2, editL_take k hp, List.append_assoc]
    split
    · rename_i hn
      rw [Array.toList_setIfInBounds, List.take_set, ih, e1, dwcs_app, dwcs_app]
      show (dwcs (editL n a x (L.take k)) ++ (dwv L[k] ++ dwcs (L.drop (k + 1)))).set _ _ = dwcs (editL n a x (L.take k)) ++ (dwv (L[k].1, xorB a x L[k].2) ++ dwcs (L.drop (k + 1)))
      rw [List.set_append_right _ _ (by rw [hlen]; omega), hlen, show k * 513 + 1 + a - k * 513 = a + 1 by omega, List.set_append_left _ _ (by rw [dwv_len hp5]; omega)]
      congr 2
      show Value.int .i64 _ :: (L[k].2.map bv).set a _ = Value.int .i64 _ :: (xorB a x L[k].2).map bv
      rw [xorB_set (by omega), List.map_set]
    · rw [ih, e1]
      rfl
theorem edC_at (hL : ∀ p ∈ L, p.2.length = 512) (ha : a < 512) (hc : cur.toList.take (L.length * 513) = dwcs L) {k : Nat} {p : Nat × List UInt8} (hp : L[k]? = some p) {j : Nat} {u : Value} (hu : (dwv p)[j]? = some u) : (edC n a x L cur k)[k * 513 + j]? = some u := by
  have hlt : k < L.length := (List.getElem?_eq_some_iff.1 hp).1
  have h1 : (editL n a x (L.take k) ++ L.drop k)[k]? = some p := by
    have e : (editL n a x (L.take k)).length = k := by simp [editL, Nat.min_eq_left (Nat.le_of_lt hlt)]
    rw [List.getElem?_append_right (by omega), e, Nat.sub_self, List.getElem?_drop]
    exact hp
  have h2 := dwcs_at (fun q hq => by
    rcases List.mem_append.1 hq with hq | hq
    · exact editL_512 (fun p hp => hL p (List.mem_of_mem_take hp)) q hq
    · exact hL q (List.mem_of_mem_drop hq)) h1 hu
  rw [← edC_take hL ha hc k (by omega), List.getElem?_take] at h2
  split at h2
  · rw [← Array.getElem?_toList]; exact h2
  · cases h2
theorem edC_num (hL : ∀ p ∈ L, p.2.length = 512) (ha : a < 512) (hc : cur.toList.take (L.length * 513) = dwcs L) {k : Nat} {p : Nat × List UInt8} (hp : L[k]? = some p) : (edC n a x L cur k)[0 + k * 513]? = some (.int .i64 ((p.1 : Nat) : Int)) := by
  rw [Nat.zero_add]
  exact edC_at hL ha hc hp (dwv_num p)
theorem edC_byte (hL : ∀ p ∈ L, p.2.length = 512) (ha : a < 512) (hc : cur.toList.take (L.length * 513) = dwcs L) {k : Nat} {p : Nat × List UInt8} (hp : L[k]? = some p) : (edC n a x L cur k)[0 + k * 513 + 1 + a]? = some (bv (p.2.getD a 0)) := by
  have h5 := hL p (List.mem_iff_getElem?.2 ⟨k, hp⟩)
  rw [Nat.zero_add, Nat.add_assoc]
  refine edC_at hL ha hc hp (dwv_byte ?_)
  rw [List.getD_eq_getElem?_getD, List.getElem?_eq_getElem (by omega)]
  rfl
theorem edC_yes {k : Nat} {p : Nat × List UInt8} (hp : L[k]? = some p) (hn : p.1 = n) : setV (edC n a x L cur k) (0 + k * 513 + 1 + a) [bv (p.2.getD a 0 ^^^ x)] = edC n a x L cur (k + 1) := by
  rw [edC_succ, get_of hp, if_pos hn, Nat.zero_add]
  rfl
theorem edC_no {k : Nat} {p : Nat × List UInt8} (hp : L[k]? = some p) (hn : ¬ p.1 = n) : edC n a x L cur (k + 1) = edC n a x L cur k := by
  rw [edC_succ, get_of hp, if_neg hn]
end
theorem ld_numC {g j : Nat} {t : TypeId} {cur : Array Value} {x : Int} (hj : cur[j]? = some (.int .i64 x)) (W : World) (h : Blk W g t cur) : (Instr.loadAt 3 (.pointer (some ⟨g, j, none⟩))).run Try.prog W = .ok (.int .i64 x) W := by
  have hc : W.cell? ⟨g, j, none⟩ = some (.int .i64 x) := (h.cell j).trans hj
  go_simp
attribute [local irreducible] bvs dwa entsI zeroB lastsB stepP lastN xorB bv
theorem dEdit_yes {D : Dk} {n k : Nat} {x : UInt8} (hn : n < D.B.length) (hk : k < 512) : dEdit D ((n : Nat) : Int) ((k : Nat) : Int) x = (Dk.mk (D.B.modify n (xorB k x)) (editL n k x D.L) D.fuse D.dead, 0) := by
  unfold dEdit
  rw [if_pos ⟨⟨by omega, by omega⟩, by omega, by omega⟩]
  rfl
set_option maxHeartbeats 4000000 in
theorem edit_no1 {X : DX} {p : Nat} {D : Dk} {hh : Hep} (n k_ : Int) (x : UInt8) (hno : decide (0 ≤ n ∧ n < ((D.B.length : Nat) : Int)) = false) (hX : X.ok D) (w0 w : World) (K : Kn w0 w (X.rows p D ++ hh)) : Calls Try.prog 30 #[.pointer (some ⟨p, 0, none⟩), .int .i64 n, .int .i64 k_, bv x] w (fun rr w' => rr = .returned (.int .i64 2) ∧ Kn w0 w' (X.rows p D ++ hh)) := by
  have hnb := hX.nb
  have hlf := hX.lf
  have hnl := hX.nl
  refine calls_kn (vs := [.pointer (some ⟨p, 0, none⟩), .int .i64 n, .int .i64 k_, bv x]) 77 Try.func30 rfl Try.ntmps30 rfl K (fun a W H => ?_)
  replace H : St 77 w0 a W [(0, .pointer (some ⟨p, 0, none⟩)), (1, .int .i64 n), (2, .int .i64 k_), (3, bv x)] ((p, 58, (dkC ((D.B.length : Nat) : Int) (.map (some X.m)) (.slice X.A D.L.length X.cap) (.map (some X.q)) (decide (0 ≤ D.fuse)) X.lf D.dead)) :: (X.m, .map (entsI X.es) X.c, #[]) :: (X.q, .map (entsI X.ls) X.cq, #[]) :: (X.t ++ hh)) := H
  refine sqR H gs0 fun Z_ z_ => rS 1 rfl <| rN0 z_ ?_
  try clear H a W
  intro a W H
  refine wp_seq_k (fun K2 hK2 => ?_)
  refine wp_seq_k (fun K3 hK3 => ?_)
  refine rgP H gs0 (rS 1 rfl <| rI0 ?_)
  try clear H a W
  intro a W H
  refine pl_callV rfl rfl ⟨_, Try.func40, by kernel_rfl⟩ rfl (fun K_ => isNone_live (hh := ([(X.m, .map (entsI X.es) X.c, #[]), (X.q, .map (entsI X.ls) X.cq, #[])] ++ (X.t ++ hh))) (by omega) w0 _ K_) H ?_
  try clear H a W
  intro a W H
  replace H : St 77 w0 a W [(12, .bool false), (11, .pointer (some ⟨p, 0, none⟩)), (8, .int .i64 0), (0, .pointer (some ⟨p, 0, none⟩)), (1, .int .i64 n), (2, .int .i64 k_), (3, bv x)] ((p, 58, (dkC ((D.B.length : Nat) : Int) (.map (some X.m)) (.slice X.A D.L.length X.cap) (.map (some X.q)) (decide (0 ≤ D.fuse)) X.lf D.dead)) :: (X.m, .map (entsI X.es) X.c, #[]) :: (X.q, .map (entsI X.ls) X.cq, #[]) :: (X.t ++ hh)) := H
  refine rgO H gs0 (rK [1, 0] [] [] <| rZ0 ?_)
  try clear H a W
  intro a W H
  refine hK3 _ _ ?_
  clear hK3
  refine wp_cond_false (H.ev rfl) ?_
  refine wp_skip ?_
  refine hK2 _ _ ?_
  clear hK2
  refine wp_seq_k (fun K4 hK4 => ?_)
  refine wp_seq_k (fun K5 hK5 => ?_)
  refine rgP H gs0 (rS 2 rfl <| rI0 ?_)
  try clear H a W
  intro a W H
  refine pl_callV rfl rfl ⟨_, Try.func41, by kernel_rfl⟩ rfl (fun K_ => by have h_ := has_p (hh := ([(X.m, .map (entsI X.es) X.c, #[]), (X.q, .map (entsI X.ls) X.cq, #[])] ++ (X.t ++ hh))) n w0 _ K_; rw [hno] at h_; exact h_) H ?_
  try clear H a W
  intro a W H
  replace H : St 77 w0 a W [(15, .bool false), (14, .int .i64 n), (13, .pointer (some ⟨p, 0, none⟩)), (12, .bool false), (8, .int .i64 0), (0, .pointer (some ⟨p, 0, none⟩)), (1, .int .i64 n), (2, .int .i64 k_), (3, bv x)] ((p, 58, (dkC ((D.B.length : Nat) : Int) (.map (some X.m)) (.slice X.A D.L.length X.cap) (.map (some X.q)) (decide (0 ≤ D.fuse)) X.lf D.dead)) :: (X.m, .map (entsI X.es) X.c, #[]) :: (X.q, .map (entsI X.ls) X.cq, #[]) :: (X.t ++ hh)) := H
  refine rgO H gs0 (rS 9 rfl <| rK [1, 0, 0, 0, 0, 0, 0, 0, 0, 0, 0, 0, 0] [] [] <| rZ0 ?_)
  try clear H a W
  intro a W H
  refine hK5 _ _ ?_
  clear hK5
  refine wp_cond_true (H.ev rfl) ?_
  refine sqR H gs0 fun Z_ z_ => rK [1, 0] [] [] <| rS 1 rfl <| rK [1, 0] [] [] <| rN0 z_ ?_
  try clear H a W
  intro a W H
  refine wp_ret ?_
  repeat (first | (with_reducible refine then_ret ?_) | (with_reducible refine blk_ret ?_))
  refine end_tmp (p := 8) rfl rfl H (fun hb => ?_)
  refine ⟨rfl, ?_⟩
  show Kn w0 W ((p, .ty 58, (dkC ((D.B.length : Nat) : Int) (.map (some X.m)) (.slice X.A D.L.length X.cap) (.map (some X.q)) (decide (0 ≤ D.fuse)) X.lf D.dead)) :: (X.m, .map (entsI X.es) X.c, #[]) :: (X.q, .map (entsI X.ls) X.cq, #[]) :: (X.t ++ hh))
  have H_ := H.pickF (h := [(p, .ty 58, (dkC ((D.B.length : Nat) : Int) (.map (some X.m)) (.slice X.A D.L.length X.cap) (.map (some X.q)) (decide (0 ≤ D.fuse)) X.lf D.dead)), (X.m, .map (entsI X.es) X.c, #[]), (X.q, .map (entsI X.ls) X.cq, #[])]) (t := (X.t ++ hh)) [] [0, 1, 2] rfl
  exact H_.kn
set_option maxHeartbeats 4000000 in
theorem edit_no2 {X : DX} {p : Nat} {D : Dk} {hh : Hep} (n k_ : Int) (x : UInt8) (hh1 : decide (0 ≤ n ∧ n < ((D.B.length : Nat) : Int)) = true) (hno : decide (k_ < 0) = true) (hX : X.ok D) (w0 w : World) (K : Kn w0 w (X.rows p D ++ hh)) : Calls Try.prog 30 #[.pointer (some ⟨p, 0, none⟩), .int .i64 n, .int .i64 k_, bv x] w (fun rr w' => rr = .returned (.int .i64 2) ∧ Kn w0 w' (X.rows p D ++ hh)) := by
  have hnb := hX.nb
  have hlf := hX.lf
  have hnl := hX.nl
  refine calls_kn (vs := [.pointer (some ⟨p, 0, none⟩), .int .i64 n, .int .i64 k_, bv x]) 77 Try.func30 rfl Try.ntmps30 rfl K (fun a W H => ?_)
  replace H : St 77 w0 a W [(0, .pointer (some ⟨p, 0, none⟩)), (1, .int .i64 n), (2, .int .i64 k_), (3, bv x)] ((p, 58, (dkC ((D.B.length : Nat) : Int) (.map (some X.m)) (.slice X.A D.L.length X.cap) (.map (some X.q)) (decide (0 ≤ D.fuse)) X.lf D.dead)) :: (X.m, .map (entsI X.es) X.c, #[]) :: (X.q, .map (entsI X.ls) X.cq, #[]) :: (X.t ++ hh)) := H
  refine sqR H gs0 fun Z_ z_ => rS 1 rfl <| rN0 z_ ?_
  try clear H a W
  intro a W H
  refine wp_seq_k (fun K2 hK2 => ?_)
  refine wp_seq_k (fun K3 hK3 => ?_)
  refine rgP H gs0 (rS 1 rfl <| rI0 ?_)
  try clear H a W
  intro a W H
  refine pl_callV rfl rfl ⟨_, Try.func40, by kernel_rfl⟩ rfl (fun K_ => isNone_live (hh := ([(X.m, .map (entsI X.es) X.c, #[]), (X.q, .map (entsI X.ls) X.cq, #[])] ++ (X.t ++ hh))) (by omega) w0 _ K_) H ?_
  try clear H a W
  intro a W H
  replace H : St 77 w0 a W [(12, .bool false), (11, .pointer (some ⟨p, 0, none⟩)), (8, .int .i64 0), (0, .pointer (some ⟨p, 0, none⟩)), (1, .int .i64 n), (2, .int .i64 k_), (3, bv x)] ((p, 58, (dkC ((D.B.length : Nat) : Int) (.map (some X.m)) (.slice X.A D.L.length X.cap) (.map (some X.q)) (decide (0 ≤ D.fuse)) X.lf D.dead)) :: (X.m, .map (entsI X.es) X.c, #[]) :: (X.q, .map (entsI X.ls) X.cq, #[]) :: (X.t ++ hh)) := H
  refine rgO H gs0 (rK [1, 0] [] [] <| rZ0 ?_)
  try clear H a W
  intro a W H
  refine hK3 _ _ ?_
  clear hK3
  refine wp_cond_false (H.ev rfl) ?_
  refine wp_skip ?_
  refine hK2 _ _ ?_
  clear hK2
  refine wp_seq_k (fun K4 hK4 => ?_)
  refine wp_seq_k (fun K5 hK5 => ?_)
  refine rgP H gs0 (rS 2 rfl <| rI0 ?_)
  try clear H a W
  intro a W H
  refine pl_callV rfl rfl ⟨_, Try.func41, by kernel_rfl⟩ rfl (fun K_ => by have h_ := has_p (hh := ([(X.m, .map (entsI X.es) X.c, #[]), (X.q, .map (entsI X.ls) X.cq, #[])] ++ (X.t ++ hh))) n w0 _ K_; rw [hh1] at h_; exact h_) H ?_
  try clear H a W
  intro a W H
  replace H : St 77 w0 a W [(15, .bool true), (14, .int .i64 n), (13, .pointer (some ⟨p, 0, none⟩)), (12, .bool false), (8, .int .i64 0), (0, .pointer (some ⟨p, 0, none⟩)), (1, .int .i64 n), (2, .int .i64 k_), (3, bv x)] ((p, 58, (dkC ((D.B.length : Nat) : Int) (.map (some X.m)) (.slice X.A D.L.length X.cap) (.map (some X.q)) (decide (0 ≤ D.fuse)) X.lf D.dead)) :: (X.m, .map (entsI X.es) X.c, #[]) :: (X.q, .map (entsI X.ls) X.cq, #[]) :: (X.t ++ hh)) := H
  refine rgO H gs0 (rS 3 rfl <| rV rfl (does_binOp rfl rfl rfl (zd_lss_int (k := k_) (m := 0) hno _ _)) <| rS 5 rfl <| rK [1, 0, 0, 0, 0, 0, 0, 0, 0, 0, 0, 0, 0] [] [] <| rZ0 ?_)
  try clear H a W
  intro a W H
  refine hK5 _ _ ?_
  clear hK5
  refine wp_cond_true (H.ev rfl) ?_
  refine sqR H gs0 fun Z_ z_ => rK [1, 0] [] [] <| rS 1 rfl <| rK [1, 0] [] [] <| rN0 z_ ?_
  try clear H a W
  intro a W H
  refine wp_ret ?_
  repeat (first | (with_reducible refine then_ret ?_) | (with_reducible refine blk_ret ?_))
  refine end_tmp (p := 8) rfl rfl H (fun hb => ?_)
  refine ⟨rfl, ?_⟩
  show Kn w0 W ((p, .ty 58, (dkC ((D.B.length : Nat) : Int) (.map (some X.m)) (.slice X.A D.L.length X.cap) (.map (some X.q)) (decide (0 ≤ D.fuse)) X.lf D.dead)) :: (X.m, .map (entsI X.es) X.c, #[]) :: (X.q, .map (entsI X.ls) X.cq, #[]) :: (X.t ++ hh))
  have H_ := H.pickF (h := [(p, .ty 58, (dkC ((D.B.length : Nat) : Int) (.map (some X.m)) (.slice X.A D.L.length X.cap) (.map (some X.q)) (decide (0 ≤ D.fuse)) X.lf D.dead)), (X.m, .map (entsI X.es) X.c, #[]), (X.q, .map (entsI X.ls) X.cq, #[])]) (t := (X.t ++ hh)) [] [0, 1, 2] rfl
  exact H_.kn
set_option maxHeartbeats 4000000 in
theorem edit_no3 {X : DX} {p : Nat} {D : Dk} {hh : Hep} (n k_ : Int) (x : UInt8) (hh1 : decide (0 ≤ n ∧ n < ((D.B.length : Nat) : Int)) = true) (hh2 : decide (k_ < 0) = false) (hno : decide (512 ≤ k_) = true) (hX : X.ok D) (w0 w : World) (K : Kn w0 w (X.rows p D ++ hh)) : Calls Try.prog 30 #[.pointer (some ⟨p, 0, none⟩), .int .i64 n, .int .i64 k_, bv x] w (fun rr w' => rr = .returned (.int .i64 2) ∧ Kn w0 w' (X.rows p D ++ hh)) := by
  have hnb := hX.nb
  have hlf := hX.lf
  have hnl := hX.nl
  refine calls_kn (vs := [.pointer (some ⟨p, 0, none⟩), .int .i64 n, .int .i64 k_, bv x]) 77 Try.func30 rfl Try.ntmps30 rfl K (fun a W H => ?_)
  replace H : St 77 w0 a W [(0, .pointer (some ⟨p, 0, none⟩)), (1, .int .i64 n), (2, .int .i64 k_), (3, bv x)] ((p, 58, (dkC ((D.B.length : Nat) : Int) (.map (some X.m)) (.slice X.A D.L.length X.cap) (.map (some X.q)) (decide (0 ≤ D.fuse)) X.lf D.dead)) :: (X.m, .map (entsI X.es) X.c, #[]) :: (X.q, .map (entsI X.ls) X.cq, #[]) :: (X.t ++ hh)) := H
  refine sqR H gs0 fun Z_ z_ => rS 1 rfl <| rN0 z_ ?_
  try clear H a W
  intro a W H
  refine wp_seq_k (fun K2 hK2 => ?_)
  refine wp_seq_k (fun K3 hK3 => ?_)
  refine rgP H gs0 (rS 1 rfl <| rI0 ?_)
  try clear H a W
  intro a W H
  refine pl_callV rfl rfl ⟨_, Try.func40, by kernel_rfl⟩ rfl (fun K_ => isNone_live (hh := ([(X.m, .map (entsI X.es) X.c, #[]), (X.q, .map (entsI X.ls) X.cq, #[])] ++ (X.t ++ hh))) (by omega) w0 _ K_) H ?_
  try clear H a W
  intro a W H
  replace H : St 77 w0 a W [(12, .bool false), (11, .pointer (some ⟨p, 0, none⟩)), (8, .int .i64 0), (0, .pointer (some ⟨p, 0, none⟩)), (1, .int .i64 n), (2, .int .i64 k_), (3, bv x)] ((p, 58, (dkC ((D.B.length : Nat) : Int) (.map (some X.m)) (.slice X.A D.L.length X.cap) (.map (some X.q)) (decide (0 ≤ D.fuse)) X.lf D.dead)) :: (X.m, .map (entsI X.es) X.c, #[]) :: (X.q, .map (entsI X.ls) X.cq, #[]) :: (X.t ++ hh)) := H
  refine rgO H gs0 (rK [1, 0] [] [] <| rZ0 ?_)
  try clear H a W
  intro a W H
  refine hK3 _ _ ?_
  clear hK3
  refine wp_cond_false (H.ev rfl) ?_
  refine wp_skip ?_
  refine hK2 _ _ ?_
  clear hK2
  refine wp_seq_k (fun K4 hK4 => ?_)
  refine wp_seq_k (fun K5 hK5 => ?_)
  refine rgP H gs0 (rS 2 rfl <| rI0 ?_)
  try clear H a W
  intro a W H
  refine pl_callV rfl rfl ⟨_, Try.func41, by kernel_rfl⟩ rfl (fun K_ => by have h_ := has_p (hh := ([(X.m, .map (entsI X.es) X.c, #[]), (X.q, .map (entsI X.ls) X.cq, #[])] ++ (X.t ++ hh))) n w0 _ K_; rw [hh1] at h_; exact h_) H ?_
  try clear H a W
  intro a W H
  replace H : St 77 w0 a W [(15, .bool true), (14, .int .i64 n), (13, .pointer (some ⟨p, 0, none⟩)), (12, .bool false), (8, .int .i64 0), (0, .pointer (some ⟨p, 0, none⟩)), (1, .int .i64 n), (2, .int .i64 k_), (3, bv x)] ((p, 58, (dkC ((D.B.length : Nat) : Int) (.map (some X.m)) (.slice X.A D.L.length X.cap) (.map (some X.q)) (decide (0 ≤ D.fuse)) X.lf D.dead)) :: (X.m, .map (entsI X.es) X.c, #[]) :: (X.q, .map (entsI X.ls) X.cq, #[]) :: (X.t ++ hh)) := H
  refine rgO H gs0 (rS 3 rfl <| rV rfl (does_binOp rfl rfl rfl (zd_lss_int (k := k_) (m := 0) hh2 _ _)) <| rS 3 rfl <| rV rfl (does_binOp rfl rfl rfl (zd_geq_int (k := k_) (m := 512) hno _ _)) <| rS 1 rfl <| rK [1, 0, 0, 0, 0, 0, 0, 0, 0, 0, 0, 0, 0] [] [] <| rZ0 ?_)
  try clear H a W
  intro a W H
  refine hK5 _ _ ?_
  clear hK5
  refine wp_cond_true (H.ev rfl) ?_
  refine sqR H gs0 fun Z_ z_ => rK [1, 0] [] [] <| rS 1 rfl <| rK [1, 0] [] [] <| rN0 z_ ?_
  try clear H a W
  intro a W H
  refine wp_ret ?_
  repeat (first | (with_reducible refine then_ret ?_) | (with_reducible refine blk_ret ?_))
  refine end_tmp (p := 8) rfl rfl H (fun hb => ?_)
  refine ⟨rfl, ?_⟩
  show Kn w0 W ((p, .ty 58, (dkC ((D.B.length : Nat) : Int) (.map (some X.m)) (.slice X.A D.L.length X.cap) (.map (some X.q)) (decide (0 ≤ D.fuse)) X.lf D.dead)) :: (X.m, .map (entsI X.es) X.c, #[]) :: (X.q, .map (entsI X.ls) X.cq, #[]) :: (X.t ++ hh))
  have H_ := H.pickF (h := [(p, .ty 58, (dkC ((D.B.length : Nat) : Int) (.map (some X.m)) (.slice X.A D.L.length X.cap) (.map (some X.q)) (decide (0 ≤ D.fuse)) X.lf D.dead)), (X.m, .map (entsI X.es) X.c, #[]), (X.q, .map (entsI X.ls) X.cq, #[])]) (t := (X.t ++ hh)) [] [0, 1, 2] rfl
  exact H_.kn
set_option maxHeartbeats 4000000 in
theorem edit_nil {X : DX} {p : Nat} {D : Dk} {hh : Hep} (n k_ : Nat) (x : UInt8) (hn : n < D.B.length) (hk_ : k_ < 512) (ht0 : X.t = []) (hl0 : D.L.length = 0) (hX : X.ok D) (w0 w : World) (K : Kn w0 w (X.rows p D ++ hh)) : Calls Try.prog 30 #[.pointer (some ⟨p, 0, none⟩), .int .i64 ((n : Nat) : Int), .int .i64 ((k_ : Nat) : Int), bv x] w (fun rr w' => ∃ r', rr = .returned (.int .i64 0) ∧ PO p (Dk.mk (D.B.modify n (xorB k_ x)) (editL n k_ x D.L) D.fuse D.dead) r' ∧ Kn w0 w' (r' ++ hh)) := by
  have hnb := hX.nb
  have hlf := hX.lf
  have hnl := hX.nl
  have hhas : decide (0 ≤ ((n : Nat) : Int) ∧ ((n : Nat) : Int) < ((D.B.length : Nat) : Int)) = true := decide_eq_true (by omega)
  have hl_o := hX.b512 hn
  have hl_x : (xorB k_ x (D.B.getD n [])).length = 512 := by rw [xor_len]; exact hl_o
  unfold DX.rows at K
  rw [ht0] at K
  refine calls_kn (vs := [.pointer (some ⟨p, 0, none⟩), .int .i64 ((n : Nat) : Int), .int .i64 ((k_ : Nat) : Int), bv x]) 77 Try.func30 rfl Try.ntmps30 rfl K (fun a W H => ?_)
  replace H : St 77 w0 a W [(0, .pointer (some ⟨p, 0, none⟩)), (1, .int .i64 ((n : Nat) : Int)), (2, .int .i64 ((k_ : Nat) : Int)), (3, bv x)] ((p, 58, (dkC ((D.B.length : Nat) : Int) (.map (some X.m)) (.slice X.A D.L.length X.cap) (.map (some X.q)) (decide (0 ≤ D.fuse)) X.lf D.dead)) :: (X.m, .map (entsI X.es) X.c, #[]) :: (X.q, .map (entsI X.ls) X.cq, #[]) :: hh) := H
  refine sqR H gs0 fun Z_ z_ => rS 1 rfl <| rN0 z_ ?_
  try clear H a W
  intro a W H
  refine wp_seq_k (fun K2 hK2 => ?_)
  refine wp_seq_k (fun K3 hK3 => ?_)
  refine rgP H gs0 (rS 1 rfl <| rI0 ?_)
  try clear H a W
  intro a W H
  refine pl_callV rfl rfl ⟨_, Try.func40, by kernel_rfl⟩ rfl (fun K_ => isNone_live (hh := ([(X.m, .map (entsI X.es) X.c, #[]), (X.q, .map (entsI X.ls) X.cq, #[])] ++ hh)) (by omega) w0 _ K_) H ?_
  try clear H a W
  intro a W H
  replace H : St 77 w0 a W [(12, .bool false), (11, .pointer (some ⟨p, 0, none⟩)), (8, .int .i64 0), (0, .pointer (some ⟨p, 0, none⟩)), (1, .int .i64 ((n : Nat) : Int)), (2, .int .i64 ((k_ : Nat) : Int)), (3, bv x)] ((p, 58, (dkC ((D.B.length : Nat) : Int) (.map (some X.m)) (.slice X.A D.L.length X.cap) (.map (some X.q)) (decide (0 ≤ D.fuse)) X.lf D.dead)) :: (X.m, .map (entsI X.es) X.c, #[]) :: (X.q, .map (entsI X.ls) X.cq, #[]) :: hh) := H
  refine rgO H gs0 (rK [1, 0] [] [] <| rZ0 ?_)
  try clear H a W
  intro a W H
  refine hK3 _ _ ?_
  clear hK3
  refine wp_cond_false (H.ev rfl) ?_
  refine wp_skip ?_
  refine hK2 _ _ ?_
  clear hK2
  refine wp_seq_k (fun K4 hK4 => ?_)
  refine wp_seq_k (fun K5 hK5 => ?_)
  refine rgP H gs0 (rS 2 rfl <| rI0 ?_)
  try clear H a W
  intro a W H
  refine pl_callV rfl rfl ⟨_, Try.func41, by kernel_rfl⟩ rfl (fun K_ => by have h_ := has_p (hh := ([(X.m, .map (entsI X.es) X.c, #[]), (X.q, .map (entsI X.ls) X.cq, #[])] ++ hh)) ((n : Nat) : Int) w0 _ K_; rw [hhas] at h_; exact h_) H ?_
  try clear H a W
  intro a W H
  replace H : St 77 w0 a W [(15, .bool true), (14, .int .i64 ((n : Nat) : Int)), (13, .pointer (some ⟨p, 0, none⟩)), (12, .bool false), (8, .int .i64 0), (0, .pointer (some ⟨p, 0, none⟩)), (1, .int .i64 ((n : Nat) : Int)), (2, .int .i64 ((k_ : Nat) : Int)), (3, bv x)] ((p, 58, (dkC ((D.B.length : Nat) : Int) (.map (some X.m)) (.slice X.A D.L.length X.cap) (.map (some X.q)) (decide (0 ≤ D.fuse)) X.lf D.dead)) :: (X.m, .map (entsI X.es) X.c, #[]) :: (X.q, .map (entsI X.ls) X.cq, #[]) :: hh) := H
  refine rgO H gs0 (rS 3 rfl <| rV rfl (does_binOp rfl rfl rfl (zd_lss_int (k := ((k_ : Nat) : Int)) (m := 0) (decide_eq_false (by omega)) _ _)) <| rS 3 rfl <| rV rfl (does_binOp rfl rfl rfl (zd_geq_int (k := ((k_ : Nat) : Int)) (m := 512) (decide_eq_false (by omega)) _ _)) <| rS 1 rfl <| rK [1, 0, 0, 0, 0, 0, 0, 0, 0, 0, 0, 0, 0] [] [] <| rZ0 ?_)
  try clear H a W
  intro a W H
  refine hK5 _ _ ?_
  clear hK5
  refine wp_cond_false (H.ev rfl) ?_
  refine wp_skip ?_
  refine hK4 _ _ ?_
  clear hK4
  refine sqR H gs0 fun Z_ z_ => rS 1 rfl <| rV rfl (does_nilCheckQ rfl rfl) <| rV rfl (does_fieldAddr rfl rfl (fa_dk 1 (by decide))) <| rV rfl (does_loadAt (v := .map (some X.m)) rfl rfl (k := 0) rfl ld_dk1) <| rS 1 rfl <| rV rfl (does_lookV (k := 1) (v := .agg (bvs (D.B.getD n []))) rfl rfl rfl rfl Try.underlying54 Try.underlying3 zero_block (hX.sb n hn)) <| rA rfl rfl al_block fun g1 => rW [1] ⟨rfl, rfl⟩ rfl rfl rfl (info_block hl_o) (size_block zero_len hl_o) (bvs_oneP _) <| rK [1, 0, 0, 0, 0, 0, 0, 0] [] [] <| rN0 z_ ?_
  try clear H a W
  intro a W H
  refine sqR H gs0 fun Z_ z_ => rS 1 rfl <| rV rfl (does_indexAddr rfl rfl rfl (by have h_ := @ia_block g1 0 k_ (by omega); rwa [Nat.zero_add] at h_)) <| rV rfl (does_loadAt (v := bv ((D.B.getD n []).getD k_ 0)) rfl rfl (k := 0) rfl (ld_u8t (bvs_at (by rw [hl_o]; omega)))) <| rS 1 rfl <| rV rfl (does_binOp rfl rfl rfl (b_xorP _ _ _ _)) <| rV rfl (does_indexAddr rfl rfl rfl (by have h_ := @ia_block g1 0 k_ (by omega); rwa [Nat.zero_add] at h_)) <| rX [1] (c := bvs (xorB k_ x (D.B.getD n []))) ⟨rfl, rfl⟩ rfl rfl rfl (st_u8t (bvs_at (by rw [hl_o]; omega))) (set_xor (by rw [hl_o]; omega)) <| rK [0, 0, 0, 0, 0, 0] [] [] <| rN0 z_ ?_
  try clear H a W
  intro a W H
  refine wp_seq_k (fun K8 hK8 => ?_)
  refine d2 [.v 37 _ [], .v 38 _ [0], .v 39 _ [1], .v 40 _ [2], .v 41 _ [], .v 42 _ []] (by kernel_rfl) (by kernel_rfl) H gs0 ⟨oS rfl rfl, oV rfl (does_nilCheckQ rfl rfl), oV rfl (does_fieldAddr rfl rfl (fa_dk 1 (by decide))), oV rfl (does_loadAt (v := .map (some X.m)) rfl rfl (k := 1) rfl ld_dk1), oS rfl rfl, oV rfl (does_load rfl rfl (k := 0) rfl Try.underlying77 rfl (info_block hl_x)), trivial⟩ (rI0 ?_)
  try clear H a W
  intro a W H
  refine pl_setI (k := 2) rfl rfl rfl rfl rfl Try.underlying54 Try.underlying3 rfl rfl H ?_
  try clear H a W
  intro a W H
  replace H : St 77 w0 a W [(42, .agg (bvs (xorB k_ x (D.B.getD n [])))), (41, .int .i64 ((n : Nat) : Int)), (40, .map (some X.m)), (39, .pointer (some ⟨p, 1, none⟩)), (38, .pointer (some ⟨p, 0, none⟩)), (37, .pointer (some ⟨p, 0, none⟩)), (9, .pointer (some ⟨g1, 0, none⟩)), (8, .int .i64 0), (0, .pointer (some ⟨p, 0, none⟩)), (1, .int .i64 ((n : Nat) : Int)), (2, .int .i64 ((k_ : Nat) : Int)), (3, bv x)] ((g1, 77, bvs (xorB k_ x (D.B.getD n []))) :: (p, 58, (dkC ((D.B.length : Nat) : Int) (.map (some X.m)) (.slice X.A D.L.length X.cap) (.map (some X.q)) (decide (0 ≤ D.fuse)) X.lf D.dead)) :: (X.m, .map (entsI (setI ((n : Nat) : Int) (.agg (bvs (xorB k_ x (D.B.getD n [])))) X.c X.es)) (clockI X.es ((n : Nat) : Int) X.c), #[]) :: (X.q, .map (entsI X.ls) X.cq, #[]) :: hh) := H
  refine rgO H gs0 (rK [0, 0, 0, 0, 0, 0, 0] [0] [] <| rZ0 ?_)
  try clear H a W
  intro a W H
  refine hK8 _ _ ?_
  clear hK8
  refine wp_seq_k (fun K9 hK9 => ?_)
  refine sqR H gs0 fun Z_ z_ => rS 1 rfl <| rV rfl (does_nilCheckQ rfl rfl) <| rV rfl (does_fieldAddr rfl rfl (fa_dk 2 (by decide))) <| rV rfl (does_loadAt (v := .slice X.A D.L.length X.cap) rfl rfl (k := 0) rfl ld_dk2) <| rV rfl (does_len Try.underlying55 rfl rfl) <| rS 1 rfl <| rK [1, 1, 0, 0, 0, 0] [] [] <| rN0 z_ ?_
  try clear H a W
  intro a W H
  refine wp_block ?_
  replace H : St 77 w0 a W [(48, .int .i64 ((0 : Nat) : Int)), (47, .int .i64 ((D.L.length : Nat) : Int)), (8, .int .i64 0), (0, .pointer (some ⟨p, 0, none⟩)), (1, .int .i64 ((n : Nat) : Int)), (2, .int .i64 ((k_ : Nat) : Int)), (3, bv x)] ((p, 58, (dkC ((D.B.length : Nat) : Int) (.map (some X.m)) (.slice X.A D.L.length X.cap) (.map (some X.q)) (decide (0 ≤ D.fuse)) X.lf D.dead)) :: (X.m, .map (entsI (setI ((n : Nat) : Int) (.agg (bvs (xorB k_ x (D.B.getD n [])))) X.c X.es)) (clockI X.es ((n : Nat) : Int) X.c), #[]) :: (X.q, .map (entsI X.ls) X.cq, #[]) :: hh) := H.pickF (h := [(p, 58, (dkC ((D.B.length : Nat) : Int) (.map (some X.m)) (.slice X.A D.L.length X.cap) (.map (some X.q)) (decide (0 ≤ D.fuse)) X.lf D.dead)), (X.m, .map (entsI (setI ((n : Nat) : Int) (.agg (bvs (xorB k_ x (D.B.getD n [])))) X.c X.es)) (clockI X.es ((n : Nat) : Int) X.c), #[]), (X.q, .map (entsI X.ls) X.cq, #[])]) (t := hh) [0, 1, 2, 3, 4, 5, 6] [0, 1, 2] rfl
  refine wp_rounds 0 (fun k a W => St 77 w0 a W [(48, .int .i64 ((k : Nat) : Int)), (47, .int .i64 ((D.L.length : Nat) : Int)), (8, .int .i64 0), (0, .pointer (some ⟨p, 0, none⟩)), (1, .int .i64 ((n : Nat) : Int)), (2, .int .i64 ((k_ : Nat) : Int)), (3, bv x)] ((p, 58, (dkC ((D.B.length : Nat) : Int) (.map (some X.m)) (.slice X.A D.L.length X.cap) (.map (some X.q)) (decide (0 ≤ D.fuse)) X.lf D.dead)) :: (X.m, .map (entsI (setI ((n : Nat) : Int) (.agg (bvs (xorB k_ x (D.B.getD n [])))) X.c X.es)) (clockI X.es ((n : Nat) : Int) X.c), #[]) :: (X.q, .map (entsI X.ls) X.cq, #[]) :: hh)) (k0 := 0) H (by omega) ?_
  try clear H a W
  intro k a W hk H
  obtain rfl : k = 0 := by omega
  refine sqR H gs0 fun Z_ z_ => rV rfl (does_binOp rfl rfl rfl (zd_lss_int (k := ((0 : Nat) : Int)) (m := ((D.L.length : Nat) : Int)) (decide_eq_false (by omega)) _ _)) <| rK [1, 1, 0] [] [] <| rN0 z_ ?_
  try clear H a W
  intro a W H
  refine wp_seq_k (fun K12 hK12 => ?_)
  refine wp_cond_false (H.ev rfl) ?_
  refine wp_exit ?_
  repeat (first | (with_reducible refine then_exit ?_) | (with_reducible refine blk_pass (by decide) ?_))
  refine blk_exit ?_
  refine hK9 _ _ ?_
  clear hK9
  refine sqR H gs0 fun Z_ z_ => rK [1, 1, 0] [] [] <| rS 1 rfl <| rK [1, 0, 0, 0, 0, 0, 0] [] [] <| rN0 z_ ?_
  try clear H a W
  intro a W H
  refine wp_ret ?_
  repeat (first | (with_reducible refine then_ret ?_) | (with_reducible refine blk_ret ?_))
  refine end_tmp (p := 8) rfl rfl H (fun hb => ?_)
  have hsb : SBk (setI ((n : Nat) : Int) (.agg (bvs (xorB k_ x (D.B.getD n [])))) X.c X.es) (D.B.modify n (xorB k_ x)) := by rw [modify_set _ hn]; exact hX.sb.set hn _ _
  have hlt : LTk X.ls (D.B.modify n (xorB k_ x)).length (editL n k_ x D.L) := fun m hm => by rw [edit_last]; rw [List.length_modify] at hm; exact hX.lt m hm
  have hok2 := edit_ok hX.dk ((n : Nat) : Int) ((k_ : Nat) : Int) x
  rw [dEdit_yes hn hk_] at hok2
  have hll : (editL n k_ x D.L).length = D.L.length := by simp [editL]
  have hod0 : OutD 82 513 [] (.slice X.A (editL n k_ x D.L).length X.cap) (editL n k_ x D.L).length (dwcs (editL n k_ x D.L)) := by
    have e0 : D.L = [] := List.eq_nil_of_length_eq_zero hl0
    have h_ := hX.od
    rw [ht0, e0] at h_
    rw [e0]
    exact h_
  have eR : DX.row (DX.mk X.m X.q (clockI X.es ((n : Nat) : Int) X.c) X.cq X.cap X.A (setI ((n : Nat) : Int) (.agg (bvs (xorB k_ x (D.B.getD n [])))) X.c X.es) X.ls X.lf []) (Dk.mk (D.B.modify n (xorB k_ x)) (editL n k_ x D.L) D.fuse D.dead) = dkC ((D.B.length : Nat) : Int) (.map (some X.m)) (.slice X.A D.L.length X.cap) (.map (some X.q)) (decide (0 ≤ D.fuse)) X.lf D.dead := by unfold DX.row; dsimp only; rw [hll, List.length_modify]
  refine ⟨DX.rows (DX.mk X.m X.q (clockI X.es ((n : Nat) : Int) X.c) X.cq X.cap X.A (setI ((n : Nat) : Int) (.agg (bvs (xorB k_ x (D.B.getD n [])))) X.c X.es) X.ls X.lf []) p (Dk.mk (D.B.modify n (xorB k_ x)) (editL n k_ x D.L) D.fuse D.dead), rfl, ⟨(DX.mk X.m X.q (clockI X.es ((n : Nat) : Int) X.c) X.cq X.cap X.A (setI ((n : Nat) : Int) (.agg (bvs (xorB k_ x (D.B.getD n [])))) X.c X.es) X.ls X.lf []), rfl, ⟨hod0, hsb, hlt, hX.lf, hok2, by show 0 < (D.B.modify n (xorB k_ x)).length ∧ (D.B.modify n (xorB k_ x)).length ≤ 8192; rw [List.length_modify]; exact hX.nb, by show (editL n k_ x D.L).length ≤ 10000; rw [hll]; exact hX.nl⟩⟩, ?_⟩
  unfold DX.rows
  rw [eR]
  show Kn w0 W ((p, .ty 58, (dkC ((D.B.length : Nat) : Int) (.map (some X.m)) (.slice X.A D.L.length X.cap) (.map (some X.q)) (decide (0 ≤ D.fuse)) X.lf D.dead)) :: (X.m, .map (entsI (setI ((n : Nat) : Int) (.agg (bvs (xorB k_ x (D.B.getD n [])))) X.c X.es)) (clockI X.es ((n : Nat) : Int) X.c), #[]) :: (X.q, .map (entsI X.ls) X.cq, #[]) :: hh)
  have H_ := H.pickF (h := [(p, .ty 58, (dkC ((D.B.length : Nat) : Int) (.map (some X.m)) (.slice X.A D.L.length X.cap) (.map (some X.q)) (decide (0 ≤ D.fuse)) X.lf D.dead)), (X.m, .map (entsI (setI ((n : Nat) : Int) (.agg (bvs (xorB k_ x (D.B.getD n [])))) X.c X.es)) (clockI X.es ((n : Nat) : Int) X.c), #[]), (X.q, .map (entsI X.ls) X.cq, #[])]) (t := hh) [] [0, 1, 2] rfl
  exact H_.kn
set_option maxHeartbeats 4000000 in
theorem edit_some {X : DX} {p : Nat} {D : Dk} {hh : Hep} (n k_ : Nat) (x : UInt8) (hn : n < D.B.length) (hk_ : k_ < 512) {gu : Nat} {cur : Array Value} (ht : X.t = [(gu, .ty 82, cur)]) (hA : X.A = some ⟨gu, 0, none⟩) (hc1 : D.L.length ≤ X.cap) (hc2 : X.cap ≤ maxLen) (hc3 : cur.size = X.cap * 513) (hc4 : cur.toList.take (D.L.length * 513) = dwcs D.L) (hX : X.ok D) (w0 w : World) (K : Kn w0 w (X.rows p D ++ hh)) : Calls Try.prog 30 #[.pointer (some ⟨p, 0, none⟩), .int .i64 ((n : Nat) : Int), .int .i64 ((k_ : Nat) : Int), bv x] w (fun rr w' => ∃ r', rr = .returned (.int .i64 0) ∧ PO p (Dk.mk (D.B.modify n (xorB k_ x)) (editL n k_ x D.L) D.fuse D.dead) r' ∧ Kn w0 w' (r' ++ hh)) := by
  have hnb := hX.nb
  have hlf := hX.lf
  have hnl := hX.nl
  have hhas : decide (0 ≤ ((n : Nat) : Int) ∧ ((n : Nat) : Int) < ((D.B.length : Nat) : Int)) = true := decide_eq_true (by omega)
  have hl_o := hX.b512 hn
  have hl_x : (xorB k_ x (D.B.getD n [])).length = 512 := by rw [xor_len]; exact hl_o
  have hcur := hc4
  have hat : 0 < D.L.length → X.A = some ⟨gu, 0, none⟩ ∧ True := fun _ => ⟨hA, trivial⟩
  unfold DX.rows at K
  rw [ht] at K
  refine calls_kn (vs := [.pointer (some ⟨p, 0, none⟩), .int .i64 ((n : Nat) : Int), .int .i64 ((k_ : Nat) : Int), bv x]) 77 Try.func30 rfl Try.ntmps30 rfl K (fun a W H => ?_)
  replace H : St 77 w0 a W [(0, .pointer (some ⟨p, 0, none⟩)), (1, .int .i64 ((n : Nat) : Int)), (2, .int .i64 ((k_ : Nat) : Int)), (3, bv x)] ((p, 58, (dkC ((D.B.length : Nat) : Int) (.map (some X.m)) (.slice X.A D.L.length X.cap) (.map (some X.q)) (decide (0 ≤ D.fuse)) X.lf D.dead)) :: (X.m, .map (entsI X.es) X.c, #[]) :: (X.q, .map (entsI X.ls) X.cq, #[]) :: (gu, 82, cur) :: hh) := H
  refine sqR H gs0 fun Z_ z_ => rS 1 rfl <| rN0 z_ ?_
  try clear H a W
  intro a W H
  refine wp_seq_k (fun K2 hK2 => ?_)
  refine wp_seq_k (fun K3 hK3 => ?_)
  refine rgP H gs0 (rS 1 rfl <| rI0 ?_)
  try clear H a W
  intro a W H
  refine pl_callV rfl rfl ⟨_, Try.func40, by kernel_rfl⟩ rfl (fun K_ => isNone_live (hh := ([(X.m, .map (entsI X.es) X.c, #[]), (X.q, .map (entsI X.ls) X.cq, #[]), (gu, .ty 82, cur)] ++ hh)) (by omega) w0 _ K_) H ?_
  try clear H a W
  intro a W H
  replace H : St 77 w0 a W [(12, .bool false), (11, .pointer (some ⟨p, 0, none⟩)), (8, .int .i64 0), (0, .pointer (some ⟨p, 0, none⟩)), (1, .int .i64 ((n : Nat) : Int)), (2, .int .i64 ((k_ : Nat) : Int)), (3, bv x)] ((p, 58, (dkC ((D.B.length : Nat) : Int) (.map (some X.m)) (.slice X.A D.L.length X.cap) (.map (some X.q)) (decide (0 ≤ D.fuse)) X.lf D.dead)) :: (X.m, .map (entsI X.es) X.c, #[]) :: (X.q, .map (entsI X.ls) X.cq, #[]) :: (gu, 82, cur) :: hh) := H
  refine rgO H gs0 (rK [1, 0] [] [] <| rZ0 ?_)
  try clear H a W
  intro a W H
  refine hK3 _ _ ?_
  clear hK3
  refine wp_cond_false (H.ev rfl) ?_
  refine wp_skip ?_
  refine hK2 _ _ ?_
  clear hK2
  refine wp_seq_k (fun K4 hK4 => ?_)
  refine wp_seq_k (fun K5 hK5 => ?_)
  refine rgP H gs0 (rS 2 rfl <| rI0 ?_)
  try clear H a W
  intro a W H
  refine pl_callV rfl rfl ⟨_, Try.func41, by kernel_rfl⟩ rfl (fun K_ => by have h_ := has_p (hh := ([(X.m, .map (entsI X.es) X.c, #[]), (X.q, .map (entsI X.ls) X.cq, #[]), (gu, .ty 82, cur)] ++ hh)) ((n : Nat) : Int) w0 _ K_; rw [hhas] at h_; exact h_) H ?_
  try clear H a W
  intro a W H
  replace H : St 77 w0 a W [(15, .bool true), (14, .int .i64 ((n : Nat) : Int)), (13, .pointer (some ⟨p, 0, none⟩)), (12, .bool false), (8, .int .i64 0), (0, .pointer (some ⟨p, 0, none⟩)), (1, .int .i64 ((n : Nat) : Int)), (2, .int .i64 ((k_ : Nat) : Int)), (3, bv x)] ((p, 58, (dkC ((D.B.length : Nat) : Int) (.map (some X.m)) (.slice X.A D.L.length X.cap) (.map (some X.q)) (decide (0 ≤ D.fuse)) X.lf D.dead)) :: (X.m, .map (entsI X.es) X.c, #[]) :: (X.q, .map (entsI X.ls) X.cq, #[]) :: (gu, 82, cur) :: hh) := H
  refine rgO H gs0 (rS 3 rfl <| rV rfl (does_binOp rfl rfl rfl (zd_lss_int (k := ((k_ : Nat) : Int)) (m := 0) (decide_eq_false (by omega)) _ _)) <| rS 3 rfl <| rV rfl (does_binOp rfl rfl rfl (zd_geq_int (k := ((k_ : Nat) : Int)) (m := 512) (decide_eq_false (by omega)) _ _)) <| rS 1 rfl <| rK [1, 0, 0, 0, 0, 0, 0, 0, 0, 0, 0, 0, 0] [] [] <| rZ0 ?_)
  try clear H a W
  intro a W H
  refine hK5 _ _ ?_
  clear hK5
  refine wp_cond_false (H.ev rfl) ?_
  refine wp_skip ?_
  refine hK4 _ _ ?_
  clear hK4
  refine sqR H gs0 fun Z_ z_ => rS 1 rfl <| rV rfl (does_nilCheckQ rfl rfl) <| rV rfl (does_fieldAddr rfl rfl (fa_dk 1 (by decide))) <| rV rfl (does_loadAt (v := .map (some X.m)) rfl rfl (k := 0) rfl ld_dk1) <| rS 1 rfl <| rV rfl (does_lookV (k := 1) (v := .agg (bvs (D.B.getD n []))) rfl rfl rfl rfl Try.underlying54 Try.underlying3 zero_block (hX.sb n hn)) <| rA rfl rfl al_block fun g1 => rW [1] ⟨rfl, rfl⟩ rfl rfl rfl (info_block hl_o) (size_block zero_len hl_o) (bvs_oneP _) <| rK [1, 0, 0, 0, 0, 0, 0, 0] [] [] <| rN0 z_ ?_
  try clear H a W
  intro a W H
  refine sqR H gs0 fun Z_ z_ => rS 1 rfl <| rV rfl (does_indexAddr rfl rfl rfl (by have h_ := @ia_block g1 0 k_ (by omega); rwa [Nat.zero_add] at h_)) <| rV rfl (does_loadAt (v := bv ((D.B.getD n []).getD k_ 0)) rfl rfl (k := 0) rfl (ld_u8t (bvs_at (by rw [hl_o]; omega)))) <| rS 1 rfl <| rV rfl (does_binOp rfl rfl rfl (b_xorP _ _ _ _)) <| rV rfl (does_indexAddr rfl rfl rfl (by have h_ := @ia_block g1 0 k_ (by omega); rwa [Nat.zero_add] at h_)) <| rX [1] (c := bvs (xorB k_ x (D.B.getD n []))) ⟨rfl, rfl⟩ rfl rfl rfl (st_u8t (bvs_at (by rw [hl_o]; omega))) (set_xor (by rw [hl_o]; omega)) <| rK [0, 0, 0, 0, 0, 0] [] [] <| rN0 z_ ?_
  try clear H a W
  intro a W H
  refine wp_seq_k (fun K8 hK8 => ?_)
  refine d2 [.v 37 _ [], .v 38 _ [0], .v 39 _ [1], .v 40 _ [2], .v 41 _ [], .v 42 _ []] (by kernel_rfl) (by kernel_rfl) H gs0 ⟨oS rfl rfl, oV rfl (does_nilCheckQ rfl rfl), oV rfl (does_fieldAddr rfl rfl (fa_dk 1 (by decide))), oV rfl (does_loadAt (v := .map (some X.m)) rfl rfl (k := 1) rfl ld_dk1), oS rfl rfl, oV rfl (does_load rfl rfl (k := 0) rfl Try.underlying77 rfl (info_block hl_x)), trivial⟩ (rI0 ?_)
  try clear H a W
  intro a W H
  refine pl_setI (k := 2) rfl rfl rfl rfl rfl Try.underlying54 Try.underlying3 rfl rfl H ?_
  try clear H a W
  intro a W H
  replace H : St 77 w0 a W [(42, .agg (bvs (xorB k_ x (D.B.getD n [])))), (41, .int .i64 ((n : Nat) : Int)), (40, .map (some X.m)), (39, .pointer (some ⟨p, 1, none⟩)), (38, .pointer (some ⟨p, 0, none⟩)), (37, .pointer (some ⟨p, 0, none⟩)), (9, .pointer (some ⟨g1, 0, none⟩)), (8, .int .i64 0), (0, .pointer (some ⟨p, 0, none⟩)), (1, .int .i64 ((n : Nat) : Int)), (2, .int .i64 ((k_ : Nat) : Int)), (3, bv x)] ((g1, 77, bvs (xorB k_ x (D.B.getD n []))) :: (p, 58, (dkC ((D.B.length : Nat) : Int) (.map (some X.m)) (.slice X.A D.L.length X.cap) (.map (some X.q)) (decide (0 ≤ D.fuse)) X.lf D.dead)) :: (X.m, .map (entsI (setI ((n : Nat) : Int) (.agg (bvs (xorB k_ x (D.B.getD n [])))) X.c X.es)) (clockI X.es ((n : Nat) : Int) X.c), #[]) :: (X.q, .map (entsI X.ls) X.cq, #[]) :: (gu, 82, cur) :: hh) := H
  refine rgO H gs0 (rK [0, 0, 0, 0, 0, 0, 0] [0] [] <| rZ0 ?_)
  try clear H a W
  intro a W H
  refine hK8 _ _ ?_
  clear hK8
  refine wp_seq_k (fun K9 hK9 => ?_)
  refine sqR H gs0 fun Z_ z_ => rS 1 rfl <| rV rfl (does_nilCheckQ rfl rfl) <| rV rfl (does_fieldAddr rfl rfl (fa_dk 2 (by decide))) <| rV rfl (does_loadAt (v := .slice X.A D.L.length X.cap) rfl rfl (k := 0) rfl ld_dk2) <| rV rfl (does_len Try.underlying55 rfl rfl) <| rS 1 rfl <| rK [1, 1, 0, 0, 0, 0] [] [] <| rN0 z_ ?_
  try clear H a W
  intro a W H
  refine wp_block ?_
  replace H : St 77 w0 a W [(48, .int .i64 ((0 : Nat) : Int)), (47, .int .i64 ((D.L.length : Nat) : Int)), (8, .int .i64 0), (0, .pointer (some ⟨p, 0, none⟩)), (1, .int .i64 ((n : Nat) : Int)), (2, .int .i64 ((k_ : Nat) : Int)), (3, bv x)] ((p, 58, (dkC ((D.B.length : Nat) : Int) (.map (some X.m)) (.slice X.A D.L.length X.cap) (.map (some X.q)) (decide (0 ≤ D.fuse)) X.lf D.dead)) :: (X.m, .map (entsI (setI ((n : Nat) : Int) (.agg (bvs (xorB k_ x (D.B.getD n [])))) X.c X.es)) (clockI X.es ((n : Nat) : Int) X.c), #[]) :: (X.q, .map (entsI X.ls) X.cq, #[]) :: (gu, 82, (edC n k_ x D.L cur 0)) :: hh) := H.pickF (h := [(p, 58, (dkC ((D.B.length : Nat) : Int) (.map (some X.m)) (.slice X.A D.L.length X.cap) (.map (some X.q)) (decide (0 ≤ D.fuse)) X.lf D.dead)), (X.m, .map (entsI (setI ((n : Nat) : Int) (.agg (bvs (xorB k_ x (D.B.getD n [])))) X.c X.es)) (clockI X.es ((n : Nat) : Int) X.c), #[]), (X.q, .map (entsI X.ls) X.cq, #[]), (gu, 82, cur)]) (t := hh) [0, 1, 2, 3, 4, 5, 6] [0, 1, 2, 3] rfl
  refine wp_rounds D.L.length (fun k a W => St 77 w0 a W [(48, .int .i64 ((k : Nat) : Int)), (47, .int .i64 ((D.L.length : Nat) : Int)), (8, .int .i64 0), (0, .pointer (some ⟨p, 0, none⟩)), (1, .int .i64 ((n : Nat) : Int)), (2, .int .i64 ((k_ : Nat) : Int)), (3, bv x)] ((p, 58, (dkC ((D.B.length : Nat) : Int) (.map (some X.m)) (.slice X.A D.L.length X.cap) (.map (some X.q)) (decide (0 ≤ D.fuse)) X.lf D.dead)) :: (X.m, .map (entsI (setI ((n : Nat) : Int) (.agg (bvs (xorB k_ x (D.B.getD n [])))) X.c X.es)) (clockI X.es ((n : Nat) : Int) X.c), #[]) :: (X.q, .map (entsI X.ls) X.cq, #[]) :: (gu, 82, (edC n k_ x D.L cur k)) :: hh)) (k0 := 0) H (by omega) ?_
  try clear H a W
  intro k a W hk H
  by_cases hk2 : k < D.L.length
  · obtain ⟨⟨nk, bk⟩, hLk⟩ : ∃ q, D.L[k]? = some q := ⟨_, List.getElem?_eq_getElem hk2⟩
    refine sqR H gs0 fun Z_ z_ => rV rfl (does_binOp rfl rfl rfl (zd_lss_int (k := ((k : Nat) : Int)) (m := ((D.L.length : Nat) : Int)) (decide_eq_true (by omega)) _ _)) <| rN0 z_ ?_
    try clear H a W
    intro a W H
    refine cdT H rfl ?_
    refine wp_seq_k (fun K12 hK12 => ?_)
    refine wp_block ?_
    refine sqR H gs0 fun Z_ z_ => rS 2 rfl <| rN0 z_ ?_
    try clear H a W
    intro a W H
    refine sqR H gs0 fun Z_ z_ => rS 1 rfl <| rV rfl (does_nilCheckQ rfl rfl) <| rV rfl (does_fieldAddr rfl rfl (fa_dk 2 (by decide))) <| rV rfl (does_loadAt (v := .slice X.A D.L.length X.cap) rfl rfl (k := 0) rfl ld_dk2) <| rS 1 rfl <| rV rfl (does_indexAddr rfl rfl rfl (ia_writes (j := k) (hat (by omega)).1 (by omega))) <| rV rfl (does_fieldAddr rfl rfl fa_write0) <| rV rfl (does_loadAt (v := .int .i64 ((nk : Nat) : Int)) rfl rfl (k := 3) rfl (ld_numC (edC_num hX.l512 hk_ hcur hLk))) <| rS 1 rfl <| rV rfl (does_binOp rfl rfl rfl (zd_eql_int (k := ((nk : Nat) : Int)) (m := ((n : Nat) : Int)) rfl _ _)) <| rN0 z_ ?_
    try clear H a W
    intro a W H
    cases hq1 : decide (((nk : Nat) : Int) = ((n : Nat) : Int)) with
    | true =>
      rw [hq1] at H
      have hq1p := of_decide_eq_true hq1
      refine wp_cond_true (H.ev rfl) ?_
      refine d2 [.v 61 _ [], .v 62 _ [0], .v 63 _ [1], .v 64 _ [2], .v 65 _ [], .v 66 _ [], .v 67 _ [3, 4], .v 68 _ [6], .v 69 _ [7, 5], .v 70 _ [8], .v 71 _ [], .v 72 _ [9, 10], .v 73 _ [3, 4], .v 74 _ [12], .v 75 _ [13, 5]] (by kernel_rfl) (by kernel_rfl) H gs0 ⟨oS rfl rfl, oV rfl (does_nilCheckQ rfl rfl), oV rfl (does_fieldAddr rfl rfl (fa_dk 2 (by decide))), oV rfl (does_loadAt (v := .slice X.A D.L.length X.cap) rfl rfl (k := 0) rfl ld_dk2), oS rfl rfl, oS rfl rfl, oV rfl (does_indexAddr rfl rfl rfl (ia_writes (j := k) (hat (by omega)).1 (by omega))), oV rfl (does_fieldAddr rfl rfl fa_write1), oV rfl (does_indexAddr rfl rfl rfl (ia_block (o := 0 + k * 513 + 1) (k := k_) (by omega))), oV rfl (does_loadAt (v := bv (bk.getD k_ 0)) rfl rfl (k := 3) rfl (ld_u8t (edC_byte hX.l512 hk_ hcur hLk))), oS rfl rfl, oV rfl (does_binOp rfl rfl rfl (b_xorP _ _ _ _)), oV rfl (does_indexAddr rfl rfl rfl (ia_writes (j := k) (hat (by omega)).1 (by omega))), oV rfl (does_fieldAddr rfl rfl fa_write1), oV rfl (does_indexAddr rfl rfl rfl (ia_block (o := 0 + k * 513 + 1) (k := k_) (by omega))), trivial⟩ (rX [0, 0, 0, 1] (c := (edC n k_ x D.L cur (k + 1))) ⟨rfl, rfl⟩ rfl rfl rfl (st_u8t (edC_byte hX.l512 hk_ hcur hLk)) (edC_yes hLk (by omega)) <| rZ0 ?_)
      try clear H a W
      intro a W H
      refine blk_normal ?_
      refine hK12 _ _ ?_
      clear hK12
      refine rgP H gs0 (rV rfl (does_binOp rfl rfl rfl (zd_add_int (k := ((k : Nat) : Int)) (m := 1) (c := ((k + 1 : Nat) : Int)) (by omega) (by omega) _ _)) <| rK [1, 1, 1, 1, 1, 1, 1, 1, 1, 1, 1, 1, 1, 1, 1, 1, 1, 1, 1, 1, 1, 1, 1, 1, 1, 1, 1, 1, 1, 0] [] [] <| rS 1 rfl <| rZ0 ?_)
      try clear H a W
      intro a W H
      refine ⟨k + 1, by omega, by omega, ?_⟩
      show St 77 w0 a W [(48, .int .i64 ((k + 1 : Nat) : Int)), (47, .int .i64 ((D.L.length : Nat) : Int)), (8, .int .i64 0), (0, .pointer (some ⟨p, 0, none⟩)), (1, .int .i64 ((n : Nat) : Int)), (2, .int .i64 ((k_ : Nat) : Int)), (3, bv x)] ((p, 58, (dkC ((D.B.length : Nat) : Int) (.map (some X.m)) (.slice X.A D.L.length X.cap) (.map (some X.q)) (decide (0 ≤ D.fuse)) X.lf D.dead)) :: (X.m, .map (entsI (setI ((n : Nat) : Int) (.agg (bvs (xorB k_ x (D.B.getD n [])))) X.c X.es)) (clockI X.es ((n : Nat) : Int) X.c), #[]) :: (X.q, .map (entsI X.ls) X.cq, #[]) :: (gu, 82, (edC n k_ x D.L cur (k + 1))) :: hh)
      replace H : St 77 w0 a W [(48, .int .i64 ((k + 1 : Nat) : Int)), (76, .int .i64 ((k + 1 : Nat) : Int)), (75, .pointer (some ⟨gu, 0 + k * 513 + 1 + k_, none⟩)), (74, .pointer (some ⟨gu, 0 + k * 513 + 1, none⟩)), (73, .pointer (some ⟨gu, 0 + k * 513, none⟩)), (72, bv ((bk.getD k_ 0) ^^^ x)), (71, bv x), (70, bv (bk.getD k_ 0)), (69, .pointer (some ⟨gu, 0 + k * 513 + 1 + k_, none⟩)), (68, .pointer (some ⟨gu, 0 + k * 513 + 1, none⟩)), (67, .pointer (some ⟨gu, 0 + k * 513, none⟩)), (66, .int .i64 ((k_ : Nat) : Int)), (65, .int .i64 ((k : Nat) : Int)), (64, .slice X.A D.L.length X.cap), (63, .pointer (some ⟨p, 2, none⟩)), (62, .pointer (some ⟨p, 0, none⟩)), (61, .pointer (some ⟨p, 0, none⟩)), (60, .bool true), (59, .int .i64 ((n : Nat) : Int)), (58, .int .i64 ((nk : Nat) : Int)), (57, .pointer (some ⟨gu, 0 + k * 513, none⟩)), (56, .pointer (some ⟨gu, 0 + k * 513, none⟩)), (55, .int .i64 ((k : Nat) : Int)), (54, .slice X.A D.L.length X.cap), (53, .pointer (some ⟨p, 2, none⟩)), (52, .pointer (some ⟨p, 0, none⟩)), (51, .pointer (some ⟨p, 0, none⟩)), (10, .int .i64 ((k : Nat) : Int)), (50, .int .i64 ((k : Nat) : Int)), (49, .bool true), (47, .int .i64 ((D.L.length : Nat) : Int)), (8, .int .i64 0), (0, .pointer (some ⟨p, 0, none⟩)), (1, .int .i64 ((n : Nat) : Int)), (2, .int .i64 ((k_ : Nat) : Int)), (3, bv x)] ((X.q, .map (entsI X.ls) X.cq, #[]) :: (p, 58, (dkC ((D.B.length : Nat) : Int) (.map (some X.m)) (.slice X.A D.L.length X.cap) (.map (some X.q)) (decide (0 ≤ D.fuse)) X.lf D.dead)) :: (X.m, .map (entsI (setI ((n : Nat) : Int) (.agg (bvs (xorB k_ x (D.B.getD n [])))) X.c X.es)) (clockI X.es ((n : Nat) : Int) X.c), #[]) :: (gu, 82, (edC n k_ x D.L cur (k + 1))) :: hh) := H.perm' (@List.perm_middle (Nat × Tid × Array Value) (X.q, .map (entsI X.ls) X.cq, #[]) [(p, .ty 58, (dkC ((D.B.length : Nat) : Int) (.map (some X.m)) (.slice X.A D.L.length X.cap) (.map (some X.q)) (decide (0 ≤ D.fuse)) X.lf D.dead)), (X.m, .map (entsI (setI ((n : Nat) : Int) (.agg (bvs (xorB k_ x (D.B.getD n [])))) X.c X.es)) (clockI X.es ((n : Nat) : Int) X.c), #[])] (([(gu, .ty 82, (edC n k_ x D.L cur (k + 1)))] : Hep) ++ hh))
      replace H : St 77 w0 a W [(48, .int .i64 ((k + 1 : Nat) : Int)), (76, .int .i64 ((k + 1 : Nat) : Int)), (75, .pointer (some ⟨gu, 0 + k * 513 + 1 + k_, none⟩)), (74, .pointer (some ⟨gu, 0 + k * 513 + 1, none⟩)), (73, .pointer (some ⟨gu, 0 + k * 513, none⟩)), (72, bv ((bk.getD k_ 0) ^^^ x)), (71, bv x), (70, bv (bk.getD k_ 0)), (69, .pointer (some ⟨gu, 0 + k * 513 + 1 + k_, none⟩)), (68, .pointer (some ⟨gu, 0 + k * 513 + 1, none⟩)), (67, .pointer (some ⟨gu, 0 + k * 513, none⟩)), (66, .int .i64 ((k_ : Nat) : Int)), (65, .int .i64 ((k : Nat) : Int)), (64, .slice X.A D.L.length X.cap), (63, .pointer (some ⟨p, 2, none⟩)), (62, .pointer (some ⟨p, 0, none⟩)), (61, .pointer (some ⟨p, 0, none⟩)), (60, .bool true), (59, .int .i64 ((n : Nat) : Int)), (58, .int .i64 ((nk : Nat) : Int)), (57, .pointer (some ⟨gu, 0 + k * 513, none⟩)), (56, .pointer (some ⟨gu, 0 + k * 513, none⟩)), (55, .int .i64 ((k : Nat) : Int)), (54, .slice X.A D.L.length X.cap), (53, .pointer (some ⟨p, 2, none⟩)), (52, .pointer (some ⟨p, 0, none⟩)), (51, .pointer (some ⟨p, 0, none⟩)), (10, .int .i64 ((k : Nat) : Int)), (50, .int .i64 ((k : Nat) : Int)), (49, .bool true), (47, .int .i64 ((D.L.length : Nat) : Int)), (8, .int .i64 0), (0, .pointer (some ⟨p, 0, none⟩)), (1, .int .i64 ((n : Nat) : Int)), (2, .int .i64 ((k_ : Nat) : Int)), (3, bv x)] ((X.m, .map (entsI (setI ((n : Nat) : Int) (.agg (bvs (xorB k_ x (D.B.getD n [])))) X.c X.es)) (clockI X.es ((n : Nat) : Int) X.c), #[]) :: (X.q, .map (entsI X.ls) X.cq, #[]) :: (p, 58, (dkC ((D.B.length : Nat) : Int) (.map (some X.m)) (.slice X.A D.L.length X.cap) (.map (some X.q)) (decide (0 ≤ D.fuse)) X.lf D.dead)) :: (gu, 82, (edC n k_ x D.L cur (k + 1))) :: hh) := H.perm' (@List.perm_middle (Nat × Tid × Array Value) (X.m, .map (entsI (setI ((n : Nat) : Int) (.agg (bvs (xorB k_ x (D.B.getD n [])))) X.c X.es)) (clockI X.es ((n : Nat) : Int) X.c), #[]) [(X.q, .map (entsI X.ls) X.cq, #[]), (p, .ty 58, (dkC ((D.B.length : Nat) : Int) (.map (some X.m)) (.slice X.A D.L.length X.cap) (.map (some X.q)) (decide (0 ≤ D.fuse)) X.lf D.dead))] (([(gu, .ty 82, (edC n k_ x D.L cur (k + 1)))] : Hep) ++ hh))
      replace H : St 77 w0 a W [(48, .int .i64 ((k + 1 : Nat) : Int)), (76, .int .i64 ((k + 1 : Nat) : Int)), (75, .pointer (some ⟨gu, 0 + k * 513 + 1 + k_, none⟩)), (74, .pointer (some ⟨gu, 0 + k * 513 + 1, none⟩)), (73, .pointer (some ⟨gu, 0 + k * 513, none⟩)), (72, bv ((bk.getD k_ 0) ^^^ x)), (71, bv x), (70, bv (bk.getD k_ 0)), (69, .pointer (some ⟨gu, 0 + k * 513 + 1 + k_, none⟩)), (68, .pointer (some ⟨gu, 0 + k * 513 + 1, none⟩)), (67, .pointer (some ⟨gu, 0 + k * 513, none⟩)), (66, .int .i64 ((k_ : Nat) : Int)), (65, .int .i64 ((k : Nat) : Int)), (64, .slice X.A D.L.length X.cap), (63, .pointer (some ⟨p, 2, none⟩)), (62, .pointer (some ⟨p, 0, none⟩)), (61, .pointer (some ⟨p, 0, none⟩)), (60, .bool true), (59, .int .i64 ((n : Nat) : Int)), (58, .int .i64 ((nk : Nat) : Int)), (57, .pointer (some ⟨gu, 0 + k * 513, none⟩)), (56, .pointer (some ⟨gu, 0 + k * 513, none⟩)), (55, .int .i64 ((k : Nat) : Int)), (54, .slice X.A D.L.length X.cap), (53, .pointer (some ⟨p, 2, none⟩)), (52, .pointer (some ⟨p, 0, none⟩)), (51, .pointer (some ⟨p, 0, none⟩)), (10, .int .i64 ((k : Nat) : Int)), (50, .int .i64 ((k : Nat) : Int)), (49, .bool true), (47, .int .i64 ((D.L.length : Nat) : Int)), (8, .int .i64 0), (0, .pointer (some ⟨p, 0, none⟩)), (1, .int .i64 ((n : Nat) : Int)), (2, .int .i64 ((k_ : Nat) : Int)), (3, bv x)] ((p, 58, (dkC ((D.B.length : Nat) : Int) (.map (some X.m)) (.slice X.A D.L.length X.cap) (.map (some X.q)) (decide (0 ≤ D.fuse)) X.lf D.dead)) :: (X.m, .map (entsI (setI ((n : Nat) : Int) (.agg (bvs (xorB k_ x (D.B.getD n [])))) X.c X.es)) (clockI X.es ((n : Nat) : Int) X.c), #[]) :: (X.q, .map (entsI X.ls) X.cq, #[]) :: (gu, 82, (edC n k_ x D.L cur (k + 1))) :: hh) := H.perm' (@List.perm_middle (Nat × Tid × Array Value) (p, .ty 58, (dkC ((D.B.length : Nat) : Int) (.map (some X.m)) (.slice X.A D.L.length X.cap) (.map (some X.q)) (decide (0 ≤ D.fuse)) X.lf D.dead)) [(X.m, .map (entsI (setI ((n : Nat) : Int) (.agg (bvs (xorB k_ x (D.B.getD n [])))) X.c X.es)) (clockI X.es ((n : Nat) : Int) X.c), #[]), (X.q, .map (entsI X.ls) X.cq, #[])] (([(gu, .ty 82, (edC n k_ x D.L cur (k + 1)))] : Hep) ++ hh))
      exact H.pickF (h := [(p, 58, (dkC ((D.B.length : Nat) : Int) (.map (some X.m)) (.slice X.A D.L.length X.cap) (.map (some X.q)) (decide (0 ≤ D.fuse)) X.lf D.dead)), (X.m, .map (entsI (setI ((n : Nat) : Int) (.agg (bvs (xorB k_ x (D.B.getD n [])))) X.c X.es)) (clockI X.es ((n : Nat) : Int) X.c), #[]), (X.q, .map (entsI X.ls) X.cq, #[]), (gu, 82, (edC n k_ x D.L cur (k + 1)))]) (t := hh) [0, 30, 31, 32, 33, 34, 35] [0, 1, 2, 3] rfl
    | false =>
      rw [hq1] at H
      have hq1p := of_decide_eq_false hq1
      refine wp_cond_false (H.ev rfl) ?_
      refine wp_skip ?_
      refine blk_normal ?_
      refine hK12 _ _ ?_
      clear hK12
      refine rgP H gs0 (rV rfl (does_binOp rfl rfl rfl (zd_add_int (k := ((k : Nat) : Int)) (m := 1) (c := ((k + 1 : Nat) : Int)) (by omega) (by omega) _ _)) <| rK [1, 1, 1, 1, 1, 1, 1, 1, 1, 1, 1, 1, 1, 1, 0] [] [] <| rS 1 rfl <| rZ0 ?_)
      try clear H a W
      intro a W H
      refine ⟨k + 1, by omega, by omega, ?_⟩
      show St 77 w0 a W [(48, .int .i64 ((k + 1 : Nat) : Int)), (47, .int .i64 ((D.L.length : Nat) : Int)), (8, .int .i64 0), (0, .pointer (some ⟨p, 0, none⟩)), (1, .int .i64 ((n : Nat) : Int)), (2, .int .i64 ((k_ : Nat) : Int)), (3, bv x)] ((p, 58, (dkC ((D.B.length : Nat) : Int) (.map (some X.m)) (.slice X.A D.L.length X.cap) (.map (some X.q)) (decide (0 ≤ D.fuse)) X.lf D.dead)) :: (X.m, .map (entsI (setI ((n : Nat) : Int) (.agg (bvs (xorB k_ x (D.B.getD n [])))) X.c X.es)) (clockI X.es ((n : Nat) : Int) X.c), #[]) :: (X.q, .map (entsI X.ls) X.cq, #[]) :: (gu, 82, (edC n k_ x D.L cur (k + 1))) :: hh)
      replace H : St 77 w0 a W [(48, .int .i64 ((k + 1 : Nat) : Int)), (76, .int .i64 ((k + 1 : Nat) : Int)), (60, .bool false), (59, .int .i64 ((n : Nat) : Int)), (58, .int .i64 ((nk : Nat) : Int)), (57, .pointer (some ⟨gu, 0 + k * 513, none⟩)), (56, .pointer (some ⟨gu, 0 + k * 513, none⟩)), (55, .int .i64 ((k : Nat) : Int)), (54, .slice X.A D.L.length X.cap), (53, .pointer (some ⟨p, 2, none⟩)), (52, .pointer (some ⟨p, 0, none⟩)), (51, .pointer (some ⟨p, 0, none⟩)), (10, .int .i64 ((k : Nat) : Int)), (50, .int .i64 ((k : Nat) : Int)), (49, .bool true), (47, .int .i64 ((D.L.length : Nat) : Int)), (8, .int .i64 0), (0, .pointer (some ⟨p, 0, none⟩)), (1, .int .i64 ((n : Nat) : Int)), (2, .int .i64 ((k_ : Nat) : Int)), (3, bv x)] ((X.q, .map (entsI X.ls) X.cq, #[]) :: (p, 58, (dkC ((D.B.length : Nat) : Int) (.map (some X.m)) (.slice X.A D.L.length X.cap) (.map (some X.q)) (decide (0 ≤ D.fuse)) X.lf D.dead)) :: (X.m, .map (entsI (setI ((n : Nat) : Int) (.agg (bvs (xorB k_ x (D.B.getD n [])))) X.c X.es)) (clockI X.es ((n : Nat) : Int) X.c), #[]) :: (gu, 82, (edC n k_ x D.L cur k)) :: hh) := H.perm' (@List.perm_middle (Nat × Tid × Array Value) (X.q, .map (entsI X.ls) X.cq, #[]) [(p, .ty 58, (dkC ((D.B.length : Nat) : Int) (.map (some X.m)) (.slice X.A D.L.length X.cap) (.map (some X.q)) (decide (0 ≤ D.fuse)) X.lf D.dead)), (X.m, .map (entsI (setI ((n : Nat) : Int) (.agg (bvs (xorB k_ x (D.B.getD n [])))) X.c X.es)) (clockI X.es ((n : Nat) : Int) X.c), #[])] (([(gu, .ty 82, (edC n k_ x D.L cur k))] : Hep) ++ hh))
      replace H : St 77 w0 a W [(48, .int .i64 ((k + 1 : Nat) : Int)), (76, .int .i64 ((k + 1 : Nat) : Int)), (60, .bool false), (59, .int .i64 ((n : Nat) : Int)), (58, .int .i64 ((nk : Nat) : Int)), (57, .pointer (some ⟨gu, 0 + k * 513, none⟩)), (56, .pointer (some ⟨gu, 0 + k * 513, none⟩)), (55, .int .i64 ((k : Nat) : Int)), (54, .slice X.A D.L.length X.cap), (53, .pointer (some ⟨p, 2, none⟩)), (52, .pointer (some ⟨p, 0, none⟩)), (51, .pointer (some ⟨p, 0, none⟩)), (10, .int .i64 ((k : Nat) : Int)), (50, .int .i64 ((k : Nat) : Int)), (49, .bool true), (47, .int .i64 ((D.L.length : Nat) : Int)), (8, .int .i64 0), (0, .pointer (some ⟨p, 0, none⟩)), (1, .int .i64 ((n : Nat) : Int)), (2, .int .i64 ((k_ : Nat) : Int)), (3, bv x)] ((X.m, .map (entsI (setI ((n : Nat) : Int) (.agg (bvs (xorB k_ x (D.B.getD n [])))) X.c X.es)) (clockI X.es ((n : Nat) : Int) X.c), #[]) :: (X.q, .map (entsI X.ls) X.cq, #[]) :: (p, 58, (dkC ((D.B.length : Nat) : Int) (.map (some X.m)) (.slice X.A D.L.length X.cap) (.map (some X.q)) (decide (0 ≤ D.fuse)) X.lf D.dead)) :: (gu, 82, (edC n k_ x D.L cur k)) :: hh) := H.perm' (@List.perm_middle (Nat × Tid × Array Value) (X.m, .map (entsI (setI ((n : Nat) : Int) (.agg (bvs (xorB k_ x (D.B.getD n [])))) X.c X.es)) (clockI X.es ((n : Nat) : Int) X.c), #[]) [(X.q, .map (entsI X.ls) X.cq, #[]), (p, .ty 58, (dkC ((D.B.length : Nat) : Int) (.map (some X.m)) (.slice X.A D.L.length X.cap) (.map (some X.q)) (decide (0 ≤ D.fuse)) X.lf D.dead))] (([(gu, .ty 82, (edC n k_ x D.L cur k))] : Hep) ++ hh))
      replace H : St 77 w0 a W [(48, .int .i64 ((k + 1 : Nat) : Int)), (76, .int .i64 ((k + 1 : Nat) : Int)), (60, .bool false), (59, .int .i64 ((n : Nat) : Int)), (58, .int .i64 ((nk : Nat) : Int)), (57, .pointer (some ⟨gu, 0 + k * 513, none⟩)), (56, .pointer (some ⟨gu, 0 + k * 513, none⟩)), (55, .int .i64 ((k : Nat) : Int)), (54, .slice X.A D.L.length X.cap), (53, .pointer (some ⟨p, 2, none⟩)), (52, .pointer (some ⟨p, 0, none⟩)), (51, .pointer (some ⟨p, 0, none⟩)), (10, .int .i64 ((k : Nat) : Int)), (50, .int .i64 ((k : Nat) : Int)), (49, .bool true), (47, .int .i64 ((D.L.length : Nat) : Int)), (8, .int .i64 0), (0, .pointer (some ⟨p, 0, none⟩)), (1, .int .i64 ((n : Nat) : Int)), (2, .int .i64 ((k_ : Nat) : Int)), (3, bv x)] ((p, 58, (dkC ((D.B.length : Nat) : Int) (.map (some X.m)) (.slice X.A D.L.length X.cap) (.map (some X.q)) (decide (0 ≤ D.fuse)) X.lf D.dead)) :: (X.m, .map (entsI (setI ((n : Nat) : Int) (.agg (bvs (xorB k_ x (D.B.getD n [])))) X.c X.es)) (clockI X.es ((n : Nat) : Int) X.c), #[]) :: (X.q, .map (entsI X.ls) X.cq, #[]) :: (gu, 82, (edC n k_ x D.L cur k)) :: hh) := H.perm' (@List.perm_middle (Nat × Tid × Array Value) (p, .ty 58, (dkC ((D.B.length : Nat) : Int) (.map (some X.m)) (.slice X.A D.L.length X.cap) (.map (some X.q)) (decide (0 ≤ D.fuse)) X.lf D.dead)) [(X.m, .map (entsI (setI ((n : Nat) : Int) (.agg (bvs (xorB k_ x (D.B.getD n [])))) X.c X.es)) (clockI X.es ((n : Nat) : Int) X.c), #[]), (X.q, .map (entsI X.ls) X.cq, #[])] (([(gu, .ty 82, (edC n k_ x D.L cur k))] : Hep) ++ hh))
      rw [edC_no hLk (by have h_ := hq1p; omega)]
      exact H.pickF (h := [(p, 58, (dkC ((D.B.length : Nat) : Int) (.map (some X.m)) (.slice X.A D.L.length X.cap) (.map (some X.q)) (decide (0 ≤ D.fuse)) X.lf D.dead)), (X.m, .map (entsI (setI ((n : Nat) : Int) (.agg (bvs (xorB k_ x (D.B.getD n [])))) X.c X.es)) (clockI X.es ((n : Nat) : Int) X.c), #[]), (X.q, .map (entsI X.ls) X.cq, #[]), (gu, 82, (edC n k_ x D.L cur k))]) (t := hh) [0, 15, 16, 17, 18, 19, 20] [0, 1, 2, 3] rfl
  · obtain rfl : D.L.length = k := by omega
    refine sqR H gs0 fun Z_ z_ => rV rfl (does_binOp rfl rfl rfl (zd_lss_int (k := ((D.L.length : Nat) : Int)) (m := ((D.L.length : Nat) : Int)) (decide_eq_false (by omega)) _ _)) <| rK [1, 1, 0] [] [] <| rN0 z_ ?_
    try clear H a W
    intro a W H
    refine wp_seq_k (fun K16 hK16 => ?_)
    refine wp_cond_false (H.ev rfl) ?_
    refine wp_exit ?_
    repeat (first | (with_reducible refine then_exit ?_) | (with_reducible refine blk_pass (by decide) ?_))
    refine blk_exit ?_
    refine hK9 _ _ ?_
    clear hK9
    refine sqR H gs0 fun Z_ z_ => rK [1, 1, 0] [] [] <| rS 1 rfl <| rK [1, 0, 0, 0, 0, 0, 0] [] [] <| rN0 z_ ?_
    try clear H a W
    intro a W H
    refine wp_ret ?_
    repeat (first | (with_reducible refine then_ret ?_) | (with_reducible refine blk_ret ?_))
    refine end_tmp (p := 8) rfl rfl H (fun hb => ?_)
    have hsb : SBk (setI ((n : Nat) : Int) (.agg (bvs (xorB k_ x (D.B.getD n [])))) X.c X.es) (D.B.modify n (xorB k_ x)) := by rw [modify_set _ hn]; exact hX.sb.set hn _ _
    have hlt : LTk X.ls (D.B.modify n (xorB k_ x)).length (editL n k_ x D.L) := fun m hm => by rw [edit_last]; rw [List.length_modify] at hm; exact hX.lt m hm
    have hok2 := edit_ok hX.dk ((n : Nat) : Int) ((k_ : Nat) : Int) x
    rw [dEdit_yes hn hk_] at hok2
    have hll : (editL n k_ x D.L).length = D.L.length := by simp [editL]
    have hod2 : OutD 82 513 [(gu, .ty 82, edC n k_ x D.L cur D.L.length)] (.slice X.A (editL n k_ x D.L).length X.cap) (editL n k_ x D.L).length (dwcs (editL n k_ x D.L)) := by
      rw [hll, hA]
      refine .inr ⟨gu, X.cap, _, rfl, rfl, hc1, hc2, by rw [edC_size]; exact hc3, ?_⟩
      have h_ := edC_take (n := n) (x := x) hX.l512 hk_ hcur D.L.length (Nat.le_refl _)
      rw [List.take_length, List.drop_length, List.append_nil] at h_
      exact h_
    have eR : DX.row (DX.mk X.m X.q (clockI X.es ((n : Nat) : Int) X.c) X.cq X.cap X.A (setI ((n : Nat) : Int) (.agg (bvs (xorB k_ x (D.B.getD n [])))) X.c X.es) X.ls X.lf [(gu, .ty 82, edC n k_ x D.L cur D.L.length)]) (Dk.mk (D.B.modify n (xorB k_ x)) (editL n k_ x D.L) D.fuse D.dead) = dkC ((D.B.length : Nat) : Int) (.map (some X.m)) (.slice X.A D.L.length X.cap) (.map (some X.q)) (decide (0 ≤ D.fuse)) X.lf D.dead := by unfold DX.row; dsimp only; rw [hll, List.length_modify]
    refine ⟨DX.rows (DX.mk X.m X.q (clockI X.es ((n : Nat) : Int) X.c) X.cq X.cap X.A (setI ((n : Nat) : Int) (.agg (bvs (xorB k_ x (D.B.getD n [])))) X.c X.es) X.ls X.lf [(gu, .ty 82, edC n k_ x D.L cur D.L.length)]) p (Dk.mk (D.B.modify n (xorB k_ x)) (editL n k_ x D.L) D.fuse D.dead), rfl, ⟨(DX.mk X.m X.q (clockI X.es ((n : Nat) : Int) X.c) X.cq X.cap X.A (setI ((n : Nat) : Int) (.agg (bvs (xorB k_ x (D.B.getD n [])))) X.c X.es) X.ls X.lf [(gu, .ty 82, edC n k_ x D.L cur D.L.length)]), rfl, ⟨hod2, hsb, hlt, hX.lf, hok2, by show 0 < (D.B.modify n (xorB k_ x)).length ∧ (D.B.modify n (xorB k_ x)).length ≤ 8192; rw [List.length_modify]; exact hX.nb, by show (editL n k_ x D.L).length ≤ 10000; rw [hll]; exact hX.nl⟩⟩, ?_⟩
    unfold DX.rows
    rw [eR]
    show Kn w0 W ((p, .ty 58, (dkC ((D.B.length : Nat) : Int) (.map (some X.m)) (.slice X.A D.L.length X.cap) (.map (some X.q)) (decide (0 ≤ D.fuse)) X.lf D.dead)) :: (X.m, .map (entsI (setI ((n : Nat) : Int) (.agg (bvs (xorB k_ x (D.B.getD n [])))) X.c X.es)) (clockI X.es ((n : Nat) : Int) X.c), #[]) :: (X.q, .map (entsI X.ls) X.cq, #[]) :: (gu, .ty 82, (edC n k_ x D.L cur D.L.length)) :: hh)
    have H_ := H.pickF (h := [(p, .ty 58, (dkC ((D.B.length : Nat) : Int) (.map (some X.m)) (.slice X.A D.L.length X.cap) (.map (some X.q)) (decide (0 ≤ D.fuse)) X.lf D.dead)), (X.m, .map (entsI (setI ((n : Nat) : Int) (.agg (bvs (xorB k_ x (D.B.getD n [])))) X.c X.es)) (clockI X.es ((n : Nat) : Int) X.c), #[]), (X.q, .map (entsI X.ls) X.cq, #[]), (gu, .ty 82, (edC n k_ x D.L cur D.L.length))]) (t := hh) [] [0, 1, 2, 3] rfl
    exact H_.kn
end Go.Proofs.Ytiebelmglchbdaa
