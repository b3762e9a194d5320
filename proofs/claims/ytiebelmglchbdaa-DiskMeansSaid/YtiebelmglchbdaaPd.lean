/- Package disk (layer 14): how a disk lies in told rows (DX, PO); what its maps hold, purely. -/
import Derived.Test.YtiebelmglchbdaaPc
namespace Go.Proofs.Ytiebelmglchbdaa
set_option linter.unusedVariables false
set_option linter.unusedSimpArgs false
set_option maxRecDepth 100000
open Go Go.RowKit

theorem snocInd {α : Type} {P : List α → Prop} (h0 : P []) (h1 : ∀ l x, P l → P (l ++ [x])) (l : List α) : P l := by
  have h : ∀ r : List α, P r.reverse := by
    intro r
    induction r with
    | nil => exact h0
    | cons x r ih => rw [List.reverse_cons]; exact h1 _ _ ih
  have := h l.reverse
  rwa [List.reverse_reverse] at this
/-- Where a block's last write stands. -/
def lastAt (L : List (Nat × List UInt8)) (n : Nat) : Option Nat := (L.foldl (fun (r : Nat × Option Nat) p => (r.1 + 1, if p.1 = n then some r.1 else r.2)) (0, none)).2
theorem last_len (n : Nat) (L : List (Nat × List UInt8)) : (L.foldl (fun (r : Nat × Option Nat) p => (r.1 + 1, if p.1 = n then some r.1 else r.2)) (0, none)).1 = L.length := by
  induction L using snocInd with
  | h0 => rfl
  | h1 l x ih => rw [List.foldl_append, List.foldl_cons, List.foldl_nil, ih, List.length_append]; rfl
theorem last_snoc (L : List (Nat × List UInt8)) (p : Nat × List UInt8) (n : Nat) : lastAt (L ++ [p]) n = if p.1 = n then some L.length else lastAt L n := by
  unfold lastAt
  rw [List.foldl_append, List.foldl_cons, List.foldl_nil]
  dsimp only
  rw [last_len]
theorem readK_snoc (B : List (List UInt8)) (L : List (Nat × List UInt8)) (p : Nat × List UInt8) (n : Nat) : readK B (L ++ [p]) n = if p.1 = n then p.2 else readK B L n := by
  unfold readK
  rw [List.foldl_append, List.foldl_cons, List.foldl_nil]
theorem last_none {B : List (List UInt8)} {n : Nat} (L : List (Nat × List UInt8)) : lastAt L n = none → readK B L n = B.getD n [] := by
  induction L using snocInd with
  | h0 => intro _; rfl
  | h1 l p ih =>
    intro h
    rw [last_snoc] at h
    split at h
    · cases h
    · rename_i hp
      rw [readK_snoc, if_neg hp]
      exact ih h
theorem last_some {B : List (List UInt8)} {n : Nat} (L : List (Nat × List UInt8)) : ∀ {k : Nat}, lastAt L n = some k → ∃ b, L[k]? = some (n, b) ∧ readK B L n = b := by
  induction L using snocInd with
  | h0 => intro k h; cases h
  | h1 l p ih =>
    intro k h
    rw [last_snoc] at h
    split at h
    · rename_i hp
      injection h with h
      subst h hp
      exact ⟨p.2, by simp, by rw [readK_snoc, if_pos rfl]⟩
    · rename_i hp
      obtain ⟨b, h1, h2⟩ := ih h
      exact ⟨b, by rw [List.getElem?_append_left (List.getElem?_eq_some_iff.1 h1).1]; exact h1, by rw [readK_snoc, if_neg hp]; exact h2⟩
/-- What a map of settled blocks holds. -/
def SBk (es : List EntI) (B : List (List UInt8)) : Prop := ∀ n, n < B.length → (lookI es ((n : Nat) : Int)).getD (.agg (bvs zeroB)) = .agg (bvs (B.getD n []))
def LTk (ls : List EntI) (nb : Nat) (L : List (Nat × List UInt8)) : Prop := ∀ n, n < nb → lookI ls ((n : Nat) : Int) = (lastAt L n).map (fun i => .int .i64 ((i : Nat) : Int))
theorem getD_set' {B : List (List UInt8)} {n m : Nat} {b : List UInt8} (hn : n < B.length) : (B.set n b).getD m [] = if m = n then b else B.getD m [] := by
  rw [List.getD_eq_getElem?_getD, List.getElem?_set, List.getD_eq_getElem?_getD]
  by_cases h : n = m
  · subst h
    rw [if_pos rfl, if_pos rfl, if_pos hn]
    rfl
  · rw [if_neg h, if_neg (Ne.symm h)]
theorem SBk.set {es : List EntI} {B : List (List UInt8)} (h : SBk es B) {n : Nat} (hn : n < B.length) (b : List UInt8) (c : Nat) : SBk (setI ((n : Nat) : Int) (.agg (bvs b)) c es) (B.set n b) := fun m hm => by
  rw [List.length_set] at hm
  rw [look_set, getD_set' hn]
  by_cases e : m = n
  · rw [if_pos (by rw [e]), if_pos e]
    rfl
  · rw [if_neg (by omega), if_neg e]
    exact h m hm
theorem SBk.new (nb : Nat) : SBk [] (List.replicate nb zeroB) := fun n hn => by
  rw [List.length_replicate] at hn
  rw [look_nil, List.getD_eq_getElem?_getD, List.getElem?_replicate, if_pos hn]
  rfl
theorem LTk.nil (nb : Nat) : LTk [] nb [] := fun n hn => rfl
theorem LTk.snoc {ls : List EntI} {nb : Nat} {L : List (Nat × List UInt8)} (h : LTk ls nb L) (p : Nat × List UInt8) (c : Nat) : LTk (setI ((p.1 : Nat) : Int) (.int .i64 ((L.length : Nat) : Int)) c ls) nb (L ++ [p]) := fun n hn => by
  rw [look_set, last_snoc]
  by_cases e : p.1 = n
  · rw [if_pos (by rw [e]), if_pos e]
    rfl
  · rw [if_neg (by omega), if_neg e]
    exact h n hn
/-- How a disk lies. -/
structure DX where
  m : Nat
  q : Nat
  c : Nat
  cq : Nat
  cap : Nat
  A : Option Addr
  es : List EntI
  ls : List EntI
  lf : Int
  t : Hep
def DX.row (X : DX) (D : Dk) : Array Value := dkC ((D.B.length : Nat) : Int) (.map (some X.m)) (.slice X.A D.L.length X.cap) (.map (some X.q)) (decide (0 ≤ D.fuse)) X.lf D.dead
def DX.rows (X : DX) (p : Nat) (D : Dk) : Hep := [(p, .ty 58, X.row D), (X.m, .map (entsI X.es) X.c, #[]), (X.q, .map (entsI X.ls) X.cq, #[])] ++ X.t
structure DX.ok (X : DX) (D : Dk) : Prop where
  od : OutD 82 513 X.t (.slice X.A D.L.length X.cap) D.L.length (dwcs D.L)
  sb : SBk X.es D.B
  lt : LTk X.ls D.B.length D.L
  lf : 0 ≤ X.lf ∧ X.lf < 9223372036854775808 ∧ (0 ≤ D.fuse → X.lf = D.fuse)
  dk : D.ok
  nb : 0 < D.B.length ∧ D.B.length ≤ 8192
  nl : D.L.length ≤ 10000
/-- A disk in told rows. -/
def PO (p : Nat) (D : Dk) (r : Hep) : Prop := ∃ X : DX, r = X.rows p D ∧ X.ok D
theorem DX.ok.l512 {X : DX} {D : Dk} (h : X.ok D) : ∀ p ∈ D.L, p.2.length = 512 := fun p hp => (h.dk.L p hp).2
theorem DX.ok.b512 {X : DX} {D : Dk} (h : X.ok D) {n : Nat} (hn : n < D.B.length) : (D.B.getD n []).length = 512 := getD_len h.dk.B hn
/-- A row of writes: where it stands, its cells. -/
theorem DX.ok.at_ {X : DX} {D : Dk} (h : X.ok D) : ∃ (g : Nat) (cur : Array Value), 0 < D.L.length → X.A = some ⟨g, 0, none⟩ ∧ (g, .ty 82, cur) ∈ X.t ∧ cur.toList.take (D.L.length * 513) = dwcs D.L := by
  rcases h.od with ⟨_, _, h0, _⟩ | ⟨g, cap, cur, e1, e2, _, _, _, h4⟩
  · exact ⟨0, #[], fun hp => by omega⟩
  · injection e2 with e2 _ _
    exact ⟨g, cur, fun _ => ⟨e2, by rw [e1]; exact List.mem_singleton.2 rfl, h4⟩⟩
theorem read_len {D : Dk} (h : D.ok) {n : Nat} (hn : n < D.B.length) : (readB D n).length = 512 := by
  unfold readB
  cases hq : lastAt D.L n with
  | none => rw [last_none _ hq]; exact getD_len h.B hn
  | some k =>
    obtain ⟨b, h1, h2⟩ := last_some (B := D.B) _ hq
    rw [h2]
    exact (h.L _ (List.mem_iff_getElem?.2 ⟨k, h1⟩)).2
/-- What is read of a block. -/
theorem read_x {X : DX} {p : Nat} {D : Dk} {hh : Hep} {n : Nat} (hX : X.ok D) (hn : n < D.B.length) (w0 w : World) (K : Kn w0 w (X.rows p D ++ hh)) : Calls Try.prog 42 #[.pointer (some ⟨p, 0, none⟩), .int .i64 ((n : Nat) : Int)] w (fun rr w' => rr = .returned (.agg (bvs (readB D n))) ∧ Kn w0 w' (X.rows p D ++ hh)) := by
  obtain ⟨g, cur, hat⟩ := hX.at_
  have hlen := read_len hX.dk hn
  have hlt := hX.lt n hn
  cases hq : lastAt D.L n with
  | none =>
    rw [hq] at hlt
    have e : readB D n = D.B.getD n [] := last_none _ hq
    rw [e]
    exact read_old (t := X.t) n (D.B.getD n []) (hX.b512 hn) hlt (hX.sb n hn) w0 w K
  | some k =>
    rw [hq] at hlt
    obtain ⟨b, h1, h2⟩ := last_some (B := D.B) _ hq
    have hk : k < D.L.length := (List.getElem?_eq_some_iff.1 h1).1
    obtain ⟨h3, h4, h5⟩ := hat (by omega)
    have e : readB D n = b := h2
    rw [e] at hlen ⊢
    exact read_new (t := X.t) n b hlen hlt h3 hk h4 (fun W hW => ld_bAt (p := (n, b)) hX.l512 h5 h1 W hW) w0 w K
/-! Settling, one by one. -/
def BK (L : List (Nat × List UInt8)) (ks : Nat → Nat) (B : List (List UInt8)) : Nat → List (List UInt8)
  | 0 => B
  | k + 1 => (BK L ks B k).set (L.getD k (0, [])).1 (tornB (ks k) (L.getD k (0, [])).2 ((BK L ks B k).getD (L.getD k (0, [])).1 []))
def EK (L : List (Nat × List UInt8)) (ks : Nat → Nat) (B : List (List UInt8)) (es : List EntI) (c : Nat) : Nat → List EntI × Nat
  | 0 => (es, c)
  | k + 1 => (setI (((L.getD k (0, [])).1 : Nat) : Int) (.agg (bvs (tornB (ks k) (L.getD k (0, [])).2 ((BK L ks B k).getD (L.getD k (0, [])).1 [])))) (EK L ks B es c k).2 (EK L ks B es c k).1, clockI (EK L ks B es c k).1 (((L.getD k (0, [])).1 : Nat) : Int) (EK L ks B es c k).2)
section
variable {L : List (Nat × List UInt8)} {ks : Nat → Nat} {B : List (List UInt8)} {es : List EntI} {c : Nat}
theorem BK_succ (k : Nat) : BK L ks B (k + 1) = (BK L ks B k).set (L.getD k (0, [])).1 (tornB (ks k) (L.getD k (0, [])).2 ((BK L ks B k).getD (L.getD k (0, [])).1 [])) := rfl
theorem EK_succ (k : Nat) : EK L ks B es c (k + 1) = (setI (((L.getD k (0, [])).1 : Nat) : Int) (.agg (bvs (tornB (ks k) (L.getD k (0, [])).2 ((BK L ks B k).getD (L.getD k (0, [])).1 [])))) (EK L ks B es c k).2 (EK L ks B es c k).1, clockI (EK L ks B es c k).1 (((L.getD k (0, [])).1 : Nat) : Int) (EK L ks B es c k).2) := rfl
theorem BK_len (k : Nat) : (BK L ks B k).length = B.length := by
  induction k with
  | zero => rfl
  | succ k ih => exact List.length_set.trans ih
theorem get_of {k : Nat} {p : Nat × List UInt8} (h : L[k]? = some p) : L.getD k (0, []) = p := by rw [List.getD_eq_getElem?_getD, h]; rfl
theorem BK_all (hB : ∀ b ∈ B, b.length = 512) (hL : ∀ p ∈ L, p.1 < B.length ∧ p.2.length = 512) (hks : ∀ k, ks k ≤ 512) : ∀ k, k ≤ L.length → ∀ b ∈ BK L ks B k, b.length = 512
  | 0, _, b, hb => hB b hb
  | k + 1, hk, b, hb => by
    have hl : L[k]? = some L[k] := List.getElem?_eq_getElem (by omega)
    have ih := BK_all hB hL hks k (by omega)
    obtain ⟨h1, h2⟩ := hL _ (List.getElem_mem (show k < L.length by omega))
    rw [BK_succ, get_of hl] at hb
    rcases List.mem_or_eq_of_mem_set hb with hb | hb
    · exact ih b hb
    · rw [hb]
      exact torn_len (hks k) h2 (getD_len ih (by rw [BK_len]; exact h1))
theorem EK_ok (hs : SBk es B) (hL : ∀ p ∈ L, p.1 < B.length) : ∀ k, k ≤ L.length → SBk (EK L ks B es c k).1 (BK L ks B k)
  | 0, _ => hs
  | k + 1, hk => by
    have hl : L[k]? = some L[k] := List.getElem?_eq_getElem (by omega)
    have ih := EK_ok hs hL k (by omega)
    rw [EK_succ, BK_succ, get_of hl]
    exact ih.set (by rw [BK_len]; exact hL _ (List.getElem_mem (show k < L.length by omega))) _ _
theorem BK_settle (hB : ∀ b ∈ B, b.length = 512) (hL : ∀ p ∈ L, p.1 < B.length ∧ p.2.length = 512) (k : Nat) (hk : k ≤ L.length) : settle (L.drop k) (BK L (fun _ => 512) B k) = BK L (fun _ => 512) B L.length := by
  obtain ⟨j, hj⟩ : ∃ j, L.length = k + j := ⟨L.length - k, by omega⟩
  induction j generalizing k with
  | zero =>
    obtain rfl : k = L.length := by omega
    rw [List.drop_length]
    rfl
  | succ j ih =>
    have hl : L[k]? = some L[k] := List.getElem?_eq_getElem (by omega)
    rw [← ih (k + 1) (by omega) (by omega), List.drop_eq_getElem_cons (show k < L.length by omega)]
    obtain ⟨h1, h2⟩ := hL _ (List.getElem_mem (show k < L.length by omega))
    show settle (L.drop (k + 1)) ((BK L (fun _ => 512) B k).set L[k].1 L[k].2) = _
    congr 1
    rw [BK_succ, get_of hl, torn_all h2 (Nat.le_of_eq (getD_len (BK_all hB hL (fun _ => Nat.le_refl _) k (by omega)) (by rw [BK_len]; exact h1)))]
theorem set_self {B : List (List UInt8)} {n : Nat} (hn : n < B.length) : B.set n (B.getD n []) = B := by
  apply List.ext_getElem?
  intro i
  rw [List.getElem?_set]
  split
  · rename_i e
    subst e
    first | rw [if_pos hn] | skip
    rw [List.getElem?_eq_getElem hn, List.getD_eq_getElem?_getD, List.getElem?_eq_getElem hn]
    rfl
  · rfl
theorem torn_0 (b old : List UInt8) : tornB 0 b old = old := rfl
theorem BK_crash {picks : List Int} (hL : ∀ p ∈ L, p.1 < B.length) (hks : ∀ k, k < L.length → ks k = lastN (picks.getD k 0) (decide (k + 1 = L.length))) (k : Nat) (hk : k ≤ L.length) : crashB picks k (L.drop k) (BK L ks B k) = BK L ks B L.length := by
  obtain ⟨j, hj⟩ : ∃ j, L.length = k + j := ⟨L.length - k, by omega⟩
  induction j generalizing k with
  | zero =>
    obtain rfl : k = L.length := by omega
    rw [List.drop_length]
    rfl
  | succ j ih =>
    have hl : L[k]? = some L[k] := List.getElem?_eq_getElem (by omega)
    rw [← ih (k + 1) (by omega) (by omega), List.drop_eq_getElem_cons (show k < L.length by omega)]
    have h1 := hL _ (List.getElem_mem (show k < L.length by omega))
    have he : (L.drop (k + 1)).isEmpty = decide (k + 1 = L.length) := by
      rw [Bool.eq_iff_iff, List.isEmpty_iff, List.drop_eq_nil_iff, decide_eq_true_eq]
      omega
    show crashB picks (k + 1) (L.drop (k + 1)) _ = _
    congr 1
    rw [he, BK_succ, get_of hl, hks k (by omega)]
    unfold lastN
    cases lastsB (picks.getD k 0) (decide (k + 1 = L.length)) with
    | none =>
      rw [Option.getD_none, torn_0, set_self (by rw [BK_len]; exact h1)]
    | some z => rfl
end
theorem lastN_le (p : Int) (b : Bool) : lastN p b ≤ 512 := by
  unfold lastN
  cases h : lastsB p b with
  | none => exact Nat.zero_le _
  | some k => exact lasts_le h
end Go.Proofs.Ytiebelmglchbdaa
