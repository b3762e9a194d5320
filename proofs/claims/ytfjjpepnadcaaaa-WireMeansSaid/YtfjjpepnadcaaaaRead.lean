/- Walks of the readers: Read, Number, Bytes, Blob, Key, Left, End, fail, begun. -/
import Derived.Test.YtfjjpepnadcaaaaJoin
namespace Go.Proofs.Ytfjjpepnadcaaaa
set_option linter.unusedVariables false
open Go.RowKit

/-! begun, fail -/
set_option maxHeartbeats 400000 in
theorem begun_nil (w : World) : Calls Try.prog 41 #[.pointer none] w fun e w' => e = .returned (.bool false) ∧ w = w' := by
  go_enter Try.func41, Try.ntmps41
  go_wp2
  go_ret
  exact ⟨rfl, rfl⟩
set_option maxHeartbeats 400000 in
theorem begun_any (g : Nat) (s : Int) (v : Value) (w : World) (hb : Blk w g 68 #[.int .i64 s, v]) (h : (s != 0) = true) :
    Calls Try.prog 41 #[.pointer (some ⟨g, 0, none⟩)] w fun e w' => e = .returned (.bool true) ∧ w = w' := by
  have hc := hb.cell 0
  simp at hc
  go_enter Try.func41, Try.ntmps41
  go_wp2
  go_ret
  exact ⟨rfl, rfl⟩
set_option maxHeartbeats 400000 in
theorem begun_zero (g : Nat) (v : Value) (w : World) (hb : Blk w g 68 #[.int .i64 0, v]) :
    Calls Try.prog 41 #[.pointer (some ⟨g, 0, none⟩)] w fun e w' => e = .returned (.bool false) ∧ w = w' := by
  have hc := hb.cell 0
  simp at hc
  go_enter Try.func41, Try.ntmps41
  go_wp2
  go_ret
  exact ⟨rfl, rfl⟩
set_option maxHeartbeats 400000 in
theorem fail_nil (w : World) : Calls Try.prog 40 #[.pointer none] w fun e w' => e = .returned (.tuple #[]) ∧ w = w' := by
  go_enter Try.func40, Try.ntmps40
  go_wp2_with (go_at_call 41; refine (begun_nil _).mono ?_; rintro e w' ⟨rfl, rfl⟩)
  go_end0
  exact ⟨rfl, rfl⟩
set_option maxHeartbeats 400000 in
theorem fail_any (g : Nat) (s : Int) (v : Value) (w : World) (hb : Blk w g 68 #[.int .i64 s, v]) (h : (s != 0) = true) :
    Calls Try.prog 40 #[.pointer (some ⟨g, 0, none⟩)] w fun e w' => e = .returned (.tuple #[]) ∧ Blk w' g 68 #[.int .i64 2, .slice none 0 0] ∧ w.grownBy w' (some g) := by
  have hc := hb.cell 0
  have hc1 := hb.cell 1
  have hf := hb.frozen 0
  have hf1 := hb.frozen 1
  simp at hc hc1
  go_enter Try.func40, Try.ntmps40
  go_wp2_with (go_at_call 41; refine (begun_any _ _ _ _ hb h).mono ?_; rintro e w' ⟨rfl, rfl⟩)
  go_end0
  refine ⟨rfl, ?_, grown_trans (grown_set _ _ _ _) (grown_set _ _ _ _)⟩
  simpa using (hb.set_ 0 (.int .i64 2)).set_ 1 (.slice none 0 0)

/-- The code's reader in block g: what is left to read; 'none': it has failed. What it reads lies below g. -/
def Rd (w : World) (g : Nat) : Option (List UInt8) → Prop
  | none => ∃ A, Blk w g 68 #[.int .i64 2, .slice A 0 0]
  | some l => ∃ A n c, Blk w g 68 #[.int .i64 1, .slice A n c] ∧ BS w g A n c l ∧ n ≤ 1000000000
theorem Rd.lt {w : World} {g : Nat} {st : Option (List UInt8)} (h : Rd w g st) : g < w.heap.size := by
  cases st with
  | none => obtain ⟨_, h⟩ := h; exact Blk.lt h
  | some l => obtain ⟨_, _, _, h, _⟩ := h; exact h.lt
theorem Rd.drew {w : World} {g : Nat} {st : Option (List UInt8)} (h : Rd w g st) : Rd w.drew g st := by
  cases st with
  | none => exact h
  | some l => obtain ⟨A, n, c, h1, h2, h3⟩ := h; exact ⟨A, n, c, h1.drew, h2.drew, h3⟩
theorem Rd.drewN {w : World} {g : Nat} {st : Option (List UInt8)} (h : Rd w g st) (k : Nat) : Rd (w.drewN k) g st := by
  cases st with
  | none => exact h
  | some l => obtain ⟨A, n, c, h1, h2, h3⟩ := h; exact ⟨A, n, c, h1.drewN k, h2.drewN k, h3⟩
theorem Rd.below {w w' : World} {g B : Nat} {st : Option (List UInt8)} (h : Rd w g st) (hb : Below B w w') (hB : g < B) : Rd w' g st := by
  cases st with
  | none => obtain ⟨A, h⟩ := h; exact ⟨A, Blk.below h hb hB⟩
  | some l => obtain ⟨A, n, c, h1, h2, h3⟩ := h; exact ⟨A, n, c, h1.below hb hB, h2.below (hb.mono (by omega)), h3⟩
/-- A block behind the reader turns. -/
theorem Rd.other {w w' : World} {g r : Nat} {st : Option (List UInt8)} (h : Rd w g st) (hg : w.grownBy w' (some r)) (hr : g < r) : Rd w' g st := by
  have hlt := h.lt
  cases st with
  | none => obtain ⟨A, h⟩ := h; exact ⟨A, Blk.row h hg (by omega)⟩
  | some l => obtain ⟨A, n, c, h1, h2, h3⟩ := h; exact ⟨A, n, c, h1.row hg (by omega), h2.grown hg (by omega) (by intro k hk; injection hk with hk; omega), h3⟩

/-- What a call for n bytes leaves, and what it hands back. -/
def cutS : Option (List UInt8) → Int → Option (List UInt8)
  | none, _ => none
  | some l, n => if 0 ≤ n ∧ n ≤ l.length then some (l.drop n.toNat) else none
def cutV : Option (List UInt8) → Int → List UInt8
  | none, _ => []
  | some l, n => if 0 ≤ n ∧ n ≤ l.length then l.take n.toNat else []
/-- What Bytes leaves. -/
def BytesPost (w : World) (g : Nat) (st : Option (List UInt8)) (v : List UInt8) (e : Ending) (w' : World) : Prop :=
  ∃ A n c, e = .returned (.slice A n c) ∧ BS w' g A n c v ∧ Rd w' g st ∧ w.grownBy w' (some g)

set_option maxHeartbeats 400000 in
theorem bytes_nil (n : Int) (w : World) : Calls Try.prog 26 #[.pointer none, .int .i64 n] w fun e w' => e = .returned (.slice none 0 0) ∧ w = w' := by
  go_enter Try.func26, Try.ntmps26
  go_wp2_with (first | (go_at_call 41; refine (begun_nil _).mono ?_; rintro e w' ⟨rfl, rfl⟩) | (go_at_call 40; refine (fail_nil _).mono ?_; rintro e w' ⟨rfl, rfl⟩))
  go_ret
  exact ⟨rfl, rfl⟩
set_option maxHeartbeats 400000 in
theorem bytes_out (g : Nat) (s : Int) (A : Option Addr) (m c : Nat) (n : Int) (w : World) (hb : Blk w g 68 #[.int .i64 s, .slice A m c]) (hs : (s != 0) = true) (hn : n < 0 ∨ (m : Int) < n) :
    Calls Try.prog 26 #[.pointer (some ⟨g, 0, none⟩), .int .i64 n] w fun e w' => e = .returned (.slice none 0 0) ∧ Blk w' g 68 #[.int .i64 2, .slice none 0 0] ∧ w.grownBy w' (some g) := by
  have hc := hb.cell 1
  simp at hc
  have key : ∀ W : World, W = w → Calls Try.prog 40 #[.pointer (some ⟨g, 0, none⟩)] W fun e w' => e = .returned (.tuple #[]) ∧ Blk w' g 68 #[.int .i64 2, .slice none 0 0] ∧ w.grownBy w' (some g) := by
    rintro W rfl; exact fail_any g s _ W hb hs
  have HK := Lib.hid key
  clear key
  rcases hn with hn | hn
  · go_enter Try.func26, Try.ntmps26
    go_wp2_with (first | (go_at_call 41; refine (begun_any _ _ _ _ hb hs).mono ?_; rintro e w' ⟨rfl, rfl⟩) | (go_at_call 40; refine (HK.out _ rfl).mono ?_; rintro e w1 ⟨rfl, hb1, hg1⟩))
    go_ret
    exact ⟨rfl, hb1, hg1⟩
  · go_enter Try.func26, Try.ntmps26
    go_wp2_with (first | (go_at_call 41; refine (begun_any _ _ _ _ hb hs).mono ?_; rintro e w' ⟨rfl, rfl⟩) | (go_at_call 40; refine (HK.out _ rfl).mono ?_; rintro e w1 ⟨rfl, hb1, hg1⟩))
    all_goals
      go_ret
      exact ⟨rfl, hb1, hg1⟩
set_option maxHeartbeats 400000 in
theorem bytes_in (g : Nat) (s : Int) (A : Option Addr) (m c k : Nat) (l : List UInt8) (w : World) (hb : Blk w g 68 #[.int .i64 s, .slice A m c]) (hs : (s != 0) = true) (hl : BS w g A m c l) (hk : k ≤ m) (hm : m ≤ 1000000000) :
    Calls Try.prog 26 #[.pointer (some ⟨g, 0, none⟩), .int .i64 k] w fun e w' => ∃ A', e = .returned (.slice A k k) ∧ Blk w' g 68 #[.int .i64 s, .slice A' (m - k) (c - k)] ∧ BS w' g A' (m - k) (c - k) (l.drop k) ∧ w.grownBy w' (some g) := by
  have hc := hb.cell 1
  have hf := hb.frozen 1
  simp at hc
  have hkc := hl.cap
  have h1 := fun W => run_head (P := Try.prog) 23 5 Try.underlying23 info_u8 A m c k (by omega) W
  obtain ⟨A', h2, h3⟩ := hl.tail (P := Try.prog) 23 5 Try.underlying23 info_u8 hk
  go_enter Try.func26, Try.ntmps26
  go_wp2_with (first | (go_at_call 41; refine (begun_any _ _ _ _ hb hs).mono ?_; rintro e w' ⟨rfl, rfl⟩))
  go_ret
  exact ⟨A', rfl, by simpa using hb.set_ 1 (.slice A' (m - k) (c - k)), h3.row (grown_set _ _ _ _) (by have := hb.lt; omega), grown_set _ _ _ _⟩

theorem bytes_any (g : Nat) (st : Option (List UInt8)) (n : Int) (w : World) (h : Rd w g st) :
    Calls Try.prog 26 #[.pointer (some ⟨g, 0, none⟩), .int .i64 n] w (BytesPost w g (cutS st n) (cutV st n)) := by
  have hlt := h.lt
  cases st with
  | none =>
    obtain ⟨A, h⟩ := h
    by_cases h0 : n = 0
    · subst h0
      refine (bytes_in g 2 A 0 0 0 [] w h rfl ⟨rfl, Nat.le_refl _, fun _ => rfl, fun hh => absurd hh (by omega)⟩ (Nat.le_refl _) (by omega)).mono ?_
      rintro e w' ⟨A', rfl, h1, h2, h3⟩
      exact ⟨A, 0, 0, rfl, ⟨rfl, Nat.le_refl _, fun _ => rfl, fun hh => absurd hh (by omega)⟩, ⟨A', h1⟩, h3⟩
    · refine (bytes_out g 2 A 0 0 n w h rfl (by omega)).mono ?_
      rintro e w' ⟨rfl, h1, h2⟩
      exact ⟨none, 0, 0, rfl, BS.nil _ _, ⟨none, h1⟩, h2⟩
  | some l =>
    obtain ⟨A, m, c, h1, h2, h3⟩ := h
    have hl := h2.len
    by_cases h0 : 0 ≤ n ∧ n ≤ l.length
    · obtain ⟨k, rfl⟩ := Int.eq_ofNat_of_zero_le h0.1
      have hk : k ≤ m := by have := h0.2; omega
      refine (bytes_in g 1 A m c k l w h1 rfl h2 hk h3).mono ?_
      rintro e w' ⟨A', rfl, h4, h5, h6⟩
      have e1 : cutS (some l) (k : Int) = some (l.drop k) := by simp [cutS, h0.2]
      have e2 : cutV (some l) (k : Int) = l.take k := by simp [cutV, h0.2]
      rw [e1, e2]
      exact ⟨A, k, k, rfl, (h2.row h6 (by omega)).head hk, ⟨A', m - k, c - k, h4, h5, by omega⟩, h6⟩
    · refine (bytes_out g 1 A m c n w h1 rfl (by omega)).mono ?_
      rintro e w' ⟨rfl, h4, h5⟩
      have e1 : cutS (some l) n = none := by simp only [cutS]; rw [if_neg h0]
      have e2 : cutV (some l) n = [] := by simp only [cutV]; rw [if_neg h0]
      rw [e1, e2]
      exact ⟨none, 0, 0, rfl, BS.nil _ _, ⟨none, h4⟩, h5⟩

theorem fail_rd (g : Nat) (st : Option (List UInt8)) (w : World) (h : Rd w g st) :
    Calls Try.prog 40 #[.pointer (some ⟨g, 0, none⟩)] w fun e w' => e = .returned (.tuple #[]) ∧ Rd w' g none ∧ w.grownBy w' (some g) := by
  cases st with
  | none =>
    obtain ⟨A, h⟩ := h
    exact (fail_any g 2 _ w h rfl).mono fun _ _ ⟨h1, h2, h3⟩ => ⟨h1, ⟨_, h2⟩, h3⟩
  | some l =>
    obtain ⟨A, m, c, h1, h2, h3⟩ := h
    exact (fail_any g 1 _ w h1 rfl).mono fun _ _ ⟨h1, h2, h3⟩ => ⟨h1, ⟨_, h2⟩, h3⟩

/-! Number -/
def sizeB (K : Int) : Bool := decide (1 ≤ K ∧ K ≤ 8)
def numS (st : Option (List UInt8)) (K : Int) : Option (List UInt8) := if sizeB K then cutS st K else none
def numV (st : Option (List UInt8)) (K : Int) : Nat := if sizeB K then num (cutV st K) else 0
theorem cutV_len (st : Option (List UInt8)) (K : Int) : (cutV st K = [] ∧ (cutS st K = none ∨ K = 0)) ∨ ((cutV st K).length : Int) = K := by
  cases st with
  | none => left; exact ⟨rfl, .inl rfl⟩
  | some l =>
    by_cases h : 0 ≤ K ∧ K ≤ l.length
    · right
      simp only [cutV]; rw [if_pos h, List.length_take]; omega
    · left
      simp only [cutV, cutS]; rw [if_neg h, if_neg h]; exact ⟨rfl, .inl rfl⟩
def NumPost (w : World) (g : Nat) (st : Option (List UInt8)) (v : Nat) (e : Ending) (w' : World) : Prop :=
  e = .returned (.int .u64 v) ∧ Rd w' g st ∧ w.grownBy w' (some g)
set_option maxHeartbeats 400000 in
theorem number_nil (K : Int) (w : World) : Calls Try.prog 24 #[.pointer none, .int .i64 K] w fun e w' => e = .returned (.int .u64 0) ∧ w = w' := by
  go_enter Try.func24, Try.ntmps24
  go_wp2_with (first | (go_at_call 26; refine (bytes_nil _ _).mono ?_; rintro e w' ⟨rfl, rfl⟩) | (go_at_call 10; refine (get_no _ 0 _ _ (by omega)).mono ?_; rintro e w' ⟨rfl, rfl⟩) | (go_at_call 40; refine (fail_nil _).mono ?_; rintro e w' ⟨rfl, rfl⟩))
  go_ret
  exact ⟨rfl, rfl⟩
set_option maxHeartbeats 400000 in
theorem number_any (g : Nat) (st : Option (List UInt8)) (K : Int) (w : World) (h : Rd w g st) :
    Calls Try.prog 24 #[.pointer (some ⟨g, 0, none⟩), .int .i64 K] w (NumPost w g (numS st K) (numV st K)) := by
  have hcl := cutV_len st K
  have HC := Lib.hid hcl
  clear hcl
  go_enter Try.func24, Try.ntmps24
  go_wp2_with (fail)
  refine (bytes_any g st K _ h).mono ?_
  rintro e w1 ⟨A, n, c, rfl, hbs, hrd, hg⟩
  go_wp2_with (fail)
  by_cases hn : 1 ≤ n ∧ n ≤ 8
  · refine (get_ok A n c g _ _ hbs hn.1 hn.2).mono ?_
    rintro e w' ⟨rfl, rfl⟩
    have HG := Lib.hid hg
    clear hg
    go_wp2_with (fail)
    go_ret
    have hK : sizeB K = true := by
      have := hbs.len
      rcases HC.out with ⟨h1, _⟩ | h1
      · rw [h1] at this; simp at this; omega
      · simp [sizeB]; omega
    refine ⟨?_, ?_, HG.out⟩
    · simp only [numV, hK, if_true]; rfl
    · simp only [numS, hK, if_true]; exact hrd
  · refine (get_no A n c _ (by omega)).mono ?_
    rintro e w' ⟨rfl, rfl⟩
    have HG := Lib.hid hg
    have HN := Lib.hid hn
    clear hg hn
    go_wp2_with (fail)
    refine (fail_rd g _ _ hrd).mono ?_
    rintro e w2 ⟨rfl, hrd2, hg2⟩
    go_wp2_with (fail)
    go_ret
    have key : numV st K = 0 ∧ numS st K = none := by
      have hbl := hbs.len
      have hN := HN.out
      cases hs : sizeB K with
      | false => simp [numV, numS, hs]
      | true =>
        simp only [numV, numS, hs, if_true]
        simp [sizeB] at hs
        rcases HC.out with ⟨h1, h2⟩ | h1
        · rcases h2 with h2 | h2
          · rw [h1, h2]; exact ⟨rfl, rfl⟩
          · omega
        · omega
    exact ⟨by rw [key.1]; rfl, by rw [key.2]; exact hrd2, grown_trans HG.out hg2⟩

/-! Blob -/
def blobS (st : Option (List UInt8)) : Option (List UInt8) := cutS (numS st 2) (numV st 2)
def blobV (st : Option (List UInt8)) : List UInt8 := cutV (numS st 2) (numV st 2)
theorem numV_two (st : Option (List UInt8)) : numV st 2 < 65536 := by
  have h : numV st 2 = num (cutV st 2) := rfl
  rw [h]
  rcases cutV_len st 2 with ⟨h1, _⟩ | h1
  · rw [h1]; decide
  · have := num_lt (cutV st 2)
    rw [show (cutV st 2).length = 2 by omega] at this
    simpa using this
set_option maxHeartbeats 400000 in
theorem rblb_nil (w : World) : Calls Try.prog 28 #[.pointer none] w fun e w' => e = .returned (.slice none 0 0) ∧ w = w' := by
  go_enter Try.func28, Try.ntmps28
  go_wp2_with (first | (go_at_call 26; refine (bytes_nil _ _).mono ?_; rintro e w' ⟨rfl, rfl⟩) | (go_at_call 24; refine (number_nil _ _).mono ?_; rintro e w' ⟨rfl, rfl⟩))
  go_ret
  exact ⟨rfl, rfl⟩
set_option maxHeartbeats 400000 in
theorem rblb_any (g : Nat) (st : Option (List UInt8)) (w : World) (h : Rd w g st) :
    Calls Try.prog 28 #[.pointer (some ⟨g, 0, none⟩)] w (BytesPost w g (blobS st) (blobV st)) := by
  have hv := numV_two st
  go_enter Try.func28, Try.ntmps28
  go_wp2_with (fail)
  refine (number_any g st 2 _ h).mono ?_
  rintro e w1 ⟨rfl, hrd, hg⟩
  have HG := Lib.hid hg
  clear hg
  go_wp2_with (fail)
  refine (bytes_any g _ _ _ hrd).mono ?_
  rintro e w2 ⟨A, n, c, rfl, hbs, hrd2, hg2⟩
  go_wp2_with (fail)
  go_ret
  exact ⟨A, n, c, rfl, hbs, hrd2, grown_trans HG.out hg2⟩

/-! Left, End -/
def leftV : Option (List UInt8) → Nat
  | none => 0
  | some l => l.length
def endV : Option (List UInt8) → Int
  | none => 4
  | some l => if l.length = 0 then 0 else 4
set_option maxHeartbeats 400000 in
theorem left_nil (w : World) : Calls Try.prog 32 #[.pointer none] w fun e w' => e = .returned (.int .i64 0) ∧ w = w' := by
  go_enter Try.func32, Try.ntmps32
  go_wp2_with (first | (go_at_call 41; refine (begun_nil _).mono ?_; rintro e w' ⟨rfl, rfl⟩))
  go_ret
  exact ⟨rfl, rfl⟩
set_option maxHeartbeats 400000 in
theorem left_zero (g : Nat) (v : Value) (w : World) (hb : Blk w g 68 #[.int .i64 0, v]) : Calls Try.prog 32 #[.pointer (some ⟨g, 0, none⟩)] w fun e w' => e = .returned (.int .i64 0) ∧ w = w' := by
  go_enter Try.func32, Try.ntmps32
  go_wp2_with (first | (go_at_call 41; refine (begun_zero _ _ _ hb).mono ?_; rintro e w' ⟨rfl, rfl⟩))
  go_ret
  exact ⟨rfl, rfl⟩
set_option maxHeartbeats 400000 in
theorem left_blk (g : Nat) (s : Int) (A : Option Addr) (m c : Nat) (w : World) (hb : Blk w g 68 #[.int .i64 s, .slice A m c]) (hs : (s != 0) = true) :
    Calls Try.prog 32 #[.pointer (some ⟨g, 0, none⟩)] w fun e w' => e = .returned (.int .i64 m) ∧ w = w' := by
  have hc := hb.cell 1
  simp at hc
  go_enter Try.func32, Try.ntmps32
  go_wp2_with (first | (go_at_call 41; refine (begun_any _ _ _ _ hb hs).mono ?_; rintro e w' ⟨rfl, rfl⟩))
  go_ret
  exact ⟨rfl, rfl⟩
theorem left_any (g : Nat) (st : Option (List UInt8)) (w : World) (h : Rd w g st) :
    Calls Try.prog 32 #[.pointer (some ⟨g, 0, none⟩)] w fun e w' => e = .returned (.int .i64 (leftV st)) ∧ w = w' := by
  cases st with
  | none => obtain ⟨A, h⟩ := h; exact left_blk g 2 A 0 0 w h rfl
  | some l =>
    obtain ⟨A, m, c, h1, h2, h3⟩ := h
    have := left_blk g 1 A m c w h1 rfl
    rw [← h2.len] at this
    exact this
set_option maxHeartbeats 400000 in
theorem end_nil (w : World) : Calls Try.prog 33 #[.pointer none] w fun e w' => e = .returned (.int .i64 1) ∧ w = w' := by
  go_enter Try.func33, Try.ntmps33
  go_wp2_with (first | (go_at_call 41; refine (begun_nil _).mono ?_; rintro e w' ⟨rfl, rfl⟩))
  go_ret
  exact ⟨rfl, rfl⟩
set_option maxHeartbeats 400000 in
theorem end_zero (g : Nat) (v : Value) (w : World) (hb : Blk w g 68 #[.int .i64 0, v]) : Calls Try.prog 33 #[.pointer (some ⟨g, 0, none⟩)] w fun e w' => e = .returned (.int .i64 1) ∧ w = w' := by
  go_enter Try.func33, Try.ntmps33
  go_wp2_with (first | (go_at_call 41; refine (begun_zero _ _ _ hb).mono ?_; rintro e w' ⟨rfl, rfl⟩))
  go_ret
  exact ⟨rfl, rfl⟩
set_option maxHeartbeats 400000 in
theorem end_failed (g : Nat) (A : Option Addr) (m c : Nat) (w : World) (hb : Blk w g 68 #[.int .i64 2, .slice A m c]) :
    Calls Try.prog 33 #[.pointer (some ⟨g, 0, none⟩)] w fun e w' => e = .returned (.int .i64 4) ∧ w = w' := by
  have hc := hb.cell 0
  have hc1 := hb.cell 1
  simp at hc hc1
  go_enter Try.func33, Try.ntmps33
  go_wp2_with (first | (go_at_call 41; refine (begun_any _ _ _ _ hb rfl).mono ?_; rintro e w' ⟨rfl, rfl⟩))
  go_ret
  exact ⟨rfl, rfl⟩
set_option maxHeartbeats 400000 in
theorem end_some (g : Nat) (A : Option Addr) (m c : Nat) (w : World) (hb : Blk w g 68 #[.int .i64 1, .slice A m c]) :
    Calls Try.prog 33 #[.pointer (some ⟨g, 0, none⟩)] w fun e w' => e = .returned (.int .i64 (if m = 0 then 0 else 4)) ∧ w = w' := by
  have hc := hb.cell 0
  have hc1 := hb.cell 1
  simp at hc hc1
  by_cases hm : m = 0
  · subst hm
    go_enter Try.func33, Try.ntmps33
    go_wp2_with (first | (go_at_call 41; refine (begun_any _ _ _ _ hb rfl).mono ?_; rintro e w' ⟨rfl, rfl⟩))
    go_ret
    exact ⟨rfl, rfl⟩
  · rw [if_neg hm]
    have hp : 0 < m := by omega
    clear hm
    go_enter Try.func33, Try.ntmps33
    go_wp2_with (first | (go_at_call 41; refine (begun_any _ _ _ _ hb rfl).mono ?_; rintro e w' ⟨rfl, rfl⟩))
    go_ret
    exact ⟨rfl, rfl⟩
theorem end_any (g : Nat) (st : Option (List UInt8)) (w : World) (h : Rd w g st) :
    Calls Try.prog 33 #[.pointer (some ⟨g, 0, none⟩)] w fun e w' => e = .returned (.int .i64 (endV st)) ∧ w = w' := by
  cases st with
  | none => obtain ⟨A, h⟩ := h; exact end_failed g A 0 0 w h
  | some l =>
    obtain ⟨A, m, c, h1, h2, h3⟩ := h
    have := end_some g A m c w h1
    rw [← h2.len] at this
    exact this

/-! Read -/
def ReadPost (l : List UInt8) (w : World) (e : Ending) (w' : World) : Prop :=
  ∃ g, e = .returned (.pointer (some ⟨g, 0, none⟩)) ∧ w.heap.size ≤ g ∧ Rd w' g (some l) ∧ Below w.heap.size w w'
/-- And the reader hangs on nothing but blocks that Read has made. -/
def ReadFar (l : List UInt8) (w : World) (e : Ending) (w' : World) : Prop :=
  ∃ g, e = .returned (.pointer (some ⟨g, 0, none⟩)) ∧ w.heap.size ≤ g ∧ Rd w' g (some l) ∧ Below w.heap.size w w' ∧
    ∀ w2 : World, (∀ k, w.heap.size ≤ k → k < w'.heap.size → w2.heap[k]? = w'.heap[k]?) → Rd w2 g (some l)
set_option maxHeartbeats 400000 in
theorem read_far (A : Option Addr) (n c B : Nat) (l : List UInt8) (w : World) (hl : BS w B A n c l) (hB : B ≤ w.heap.size) (hn : n ≤ 1000000000) :
    Calls Try.prog 23 #[.slice A n c] w (ReadFar l w) := by
  go_enter Try.func23, Try.ntmps23
  go_wp2_with (fail)
  refine (join_ok _ 1 1 _ _ n _ (rs_one hl hB 23) (by simp) (by omega) (Lib.hid (by simp [hl.len])) hn).mono ?_
  rintro e w1 ⟨rfl, hb1, hw1⟩
  rw [size_alloc] at hb1 hw1
  have hs1 := hb1.lt
  go_wp2_with (fail)
  go_ret
  have e : [l].flatten = l := by simp
  rw [e] at hb1
  have hd := (BS.ofBlk hb1 n hl.len.symm w1.heap.size (by omega)).alloc (Nat.le_refl _) (.cells #[.int .i64 1, .slice (some ⟨w.heap.size + 1, 0, none⟩) n n] 68)
  refine ⟨w1.heap.size, rfl, by omega, ⟨_, n, n, Blk.new _ _ _, hd, hn⟩, ?_, fun w2 h2 => ?_⟩
  · exact (((Below.refl _ _).alloc (Nat.le_refl _) _).trans (hw1.mono (by omega))).alloc (by omega) _
  · have q1 : Blk w2 w1.heap.size 68 #[.int .i64 1, .slice (some ⟨w.heap.size + 1, 0, none⟩) n n] := (h2 _ (by omega) (by simp)).trans (Blk.new _ _ _)
    have q2 : Blk w2 (w.heap.size + 1) 5 (bvs l) := (h2 _ (by omega) (by simp; omega)).trans (hb1.alloc _)
    exact ⟨_, n, n, q1, BS.ofBlk q2 n hl.len.symm w1.heap.size (by omega), hn⟩
theorem read_any (A : Option Addr) (n c B : Nat) (l : List UInt8) (w : World) (hl : BS w B A n c l) (hB : B ≤ w.heap.size) (hn : n ≤ 1000000000) :
    Calls Try.prog 23 #[.slice A n c] w (ReadPost l w) :=
  (read_far A n c B l w hl hB hn).mono fun _ _ ⟨g, h1, h2, h3, h4, _⟩ => ⟨g, h1, h2, h3, h4⟩
end Go.Proofs.Ytfjjpepnadcaaaa
