/- Plain facts for WireMeans: blobs behind one another are parted in one way; bytes in the order of numbers; what hex writes is read again. -/
import Derived.Test.YtfjjpepnadcaaaaUnhexPure
import Derived.Test.YtfjjpepnadcaaaaPure
namespace Go.Proofs.Ytfjjpepnadcaaaa
set_option linter.unusedVariables false
open Go Go.RowKit

/-- Each part as a blob, one behind the other. -/
def blobsL (L : List (List UInt8)) : List UInt8 := (L.map fun l => be l.length 2 ++ l).flatten
theorem blobsL_nil : blobsL [] = [] := rfl
theorem blobsL_cons (l : List UInt8) (L : List (List UInt8)) : blobsL (l :: L) = (be l.length 2 ++ l) ++ blobsL L := rfl
theorem blobsL_snoc (L : List (List UInt8)) (l : List UInt8) : blobsL (L ++ [l]) = blobsL L ++ (be l.length 2 ++ l) := by simp [blobsL]
theorem blobsL_len (L : List (List UInt8)) : (blobsL L).length = 2 * L.length + L.flatten.length := by
  induction L with
  | nil => rfl
  | cons l L ih =>
    rw [blobsL_cons, List.length_append, List.length_append, be_len, ih, List.length_cons, List.flatten_cons, List.length_append]
    omega
/-- Rows of blobs with the same bytes are the same rows. -/
theorem blobsL_inj : ∀ (L M : List (List UInt8)), (∀ l ∈ L, l.length < 65536) → (∀ l ∈ M, l.length < 65536) → blobsL L = blobsL M → L = M := by
  intro L
  induction L with
  | nil =>
    intro M _ _ h
    cases M with
    | nil => rfl
    | cons m M =>
      have := congrArg List.length h
      rw [blobsL_nil, blobsL_cons, List.length_append, List.length_append, be_len, List.length_nil] at this
      omega
  | cons l L ih =>
    intro M hL hM h
    cases M with
    | nil =>
      have := congrArg List.length h
      rw [blobsL_nil, blobsL_cons, List.length_append, List.length_append, be_len, List.length_nil] at this
      omega
    | cons m M =>
      rw [blobsL_cons, blobsL_cons, List.append_assoc, List.append_assoc] at h
      have h1 := List.append_inj h (by rw [be_len, be_len])
      have hn : l.length = m.length := by
        have a := num_be l.length 2
        have b := num_be m.length 2
        rw [h1.1, b] at a
        have c := hL l (by simp)
        have d := hM m (by simp)
        have hp : (256 : Nat) ^ 2 = 65536 := by decide
        rw [hp] at a
        omega
      have h2 := List.append_inj h1.2 hn
      rw [h2.1, ih M (fun x hx => hL x (by simp [hx])) (fun x hx => hM x (by simp [hx])) h2.2]

/-- Is the one list of bytes ahead of the other one? -/
def lexB : List UInt8 → List UInt8 → Bool
  | _, [] => false
  | [], _ :: _ => true
  | x :: a, y :: b => decide (x < y) || (x == y && lexB a b)
theorem lexB_num : ∀ (a b : List UInt8), a.length = b.length → lexB a b = decide (num a < num b) := by
  intro a
  induction a with
  | nil => intro b h; cases b with
    | nil => simp [lexB, num]
    | cons y b => simp at h
  | cons x a ih =>
    intro b h
    cases b with
    | nil => simp at h
    | cons y b =>
      have hl : a.length = b.length := by simpa using h
      have ha := num_lt a
      have hb := num_lt b
      rw [lexB, ih b hl, num_cons, num_cons, hl]
      rw [hl] at ha
      rw [Bool.eq_iff_iff]
      simp only [Bool.or_eq_true, decide_eq_true_eq, Bool.and_eq_true, beq_iff_eq]
      have hp : 0 < 256 ^ b.length := Nat.pow_pos (by omega)
      constructor
      · rintro (h1 | ⟨rfl, h1⟩)
        · have h2 : x.toNat + 1 ≤ y.toNat := h1
          have h3 : (x.toNat + 1) * 256 ^ b.length ≤ y.toNat * 256 ^ b.length := Nat.mul_le_mul_right _ h2
          rw [Nat.add_mul] at h3
          omega
        · omega
      · intro h1
        by_cases h2 : x.toNat < y.toNat
        · exact .inl h2
        · right
          have h3 : y.toNat ≤ x.toNat := by omega
          by_cases h4 : x.toNat = y.toNat
          · refine ⟨UInt8.toNat_inj.1 h4, ?_⟩
            rw [h4] at h1
            omega
          · exfalso
            have h5 : (y.toNat + 1) * 256 ^ b.length ≤ x.toNat * 256 ^ b.length := Nat.mul_le_mul_right _ (by omega)
            rw [Nat.add_mul] at h5
            omega

/-- What hex writes is read again. -/
theorem digN_hexd (n : Nat) (h : n < 16) : digN (hexd n).toNat = n := by
  have : ∀ m : Fin 16, digN (hexd m.1).toNat = m.1 := by decide
  exact this ⟨n, h⟩
theorem hex_at : ∀ (l : List UInt8) (j : Nat) (x : UInt8), l[j]? = some x → (hex l)[2 * j]? = some (hexd (x.toNat / 16)) ∧ (hex l)[2 * j + 1]? = some (hexd (x.toNat % 16)) := by
  intro l
  induction l with
  | nil => intro j x h; simp at h
  | cons y l ih =>
    intro j x h
    have e : hex (y :: l) = hexd (y.toNat / 16) :: hexd (y.toNat % 16) :: hex l := rfl
    cases j with
    | zero =>
      simp at h
      subst h
      rw [e]
      exact ⟨rfl, rfl⟩
    | succ j =>
      have := ih j x (by simpa using h)
      rw [e, show 2 * (j + 1) = 2 * j + 1 + 1 by omega, show 2 * j + 1 + 1 + 1 = (2 * j + 1) + 1 + 1 by omega]
      exact ⟨by simpa using this.1, by simpa using this.2⟩
theorem hex_ok_all (l : List UInt8) : okB (hex l) = true ∧ unhex (hex l) ((hex l).length / 2) = l := by
  have hlen := hex_len l
  have key : ∀ j, j < l.length → dg (hex l) (2 * j) = (l.getD j 0).toNat / 16 ∧ dg (hex l) (2 * j + 1) = (l.getD j 0).toNat % 16 := by
    intro j hj
    have hx := List.getElem?_eq_getElem hj
    have h1 := hex_at l j _ hx
    have hlt := byte_lt l[j]
    have e : l.getD j 0 = l[j] := by simp [List.getD, hx]
    rw [dg_of h1.1, dg_of h1.2, digN_hexd _ (by omega), digN_hexd _ (by omega), e]
    exact ⟨rfl, rfl⟩
  constructor
  · refine ok_yes (by omega) fun k hk => ?_
    have hj : k / 2 < l.length := by omega
    have := key (k / 2) hj
    have hlt := byte_lt (l.getD (k / 2) 0)
    by_cases h2 : k % 2 = 0
    · rw [show k = 2 * (k / 2) by omega, this.1]; omega
    · rw [show k = 2 * (k / 2) + 1 by omega, this.2]; omega
  · rw [hlen, show 2 * l.length / 2 = l.length by omega]
    apply List.ext_getElem?
    intro j
    unfold unhex
    rw [List.getElem?_map]
    by_cases hj : j < l.length
    · rw [List.getElem?_range hj, List.getElem?_eq_getElem hj]
      have := key j hj
      have hlt := byte_lt (l.getD j 0)
      have e : l.getD j 0 = l[j] := by simp [List.getD, List.getElem?_eq_getElem hj]
      simp only [Option.map_some, Option.some.injEq, unhexN]
      rw [this.1, this.2, e]
      rw [show 16 * (l[j].toNat / 16) + l[j].toNat % 16 = l[j].toNat by omega]
      simp
    · rw [List.getElem?_eq_none (by simp; omega), List.getElem?_eq_none (by omega)]
      rfl
end Go.Proofs.Ytfjjpepnadcaaaa
