/- The ladder of the curve that is meant, and of its twist: the order of two secrets does not matter; the few points of small order. Only the text on ladders is imported. -/
import Derived.Test.YthlnnoajklmeiaaDoorLd
namespace Go.Proofs.YthlnnoajklmeiaaDoor
set_option linter.unusedVariables false
set_option linter.unusedSimpArgs false

section
variable {p : Nat} [NeZero p]
theorem fq_one_mul (a : Fin p) : 1 * a = a := by grind
theorem two_cancel {i z : Fin p} (h : (1 + 1) * i = 1) (hz : z + z = 0) : z = 0 := by
  have : i * (z + z) = 0 := by rw [hz]; grind
  grind
theorem one_one : (1 : Fin p) * 1 = 1 := by grind
theorem neg_neg_one : (-1 : Fin p) * -1 = 1 := by grind
theorem mul_neg_one (d : Fin p) : d * -1 = -d := by grind
/-- Who has no root has it with another one that has none. -/
theorem root_or {e : Nat} {i d : Fin p} (hp : IsPrime p) (he : p = 8 * e + 5) (hi : i * i = -1) (hd : d ^ (4 * e + 2) = -1) (w : Fin p) : (∃ r : Fin p, r * r = w) ∨ ∃ r : Fin p, r * r = d * w := by
  have key : ∀ x : Fin p, (x = 0 ∨ x ^ (4 * e + 2) = 1) → ∃ r : Fin p, r * r = x := by
    intro x h
    have h1 := (rootC_one (x := x) hp he hi).2 h
    exact ⟨(rootC e i x 1).1, (fq_one_mul _).symm.trans (rootC_spec h1).1⟩
  by_cases h0 : w = 0
  · exact .inl (key w (.inl h0))
  · rcases half_sq hp he h0 with h | h
    · exact .inl (key w (.inr h))
    · right
      apply key
      right
      rw [fq_mul_pow, hd, h, neg_neg_one]
theorem no_root {e : Nat} {d : Fin p} (hp : IsPrime p) (he : p = 8 * e + 5) (hd : d ^ (4 * e + 2) = -1) (z : Fin p) : z * z ≠ d := by
  intro h
  have hne := two_ne hp he
  by_cases hz : z = 0
  · subst hz
    have h1 : d = 0 := by rw [← h]; grind
    rw [h1, fp_zero_pow _ (by omega)] at hd
    exact fp_one_ne hp (by grind)
  · have h2 : (z * z) ^ (4 * e + 2) = 1 := by
      rw [fq_mul_pow]
      rcases half_sq hp he hz with h | h <;> rw [h] <;> grind
    rw [h, hd] at h2
    exact hne h2.symm
theorem no_root' {d d' : Fin p} (hd : ∀ z : Fin p, z * z ≠ d) (h : d * d' = 1) (z : Fin p) : z * z ≠ d' := by
  intro hz
  apply hd (z * d)
  rw [← hz] at h
  grind
/-- The curve and its twist. -/
structure LdAll (d d' q : Fin p) : Prop where
  l1 : LdOk d 1 q (q + 1)
  l2 : LdOk d' (-1) q (-q)
  inv : d * d' = 1
  root : ∀ w : Fin p, (∃ r : Fin p, r * r = w) ∨ ∃ r : Fin p, r * r = d * w
theorem lift_on1 {d y r j : Fin p} (hk : (1 - d * (y * y)) * j = 1) (hr : r * r = (1 - y * y) * (1 - d * (y * y))) : OnE d (r * j, y) := by
  unfold OnE
  dsimp only
  have e : r * j * (r * j) * (1 - d * (y * y)) = 1 - y * y := by
    have : r * j * (r * j) * (1 - d * (y * y)) = (r * r) * j * ((1 - d * (y * y)) * j) := by grind
    rw [this, hk, hr]
    have : (1 - y * y) * (1 - d * (y * y)) * j * 1 = (1 - y * y) * ((1 - d * (y * y)) * j) := by grind
    rw [this, hk]
    grind
  clear hk hr
  generalize r * j = s at *
  grind
theorem lift_on2 {d d' y z r j : Fin p} (hd : d * d' = 1) (hyi : y * z = 1) (hk : (1 - d * (y * y)) * j = 1) (hr : r * r = d * ((1 - y * y) * (1 - d * (y * y)))) : OnE d' (r * j, z) := by
  unfold OnE
  dsimp only
  have e : r * j * (r * j) * (1 - d * (y * y)) = d * (1 - y * y) := by
    have : r * j * (r * j) * (1 - d * (y * y)) = (r * r) * j * ((1 - d * (y * y)) * j) := by grind
    rw [this, hk, hr]
    have : d * ((1 - y * y) * (1 - d * (y * y))) * j * 1 = d * (1 - y * y) * ((1 - d * (y * y)) * j) := by grind
    rw [this, hk]
    grind
  clear hk hr
  generalize r * j = s at *
  have e2 := congrArg (d' * (z * z) * ·) e
  have m1 : d' * (z * z) * (s * s * (1 - d * (y * y))) = s * s * (d' * (z * z) - (d * d') * ((y * z) * (y * z))) := by grind
  have m2 : d' * (z * z) * (d * (1 - y * y)) = (d * d') * (z * z - (y * z) * (y * z)) := by grind
  have e3 : s * s * (d' * (z * z) - (d * d') * ((y * z) * (y * z))) = (d * d') * (z * z - (y * z) * (y * z)) := by rw [← m1, ← m2]; exact e2
  rw [hd, hyi] at e3
  clear e2 m1 m2 e hd
  grind
theorem on_one (d : Fin p) : OnE d (1, 0) := by unfold OnE; dsimp only; grind
/-- Each number but nought is a point's: of the curve, or of its twist. -/
theorem lift {d1 d2 q : Fin p} (H : LdAll d1 d2 q) (x : Fin p) (h0 : x ≠ 0) : ∃ (d g k : Fin p) (P : Fin p × Fin p), LdOk d g q k ∧ OnE d P ∧ x * (g * (1 - P.2)) = 1 + P.2 := by
  have hp := H.l1.ed.prime
  by_cases h1 : x + 1 = 0
  · exact ⟨d2, -1, -q, (1, 0), H.l2, on_one _, by dsimp only; grind⟩
  · have hi := iv_mul hp h1
    -- the point's other number
    obtain ⟨y, hy⟩ : ∃ y, y = (x - 1) * iv (x + 1) := ⟨_, rfl⟩
    have hxy : y * (x + 1) = x - 1 := by rw [hy]; generalize iv (x + 1) = i at *; grind
    clear hy hi
    have hk := one_sub_ne (y := y) H.l1.ed
    have hki := iv_mul hp hk
    rcases H.root ((1 - y * y) * (1 - d1 * (y * y))) with ⟨r, hr⟩ | ⟨r, hr⟩
    · refine ⟨d1, 1, q + 1, _, H.l1, lift_on1 hki hr, ?_⟩
      dsimp only
      clear hki hr hk H
      grind
    · by_cases hy0 : y = 0
      · exfalso
        subst hy0
        apply H.l1.ed.nosq r
        rw [hr]
        clear hki hr hk H
        grind
      · have hyi := iv_mul hp hy0
        refine ⟨d2, -1, -q, _, H.l2, lift_on2 H.inv hyi hki hr, ?_⟩
        dsimp only
        generalize iv y = z at *
        have e := congrArg (z * ·) hxy
        clear hki hr hk H
        grind
/-- The order of two secrets does not matter. -/
theorem lad_comm {d1 d2 q : Fin p} (H : LdAll d1 d2 q) (m n : Nat) (x : Fin p) (hm : m < 2 ^ 255) (hn : n < 2 ^ 255) : lad q m (lad q n x) = lad q n (lad q m x) := by
  by_cases h0 : x = 0
  · subst h0
    have hp := H.l1.ed.prime
    have h3 := H.l1.ed.p3
    rw [lad_zero hp h3, lad_zero hp h3, lad_zero hp h3]
  · obtain ⟨d, g, k, P, h, hP, hx⟩ := lift H x h0
    rw [lad_turn h hP hx h0 hm hn, lad_turn h hP hx h0 hn hm, Nat.mul_comm]
theorem lad_low1 {d g k q x : Fin p} (h : LdOk d g q k) (hx : x * g = 1) (n : Nat) (hn : n < 2 ^ 255) (he : n % 2 = 0) : lad q n x = 0 := by
  have hP := on_one d
  have hx0 : x ≠ 0 := by intro e; subst e; exact fp_one_ne h.ed.prime (by grind)
  rw [lad_mul h hP (by dsimp only; grind) hx0 hn]
  have e : n = 2 * (n / 2) := by omega
  rw [e, ← emul_mul h.ed hP]
  refine uof_nought h (on_mul h.ed hP 2) ?_ _
  have e2 := (eadd_eq h.ed hP hP).2
  have e3 : emul d (1, 0) 2 = eadd d (1, 0) (1, 0) := by
    have := emul_add h.ed hP 1 1
    rw [emul_one] at this
    exact this
  rw [e3]
  unfold uof
  generalize (eadd d ((1 : Fin p), (0 : Fin p)) (1, 0)).2 = z at *
  dsimp only at e2
  have : 1 + z = 0 := by clear hP h e3; grind
  rw [this]
  grind
/-- The few: 0, 1 and -1. -/
theorem lad_low {d1 d2 q : Fin p} (H : LdAll d1 d2 q) (n : Nat) (x : Fin p) (hn : n < 2 ^ 255) (he : n % 2 = 0) (hx : x = 0 ∨ x = 1 ∨ x = -1) : lad q n x = 0 := by
  rcases hx with rfl | rfl | rfl
  · exact lad_zero H.l1.ed.prime H.l1.ed.p3 n
  · exact lad_low1 H.l1 one_one n hn he
  · exact lad_low1 H.l2 neg_neg_one n hn he
end

/-- The curve's number, and its twist's. -/
def D1 : Fin PP := Fin.ofNat PP 20800338683988658368647408995589388737092878452977063003340006470870624536394
def D2 : Fin PP := Fin.ofNat PP 28692721048178265397853269683490922171210976843790175684556505508326675974058
def Q0 : Fin PP := Fin.ofNat PP 121665
theorem D1_D2 : D1 * D2 = 1 := by decide +kernel
theorem D1_Q : (Q0 + 1) * D1 = Q0 := by decide +kernel
theorem D2_Q : -Q0 * D2 = -(Q0 + 1) := by decide +kernel
theorem D1_half : D1 ^ (4 * EE + 2) = -1 := by
  apply Fin.ext
  rw [fp_pow_val, ← powm_eq PP 300 _ _ (by decide +kernel)]
  decide +kernel
theorem two_PP : ∀ z : Fin PP, z + z = 0 → z = 0 := fun z h => two_cancel (i := Fin.ofNat PP 28948022309329048855892746252171976963317496166410141009864396001978282409975) (by decide +kernel) h
theorem D1_nosq : ∀ z : Fin PP, z * z ≠ D1 := no_root PP_prime PP_EE D1_half
theorem ed1 : EdOk D1 := ⟨PP_prime, D1_nosq, two_PP⟩
theorem ed2 : EdOk D2 := ⟨PP_prime, no_root' D1_nosq D1_D2, two_PP⟩
theorem LD : LdAll D1 D2 Q0 := ⟨⟨ed1, .inl ⟨rfl, rfl, D1_Q⟩⟩, ⟨ed2, .inr ⟨rfl, rfl, D2_Q⟩⟩, D1_D2, root_or PP_prime PP_EE II_sq D1_half⟩
end Go.Proofs.YthlnnoajklmeiaaDoor
