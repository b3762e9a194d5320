/- What a ladder over quotients comes to: so many times a point, told by one number; on the curve and on its twist. Only the text on an Edwards curve's group is imported. -/
import Derived.Test.YthlnnoajklmeiaaDoorEd
namespace Go.Proofs.YthlnnoajklmeiaaDoor
set_option linter.unusedVariables false
set_option linter.unusedSimpArgs false

/-- A ladder's state. -/
structure L4 (p : Nat) where
  a : Fin p
  b : Fin p
  c : Fin p
  d : Fin p
section
variable {p : Nat} [NeZero p]
def lsw (t : Bool) (s : L4 p) : L4 p := if t then ⟨s.c, s.d, s.a, s.b⟩ else s
def dblA (a b : Fin p) : Fin p := (a + b) * (a + b) * ((a - b) * (a - b))
def dblE (a b : Fin p) : Fin p := (a + b) * (a + b) - (a - b) * (a - b)
def dblB (q a b : Fin p) : Fin p := dblE a b * ((a + b) * (a + b) + dblE a b * q)
def addM (a b c d : Fin p) : Fin p := (c + d) * (a - b)
def addN (a b c d : Fin p) : Fin p := (c - d) * (a + b)
def addC (a b c d : Fin p) : Fin p := (addM a b c d + addN a b c d) * (addM a b c d + addN a b c d)
def addD (x a b c d : Fin p) : Fin p := x * ((addM a b c d - addN a b c d) * (addM a b c d - addN a b c d))
def lnx (q x : Fin p) (s : L4 p) : L4 p := ⟨dblA s.a s.b, dblB q s.a s.b, addC s.a s.b s.c s.d, addD x s.a s.b s.c s.d⟩
def lbit (k i : Nat) : Bool := decide (k / 2 ^ i % 2 = 1)
def lgo (q x : Fin p) (k : Nat) : Nat → L4 p
  | 0 => ⟨1, 0, x, 1⟩
  | n + 1 => lsw (lbit k (254 - n)) (lnx q x (lsw (lbit k (254 - n)) (lgo q x k n)))
/-- What the ladder comes to. -/
def lad (q : Fin p) (k : Nat) (x : Fin p) : Fin p := (lgo q x k 255).a * iv (lgo q x k 255).b

theorem lad_eq {q x : Fin p} {k : Nat} {s : L4 p} (h : s = lgo q x k 255) : lad q k x = s.a * s.b ^ (p - 2) := by
  rw [h]
  rfl

/-! Of nought. -/
theorem lad_zero {q : Fin p} (hp : IsPrime p) (h3 : 3 ≤ p) (k : Nat) : lad q k 0 = 0 := by
  have inv : ∀ n, (lgo q 0 k n).a * (lgo q 0 k n).b = 0 ∧ (lgo q 0 k n).c * (lgo q 0 k n).d = 0 := by
    intro n
    induction n with
    | zero => constructor <;> (show (_ : Fin p) * _ = 0) <;> dsimp only [lgo] <;> grind
    | succ n ih =>
      obtain ⟨h1, h2⟩ := ih
      have key : ∀ s : L4 p, s.a * s.b = 0 → s.c * s.d = 0 → (lnx q 0 s).a * (lnx q 0 s).b = 0 ∧ (lnx q 0 s).c * (lnx q 0 s).d = 0 := by
        intro s h1 h2
        unfold lnx dblA dblB dblE addD
        dsimp only
        refine ⟨?_, by grind⟩
        have : (s.a + s.b) * (s.a + s.b) - (s.a - s.b) * (s.a - s.b) = 0 := by grind
        rw [this]
        grind
      have sw : ∀ (t : Bool) (s : L4 p), s.a * s.b = 0 → s.c * s.d = 0 → (lsw t s).a * (lsw t s).b = 0 ∧ (lsw t s).c * (lsw t s).d = 0 := by
        intro t s h1 h2
        cases t
        · exact ⟨h1, h2⟩
        · exact ⟨h2, h1⟩
      obtain ⟨a1, a2⟩ := sw (lbit k (254 - n)) _ h1 h2
      obtain ⟨b1, b2⟩ := key _ a1 a2
      exact sw (lbit k (254 - n)) _ b1 b2
  unfold lad
  rcases fp_nz hp (inv 255).1 with h | h
  · rw [h]; grind
  · rw [h, iv_zero h3]; grind

/-! On a curve. -/
/-- The quotient a / b tells the point. -/
def XZ (g : Fin p) (P : Fin p × Fin p) (a b : Fin p) : Prop := ∃ l, l ≠ 0 ∧ a = l * (1 + P.2) ∧ b = l * (g * (1 - P.2))
structure LdOk (d g q k : Fin p) : Prop where
  ed : EdOk d
  sig : (g = 1 ∧ k = q + 1 ∧ k * d = q) ∨ (g = -1 ∧ k = -q ∧ k * d = -(q + 1))
theorem LdOk.gg {d g q k : Fin p} (h : LdOk d g q k) : g * g = 1 := by rcases h.sig with h | h <;> rw [h.1] <;> grind
theorem LdOk.kd {d g q k : Fin p} (h : LdOk d g q k) : k * (1 - d) = 1 := by rcases h.sig with h | h <;> grind
theorem ld_two {d : Fin p} (hd : EdOk d) : (2 : Fin p) ≠ 0 := by
  intro h
  exact fp_one_ne hd.prime (hd.two 1 (by grind))
theorem one_sub_ne {d y : Fin p} (hd : EdOk d) : 1 - d * (y * y) ≠ 0 := by
  intro h
  by_cases hy : y = 0
  · subst hy
    exact fp_one_ne hd.prime (by grind)
  · exact no_sq hd (s := 1) hy (by grind)
theorem xz_dbl {d g q k a b : Fin p} {P : Fin p × Fin p} (h : LdOk d g q k) (hP : OnE d P) (hz : XZ g P a b) : XZ g (eadd d P P) (dblA a b) (dblB q a b) := by
  have hd := h.ed
  have hp := hd.prime
  obtain ⟨l, hl, rfl, rfl⟩ := hz
  obtain ⟨w1, w2⟩ := whole hd hP hP
  have e2 := (eadd_eq hd hP hP).2
  have hy := one_sub_ne (y := P.2) hd
  have hk : k ≠ 0 := by
    intro e
    have := h.kd
    subst e
    exact fp_one_ne hp (by grind)
  unfold OnE at hP
  unfold XZ
  generalize (eadd d P P).2 = z at *
  generalize P.1 = x at *
  generalize P.2 = y at *
  have h2 := ld_two hd
  refine ⟨2 * 2 * 2 * (l * l * (l * l)) * (1 - d * x * x * y * y) * (1 - d * (y * y)) * k, ?_, ?_, ?_⟩
  · exact mul_ne hp (mul_ne hp (mul_ne hp (mul_ne hp (mul_ne hp (mul_ne hp h2 h2) h2) (mul_ne hp (mul_ne hp hl hl) (mul_ne hp hl hl))) w2) hy) hk
  · clear w1 w2 hy hk h2 hl
    have kd := h.kd
    have hsum : (1 - d * x * x * y * y) + (y * y - x * x) = 2 * (1 - x * x) := by grind
    have hprod : (1 - d * (y * y)) * (1 - x * x) = y * y * (1 - d) := by grind
    have r1 : 2 * 2 * 2 * (l * l * (l * l)) * (1 - d * x * x * y * y) * (1 - d * (y * y)) * k * (1 + z) = 2 * 2 * 2 * (l * l * (l * l)) * k * (2 * ((1 - d * (y * y)) * (1 - x * x))) := by
      have : (1 - d * x * x * y * y) * (1 + z) = 2 * (1 - x * x) := by rw [← hsum, ← e2]; grind
      have := congrArg (2 * 2 * 2 * (l * l * (l * l)) * (1 - d * (y * y)) * k * ·) this
      grind
    rw [r1, hprod]
    have r2 : 2 * 2 * 2 * (l * l * (l * l)) * k * (2 * (y * y * (1 - d))) = 2 * 2 * 2 * 2 * (l * l * (l * l)) * (y * y) * (k * (1 - d)) := by grind
    rw [r2, kd]
    unfold dblA
    rcases h.sig with ⟨rfl, _⟩ | ⟨rfl, _⟩ <;> clear r1 r2 hsum hprod e2 hP kd h <;> grind
  · clear w1 w2 hy hk h2 hl
    have hsum : (1 - d * x * x * y * y) - (y * y - x * x) = 2 * (1 - y * y) := by grind
    have r1 : 2 * 2 * 2 * (l * l * (l * l)) * (1 - d * x * x * y * y) * (1 - d * (y * y)) * k * (g * (1 - z)) = 2 * 2 * 2 * (l * l * (l * l)) * g * (2 * (1 - y * y)) * (k - k * d * (y * y)) := by
      have : (1 - d * x * x * y * y) * (1 - z) = 2 * (1 - y * y) := by rw [← hsum, ← e2]; grind
      have := congrArg (2 * 2 * 2 * (l * l * (l * l)) * (1 - d * (y * y)) * k * g * ·) this
      grind
    rw [r1]
    unfold dblB dblE
    rcases h.sig with ⟨rfl, h1, h2⟩ | ⟨rfl, h1, h2⟩ <;> rw [h2, h1] <;> clear r1 hsum e2 hP h h1 h2 <;> grind
theorem add_sq (d x1 y1 x2 y2 : Fin p) (h1 : x1 * x1 + y1 * y1 = 1 + d * (x1 * x1) * (y1 * y1)) (h2 : x2 * x2 + y2 * y2 = 1 + d * (x2 * x2) * (y2 * y2)) :
    (1 - d * ((x1 * x2) * (x1 * x2))) * ((y1 + y2) * (y1 + y2)) = ((1 - d * x1 * x2 * y1 * y2) + (y1 * y2 - x1 * x2)) * ((1 + d * x1 * x2 * y1 * y2) + (y1 * y2 + x1 * x2)) ∧
    (1 - d * ((x1 * x2) * (x1 * x2))) * ((y1 - y2) * (y1 - y2)) = ((1 - d * x1 * x2 * y1 * y2) - (y1 * y2 - x1 * x2)) * ((1 + d * x1 * x2 * y1 * y2) - (y1 * y2 + x1 * x2)) := by
  constructor <;> grind
theorem xz_add {d g q k a b c e X y : Fin p} {P Q : Fin p × Fin p} (h : LdOk d g q k) (hP : OnE d P) (hQ : OnE d Q) (hz : XZ g P a b) (hw : XZ g Q c e)
    (hS : y * (1 + d * P.1 * Q.1 * P.2 * Q.2) = P.2 * Q.2 + P.1 * Q.1) (hX : X * (g * (1 - y)) = 1 + y) (hX0 : X ≠ 0) : XZ g (eadd d P Q) (addC a b c e) (addD X a b c e) := by
  have hd := h.ed
  have hp := hd.prime
  have gg := h.gg
  obtain ⟨l, hl, rfl, rfl⟩ := hz
  obtain ⟨m, hm, rfl, rfl⟩ := hw
  obtain ⟨w1, w2⟩ := whole hd hP hQ
  have e2 := (eadd_eq hd hP hQ).2
  have hk := one_sub_ne (y := P.1 * Q.1) hd
  obtain ⟨q1, q2⟩ := add_sq d P.1 P.2 Q.1 Q.2 hP hQ
  clear hP hQ
  unfold XZ
  generalize (eadd d P Q).2 = z at *
  generalize P.1 = x1 at *
  generalize P.2 = y1 at *
  generalize Q.1 = x2 at *
  generalize Q.2 = y2 at *
  have h2 := ld_two hd
  -- what is left of the difference
  have hG : X * (g * ((1 + d * x1 * x2 * y1 * y2) - (y1 * y2 + x1 * x2))) = (1 + d * x1 * x2 * y1 * y2) + (y1 * y2 + x1 * x2) := by
    rw [← hS]
    have := congrArg (· * (1 + d * x1 * x2 * y1 * y2)) hX
    clear hS q1 q2 e2 hk w1 w2 hm hl gg h
    generalize 1 + d * x1 * x2 * y1 * y2 = S at *
    grind
  have hgn : (1 + d * x1 * x2 * y1 * y2) - (y1 * y2 + x1 * x2) ≠ 0 := by
    intro e0
    have h0 : (1 + d * x1 * x2 * y1 * y2) + (y1 * y2 + x1 * x2) = 0 := by rw [← hG, e0]; grind
    have : 2 * (1 + d * x1 * x2 * y1 * y2) = 0 := by grind
    exact mul_ne hp h2 w1 this
  have hg0 : g ≠ 0 := by intro e; subst e; exact fp_one_ne hp (by grind)
  have hi := iv_mul hp hk
  have hin : iv (1 - d * (x1 * x2 * (x1 * x2))) ≠ 0 := by intro e; rw [e] at hi; exact fp_one_ne hp (by grind)
  generalize iv (1 - d * (x1 * x2 * (x1 * x2))) = i at *
  have cE : addC (l * (1 + y1)) (l * (g * (1 - y1))) (m * (1 + y2)) (m * (g * (1 - y2))) = 2 * 2 * 2 * 2 * (l * l) * (m * m) * ((y1 + y2) * (y1 + y2)) := by
    unfold addC addM addN
    clear hX hS hG hgn hg0 hi hin e2 q1 q2 hk w1 w2 hl hm
    have : (m * (1 + y2) + m * (g * (1 - y2))) * (l * (1 + y1) - l * (g * (1 - y1))) + (m * (1 + y2) - m * (g * (1 - y2))) * (l * (1 + y1) + l * (g * (1 - y1))) = 2 * 2 * (l * m) * (y1 + y2) := by grind
    rw [this]
    grind
  have dE : addD X (l * (1 + y1)) (l * (g * (1 - y1))) (m * (1 + y2)) (m * (g * (1 - y2))) = 2 * 2 * 2 * 2 * (l * l) * (m * m) * X * ((y1 - y2) * (y1 - y2)) := by
    unfold addD addM addN
    clear hX hS hG hgn hg0 hi hin e2 q1 q2 hk w1 w2 hl hm cE
    have : (m * (1 + y2) + m * (g * (1 - y2))) * (l * (1 + y1) - l * (g * (1 - y1))) - (m * (1 + y2) - m * (g * (1 - y2))) * (l * (1 + y1) + l * (g * (1 - y1))) = 2 * 2 * (l * m) * (g * (y1 - y2)) := by grind
    rw [this]
    grind
  rw [cE, dE]
  clear cE dE hX hS
  have f1 : (1 - d * x1 * x2 * y1 * y2) * (1 + z) = (1 - d * x1 * x2 * y1 * y2) + (y1 * y2 - x1 * x2) := by rw [← e2]; grind
  have f2 : (1 - d * x1 * x2 * y1 * y2) * (1 - z) = (1 - d * x1 * x2 * y1 * y2) - (y1 * y2 - x1 * x2) := by rw [← e2]; grind
  rw [← f1] at q1
  rw [← f2] at q2
  rw [← hG] at q1
  clear e2 f1 f2 hG
  generalize (1 + d * x1 * x2 * y1 * y2) - (y1 * y2 + x1 * x2) = G at *
  generalize 1 - d * x1 * x2 * y1 * y2 = F at *
  generalize 1 - d * (x1 * x2 * (x1 * x2)) = K at *
  have s1 : (y1 + y2) * (y1 + y2) = i * (F * (1 + z) * (X * (g * G))) := by rw [← q1]; grind
  have s2 : (y1 - y2) * (y1 - y2) = i * (F * (1 - z) * G) := by rw [← q2]; grind
  rw [s1, s2]
  refine ⟨2 * 2 * 2 * 2 * (l * l) * (m * m) * i * F * X * (g * G), ?_, ?_, ?_⟩
  · exact mul_ne hp (mul_ne hp (mul_ne hp (mul_ne hp (mul_ne hp (mul_ne hp (mul_ne hp (mul_ne hp (mul_ne hp h2 h2) h2) h2) (mul_ne hp hl hl)) (mul_ne hp hm hm)) hin) w2) hX0) (mul_ne hp hg0 hgn)
  · clear q1 q2 s1 s2 hi; grind
  · clear q1 q2 s1 s2 hi; grind

/-- The quotient of a point (0 where there is none). -/
def uof (g : Fin p) (P : Fin p × Fin p) : Fin p := (1 + P.2) * iv (g * (1 - P.2))
theorem xz_uof {g a b : Fin p} {P : Fin p × Fin p} (hp : IsPrime p) (h : XZ g P a b) : a * iv b = uof g P := by
  obtain ⟨l, hl, rfl, rfl⟩ := h
  unfold uof
  rw [iv_prod]
  have := iv_mul hp hl
  generalize iv l = i at *
  generalize iv (g * (1 - P.2)) = j at *
  grind
theorem half_nat (k n : Nat) (hn : n < 255) : k / 2 ^ (255 - (n + 1)) = 2 * (k / 2 ^ (255 - n)) + k / 2 ^ (254 - n) % 2 := by
  have h1 : 255 - (n + 1) = 254 - n := by omega
  have h2 : 255 - n = (254 - n) + 1 := by omega
  rw [h1, h2, Nat.pow_succ, ← Nat.div_div_eq_div_mul]
  omega
/-- The difference of two that lie beside one another. -/
theorem beside {d : Fin p} {P : Fin p × Fin p} (hd : EdOk d) (hP : OnE d P) (m : Nat) :
    P.2 * (1 + d * (emul d P m).1 * (emul d P (m + 1)).1 * (emul d P m).2 * (emul d P (m + 1)).2) = (emul d P m).2 * (emul d P (m + 1)).2 + (emul d P m).1 * (emul d P (m + 1)).1 := by
  have hm := on_mul hd hP m
  have hm1 := on_mul hd hP (m + 1)
  have e : eadd d (eneg (emul d P m)) (emul d P (m + 1)) = P := by
    show eadd d (eneg (emul d P m)) (eadd d (emul d P m) P) = P
    rw [← eadd_assoc hd (on_neg hm) hm hP, eadd_comm d (eneg _), eadd_neg hd hm, nil_eadd]
  have h := (eadd_eq hd (on_neg hm) hm1).2
  rw [e] at h
  unfold eneg at h
  dsimp only at h
  clear e
  generalize (emul d P m).1 = x at *
  generalize (emul d P m).2 = y at *
  generalize (emul d P (m + 1)).1 = x' at *
  generalize (emul d P (m + 1)).2 = y' at *
  clear hm hm1 hP
  grind
theorem lgo_inv {d g q k' : Fin p} {P : Fin p × Fin p} {x : Fin p} {k : Nat} (h : LdOk d g q k') (hP : OnE d P) (hx : x * (g * (1 - P.2)) = 1 + P.2) (hx0 : x ≠ 0) (hk : k < 2 ^ 255) :
    ∀ n, n ≤ 255 → XZ g (emul d P (k / 2 ^ (255 - n))) (lgo q x k n).a (lgo q x k n).b ∧ XZ g (emul d P (k / 2 ^ (255 - n) + 1)) (lgo q x k n).c (lgo q x k n).d := by
  have hd := h.ed
  have hp := hd.prime
  intro n
  induction n with
  | zero =>
    intro _
    have h0 : k / 2 ^ (255 - 0) = 0 := Nat.div_eq_of_lt hk
    rw [h0]
    constructor
    · show XZ g enil 1 0
      have h2 := ld_two hd
      have hi := iv_mul hp h2
      refine ⟨iv 2, ?_, ?_, ?_⟩
      · intro e; rw [e] at hi; exact fp_one_ne hp (by grind)
      · unfold enil; dsimp only; generalize iv (2 : Fin p) = i at *; grind
      · unfold enil; dsimp only; generalize iv (2 : Fin p) = i at *; grind
    · show XZ g (eadd d enil P) x 1
      rw [nil_eadd]
      have hn : g * (1 - P.2) ≠ 0 := by
        intro e
        have e1 : 1 + P.2 = 0 := by rw [← hx, e]; grind
        have gg := h.gg
        have e2 : 1 - P.2 = 0 := by
          have := congrArg (g * ·) e
          grind
        exact ld_two hd (by grind)
      have hi := iv_mul hp hn
      refine ⟨iv (g * (1 - P.2)), ?_, ?_, ?_⟩
      · intro e; rw [e] at hi; exact fp_one_ne hp (by grind)
      · generalize iv (g * (1 - P.2)) = i at *; rw [← hx]; grind
      · generalize iv (g * (1 - P.2)) = i at *; grind
  | succ n ih =>
    intro hn
    obtain ⟨i1, i2⟩ := ih (by omega)
    have hh := half_nat k n (by omega)
    generalize k / 2 ^ (255 - n) = m at *
    generalize hs : lgo q x k n = s at *
    have o1 := on_mul hd hP m
    have o2 := on_mul hd hP (m + 1)
    have hb := beside hd hP m
    have hgo : lgo q x k (n + 1) = lsw (lbit k (254 - n)) (lnx q x (lsw (lbit k (254 - n)) s)) := by rw [← hs]; rfl
    rw [hgo, hh]
    by_cases hbit : k / 2 ^ (254 - n) % 2 = 1
    · have e : lbit k (254 - n) = true := decide_eq_true hbit
      rw [e, hbit]
      have e1 : emul d P (2 * m + 1) = eadd d (emul d P (m + 1)) (emul d P m) := by
        rw [← emul_add hd hP]; congr 1; omega
      have e2 : emul d P (2 * m + 1 + 1) = eadd d (emul d P (m + 1)) (emul d P (m + 1)) := by
        rw [← emul_add hd hP]; congr 1; omega
      rw [e1, e2]
      refine ⟨xz_add h o2 o1 i2 i1 (y := P.2) ?_ hx hx0, xz_dbl h o2 i2⟩
      generalize emul d P m = A at *
      generalize emul d P (m + 1) = B at *
      have c1 : d * B.1 * A.1 * B.2 * A.2 = d * A.1 * B.1 * A.2 * B.2 := by grind
      rw [c1, hb]
      grind
    · have hz : k / 2 ^ (254 - n) % 2 = 0 := by omega
      have e : lbit k (254 - n) = false := decide_eq_false hbit
      rw [e, hz, Nat.add_zero]
      have e1 : emul d P (2 * m) = eadd d (emul d P m) (emul d P m) := by
        rw [← emul_add hd hP]; congr 1; omega
      have e2 : emul d P (2 * m + 1) = eadd d (emul d P m) (emul d P (m + 1)) := by
        rw [← emul_add hd hP]; congr 1; omega
      rw [e1, e2]
      exact ⟨xz_dbl h o1 i1, xz_add h o1 o2 i1 i2 (y := P.2) hb hx hx0⟩
/-- The ladder is so many times the point. -/
theorem lad_mul {d g q k' : Fin p} {P : Fin p × Fin p} {x : Fin p} {k : Nat} (h : LdOk d g q k') (hP : OnE d P) (hx : x * (g * (1 - P.2)) = 1 + P.2) (hx0 : x ≠ 0) (hk : k < 2 ^ 255) : lad q k x = uof g (emul d P k) := by
  have := (lgo_inv h hP hx hx0 hk 255 (Nat.le_refl _)).1
  rw [Nat.sub_self, Nat.pow_zero, Nat.div_one] at this
  exact xz_uof h.ed.prime this
/-- A point's quotient is its own, where it is not nought. -/
theorem uof_self {d g q k' : Fin p} {P : Fin p × Fin p} (h : LdOk d g q k') (h0 : uof g P ≠ 0) : uof g P * (g * (1 - P.2)) = 1 + P.2 := by
  have hp := h.ed.prime
  by_cases hz : g * (1 - P.2) = 0
  · exfalso
    apply h0
    unfold uof
    rw [hz, iv_zero h.ed.p3]
    grind
  · have := iv_mul hp hz
    unfold uof
    generalize iv (g * (1 - P.2)) = i at *
    grind
/-- Of two that come to nought, nothing but nought comes. -/
theorem uof_nought {d g q k' : Fin p} {P : Fin p × Fin p} (h : LdOk d g q k') (hP : OnE d P) (h0 : uof g P = 0) (n : Nat) : uof g (emul d P n) = 0 := by
  have hp := h.ed.prime
  have gg := h.gg
  have hg0 : g ≠ 0 := by intro e; subst e; exact fp_one_ne hp (by grind)
  have two := ld_two h.ed
  -- y is 1 or -1, and so x is 0
  have hy : P.2 * P.2 = 1 := by
    by_cases hz : g * (1 - P.2) = 0
    · rcases fp_nz hp hz with e | e
      · exact absurd e hg0
      · have : P.2 = 1 := by grind
        rw [this]; grind
    · have hi := iv_mul hp hz
      unfold uof at h0
      rcases fp_nz hp h0 with e | e
      · have : P.2 = -1 := by grind
        rw [this]; grind
      · rw [e] at hi
        exact absurd (show (1 : Fin p) = 0 by grind) (fp_one_ne hp)
  have hx : P.1 = 0 := by
    unfold OnE at hP
    have kd := h.kd
    have : (1 - d) * (P.1 * P.1) = 0 := by
      generalize P.1 = x at *
      generalize P.2 = y at *
      clear h0
      grind
    rcases fp_nz hp this with e | e
    · exfalso
      rw [e] at kd
      exact fp_one_ne hp (by grind)
    · rcases fp_nz hp e with e | e <;> exact e
  have all : ∀ n, (emul d P n).1 = 0 ∧ (emul d P n).2 * (emul d P n).2 = 1 := by
    intro n
    induction n with
    | zero => exact ⟨rfl, by show (1 : Fin p) * 1 = 1; grind⟩
    | succ n ih =>
      obtain ⟨a, b⟩ := ih
      have e1 : emul d P (n + 1) = eadd d (emul d P n) P := rfl
      rw [e1]
      unfold eadd
      rw [a, hx]
      dsimp only
      have c1 : 1 - d * 0 * 0 * (emul d P n).2 * P.2 = 1 := by grind
      have c2 : (emul d P n).2 * 0 = 0 := by grind
      have c3 : 0 * P.2 + (emul d P n).2 * 0 = 0 := by grind
      rw [c1, c3, iv_one]
      generalize (emul d P n).2 = y at *
      constructor
      · grind
      · grind
  obtain ⟨_, b⟩ := all n
  have hh : ((emul d P n).2 - 1) * ((emul d P n).2 + 1) = 0 := by
    generalize (emul d P n).2 = y at *
    grind
  unfold uof
  rcases fp_nz hp hh with e | e
  · have : (emul d P n).2 = 1 := by grind
    rw [this]
    have c : g * (1 - 1) = 0 := by grind
    rw [c, iv_zero h.ed.p3]
    grind
  · have : (emul d P n).2 = -1 := by grind
    rw [this]
    grind
/-- On one curve the order of two does not matter. -/
theorem lad_turn {d g q k' : Fin p} {P : Fin p × Fin p} {x : Fin p} {m n : Nat} (h : LdOk d g q k') (hP : OnE d P) (hx : x * (g * (1 - P.2)) = 1 + P.2) (hx0 : x ≠ 0) (hm : m < 2 ^ 255) (hn : n < 2 ^ 255) :
    lad q m (lad q n x) = uof g (emul d P (n * m)) := by
  rw [lad_mul h hP hx hx0 hn]
  have on := on_mul h.ed hP n
  by_cases h0 : uof g (emul d P n) = 0
  · rw [h0, lad_zero h.ed.prime h.ed.p3, ← emul_mul h.ed hP, uof_nought h on h0]
  · rw [lad_mul h on (uof_self h h0) h0 hm, emul_mul h.ed hP]
end
end Go.Proofs.YthlnnoajklmeiaaDoor
