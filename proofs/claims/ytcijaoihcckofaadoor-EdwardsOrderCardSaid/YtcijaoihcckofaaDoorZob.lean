/- Words, contracts and walks (Er, Eb, Ls, Dg, Rd, Co, Uw, Ca, Mp, Rl, Rn, Mo, Rmi, Rz, Kt, Fi, Fkn, Lk, Lm, Frt, Pv, Pw, Rro, Rv, Sl, Sr, La, Lb6, Sh, St), laid together. No condition. -/
import Derived.Test.YtcijaoihcckofaaDoorZoa
import Derived.Deep.MidRow
import Derived.Deep.RegionLaw
import Derived.Maps.AppendAt
import Derived.Laws.OwnMore
import Derived.Deep.DeepCutAuto
import Derived.Deep.CutBlock
import Derived.Deep.RegionWith
namespace Go.Proofs.YtcijaoihcckofaaDoor
set_option linter.unusedVariables false
set_option linter.unusedSimpArgs false
section
variable {p : Nat} [NeZero p]
theorem eq_of_mul {a b c : Fin p} (hp : IsPrime p) (h : c ≠ 0) (e : a * c = b * c) : a = b := fp_cancel hp h (by rw [fq_mul_comm c a, fq_mul_comm c b, e])
/-- The sum of two that are kept as three numbers. -/
theorem rep3_add {d x y z w a b X Y : Fin p} (h1 : X * (1 + d * x * z * y * w) = x * w + y * z) (h2 : Y * (1 - d * x * z * y * w) = y * w + x * z) :
    ((x * a) * (w * b) + (z * b) * (y * a)) * (a * b) * ((a * b) * (a * b) - d * ((x * a) * (w * b) * ((z * b) * (y * a)))) = X * (((a * b) * (a * b) + d * ((x * a) * (w * b) * ((z * b) * (y * a)))) * ((a * b) * (a * b) - d * ((x * a) * (w * b) * ((z * b) * (y * a))))) ∧
    ((y * a) * (w * b) + (x * a) * (z * b)) * (a * b) * ((a * b) * (a * b) + d * ((x * a) * (w * b) * ((z * b) * (y * a)))) = Y * (((a * b) * (a * b) + d * ((x * a) * (w * b) * ((z * b) * (y * a)))) * ((a * b) * (a * b) - d * ((x * a) * (w * b) * ((z * b) * (y * a))))) ∧
    (a * b) * (a * b) + d * ((x * a) * (w * b) * ((z * b) * (y * a))) = (a * b) * (a * b) * (1 + d * x * z * y * w) ∧
    (a * b) * (a * b) - d * ((x * a) * (w * b) * ((z * b) * (y * a))) = (a * b) * (a * b) * (1 - d * x * z * y * w) := by
  have e1 : (a * b) * (a * b) + d * ((x * a) * (w * b) * ((z * b) * (y * a))) = (a * b) * (a * b) * (1 + d * x * z * y * w) := by clear h1 h2; grind
  have e2 : (a * b) * (a * b) - d * ((x * a) * (w * b) * ((z * b) * (y * a))) = (a * b) * (a * b) * (1 - d * x * z * y * w) := by clear h1 h2 e1; grind
  refine ⟨?_, ?_, e1, e2⟩
  · rw [e1, e2]
    clear e1 e2 h2
    generalize 1 + d * x * z * y * w = S at *
    generalize 1 - d * x * z * y * w = T at *
    have : (x * a) * (w * b) + (z * b) * (y * a) = (x * w + y * z) * (a * b) := by clear h1; grind
    rw [this, ← h1]
    clear this h1
    grind
  · rw [e1, e2]
    clear e1 e2 h1
    generalize 1 + d * x * z * y * w = S at *
    generalize 1 - d * x * z * y * w = T at *
    have : (y * a) * (w * b) + (x * a) * (z * b) = (y * w + x * z) * (a * b) := by clear h2; grind
    rw [this, ← h2]
    clear this h2
    grind
/-- The sum of two that are kept as four numbers. -/
theorem rep4_add {d x y z w a b X Y l m : Fin p} (h1 : X * (1 + d * x * z * y * w) = x * w + y * z) (h2 : Y * (1 - d * x * z * y * w) = y * w + x * z)
    (hl : l = (y * a - x * a) * (w * b - z * b)) (hm : m = (y * a + x * a) * (w * b + z * b)) :
    m - l = 2 * (a * b) * (X * (1 + d * x * z * y * w)) ∧ m + l = 2 * (a * b) * (Y * (1 - d * x * z * y * w)) ∧
    a * b + x * y * a * (z * w * b) * d + (a * b + x * y * a * (z * w * b) * d) = 2 * (a * b) * (1 + d * x * z * y * w) ∧
    a * b - x * y * a * (z * w * b) * d + (a * b - x * y * a * (z * w * b) * d) = 2 * (a * b) * (1 - d * x * z * y * w) := by
  rw [h1, h2]
  clear h1 h2
  subst hl hm
  refine ⟨?_, ?_, ?_, ?_⟩ <;> grind
theorem rep4_out {X Y S T k : Fin p} : k * (X * S) * (k * T) = X * (k * S * (k * T)) ∧ k * (Y * T) * (k * S) = Y * (k * S * (k * T)) ∧ k * (X * S) * (k * (Y * T)) = X * Y * (k * S * (k * T)) := by
  refine ⟨?_, ?_, ?_⟩ <;> grind
theorem scale_inv {x a i : Fin p} (h : a * i = 1) : x * a * i = x := by grind
theorem cross {x a z b : Fin p} (hp : IsPrime p) (ha : a ≠ 0) (hb : b ≠ 0) : x * a * b = z * b * a ↔ x = z := by
  constructor
  · intro h
    refine eq_of_mul hp (mul_ne hp ha hb) ?_
    grind
  · intro h
    subst h
    grind
theorem one_scale (x y : Fin p) : x = x * 1 ∧ y = y * 1 ∧ x * y = x * y * 1 := by refine ⟨?_, ?_, ?_⟩ <;> grind
theorem nil_scale : (0 : Fin p) = 0 * 1 ∧ (1 : Fin p) = 1 * 1 ∧ (0 : Fin p) * 1 = 0 * 1 * 1 := by refine ⟨?_, ?_, ?_⟩ <;> grind
end
/-- The document's. -/
structure Pj3 where
  X : Fin PP
  Y : Fin PP
  Z : Fin PP
def RepR (P : Pt) (r : Pj3) : Prop := r.Z ≠ 0 ∧ r.X = P.x * r.Z ∧ r.Y = P.y * r.Z
def rpAdd (p q : Pj3) : Pj3 :=
  ⟨(p.X * q.Y + q.X * p.Y) * (p.Z * q.Z) * (p.Z * q.Z * (p.Z * q.Z) - TD * (p.X * q.Y * (q.X * p.Y))), (p.Y * q.Y + p.X * q.X) * (p.Z * q.Z) * (p.Z * q.Z * (p.Z * q.Z) + TD * (p.X * q.Y * (q.X * p.Y))),
    (p.Z * q.Z * (p.Z * q.Z) + TD * (p.X * q.Y * (q.X * p.Y))) * (p.Z * q.Z * (p.Z * q.Z) - TD * (p.X * q.Y * (q.X * p.Y)))⟩
def rpNil : Pj3 := ⟨0, 1, 1⟩
theorem RepR.add {P Q : Pt} {p q : Pj3} (hP : RepR P p) (hQ : RepR Q q) : RepR (P.add Q) (rpAdd p q) := by
  obtain ⟨a0, hx, hy⟩ := hP
  obtain ⟨b0, hz, hw⟩ := hQ
  obtain ⟨d1, d2⟩ := P.den Q
  have h1 := P.add_x Q
  have h2 := P.add_y Q
  unfold RepR rpAdd
  dsimp only
  rw [hx, hy, hz, hw]
  obtain ⟨e1, e2, e3, e4⟩ := rep3_add (a := p.Z) (b := q.Z) h1 h2
  refine ⟨?_, e1, e2⟩
  rw [e3, e4]
  have ab := mul_ne PP_prime a0 b0
  exact mul_ne PP_prime (mul_ne PP_prime (mul_ne PP_prime ab ab) d1) (mul_ne PP_prime (mul_ne PP_prime ab ab) d2)
theorem RepR.nil : RepR Pt.nil rpNil := ⟨fp_one_ne PP_prime, nil_scale.1, nil_scale.2.1⟩
theorem RepR.flat {P : Pt} {p : Pj3} (h : RepR P p) : p.X * p.Z ^ (PP - 2) = P.x ∧ p.Y * p.Z ^ (PP - 2) = P.y := by
  obtain ⟨a0, hx, hy⟩ := h
  have hi : p.Z * p.Z ^ (PP - 2) = 1 := fp_inv PP_prime a0
  rw [hx, hy]
  exact ⟨scale_inv hi, scale_inv hi⟩
theorem RepR.same {P Q : Pt} {p q : Pj3} (hP : RepR P p) (hQ : RepR Q q) : (p.X * q.Z = q.X * p.Z ∧ p.Y * q.Z = q.Y * p.Z) ↔ P = Q := by
  obtain ⟨a0, hx, hy⟩ := hP
  obtain ⟨b0, hz, hw⟩ := hQ
  rw [hx, hy, hz, hw, cross PP_prime a0 b0, cross PP_prime a0 b0]
  constructor
  · rintro ⟨h1, h2⟩
    exact Pt.ext' h1 h2
  · rintro rfl
    exact ⟨rfl, rfl⟩
theorem RepR.of (P : Pt) : RepR P ⟨P.x, P.y, 1⟩ := ⟨fp_one_ne PP_prime, (one_scale _ 0).1, (one_scale _ 0).1⟩
/-- The program's: x, y, z and t stand as a, b, c and d. -/
def RepE (P : Pt) (s : L4 PP) : Prop := s.c ≠ 0 ∧ s.a = P.x * s.c ∧ s.b = P.y * s.c ∧ s.d = P.x * P.y * s.c
/-- A zero z stands for nought. -/
def ptSet (s : L4 PP) : L4 PP := if s.c = 0 then ⟨0, 1, 1, 0 * 1⟩ else s
def RepS (P : Pt) (s : L4 PP) : Prop := RepE P (ptSet s)
def paL (s t : L4 PP) : Fin PP := (s.b - s.a) * (t.b - t.a)
def paH (s t : L4 PP) : Fin PP := (s.b + s.a) * (t.b + t.a)
def paU (s t : L4 PP) : Fin PP := s.c * t.c + s.d * t.d * TD + (s.c * t.c + s.d * t.d * TD)
def paV (s t : L4 PP) : Fin PP := s.c * t.c - s.d * t.d * TD + (s.c * t.c - s.d * t.d * TD)
def ptAdd0 (s t : L4 PP) : L4 PP := ⟨(paH s t - paL s t) * paV s t, (paH s t + paL s t) * paU s t, paU s t * paV s t, (paH s t - paL s t) * (paH s t + paL s t)⟩
def ptAdd (s t : L4 PP) : L4 PP := ptAdd0 (ptSet s) (ptSet t)
theorem ptSet_id {s : L4 PP} (h : s.c ≠ 0) : ptSet s = s := by unfold ptSet; rw [if_neg h]
theorem ptSet_zero {s : L4 PP} (h : s.c = 0) : ptSet s = ⟨0, 1, 1, 0 * 1⟩ := by unfold ptSet; rw [if_pos h]
theorem RepE.set {P : Pt} {s : L4 PP} (h : RepE P s) : RepS P s := by
  unfold RepS
  rw [ptSet_id h.1]
  exact h
theorem two_ne0 : (2 : Fin PP) ≠ 0 := ld_two ed1
theorem RepE.padd0 {P Q : Pt} {s t : L4 PP} (hP : RepE P s) (hQ : RepE Q t) : RepE (P.add Q) (ptAdd0 s t) := by
  obtain ⟨a0, hx, hy, hxy⟩ := hP
  obtain ⟨b0, hz, hw, hzw⟩ := hQ
  obtain ⟨d1, d2⟩ := P.den Q
  have h1 := P.add_x Q
  have h2 := P.add_y Q
  obtain ⟨e1, e2, e3, e4⟩ := rep4_add (a := s.c) (b := t.c) (l := paL s t) (m := paH s t) h1 h2 (by unfold paL; rw [hx, hy, hz, hw]) (by unfold paH; rw [hx, hy, hz, hw])
  have e3' : paU s t = 2 * (s.c * t.c) * (1 + TD * P.x * Q.x * P.y * Q.y) := by unfold paU; rw [hxy, hzw]; exact e3
  have e4' : paV s t = 2 * (s.c * t.c) * (1 - TD * P.x * Q.x * P.y * Q.y) := by unfold paV; rw [hxy, hzw]; exact e4
  have k0 : (2 : Fin PP) * (s.c * t.c) ≠ 0 := mul_ne PP_prime two_ne0 (mul_ne PP_prime a0 b0)
  unfold RepE ptAdd0
  dsimp only
  rw [e1, e2, e3', e4']
  obtain ⟨f1, f2, f3⟩ := rep4_out (X := (P.add Q).x) (Y := (P.add Q).y) (S := 1 + TD * P.x * Q.x * P.y * Q.y) (T := 1 - TD * P.x * Q.x * P.y * Q.y) (k := 2 * (s.c * t.c))
  exact ⟨mul_ne PP_prime (mul_ne PP_prime k0 d1) (mul_ne PP_prime k0 d2), f1, f2, f3⟩
theorem RepS.add {P Q : Pt} {s t : L4 PP} (hP : RepS P s) (hQ : RepS Q t) : RepS (P.add Q) (ptAdd s t) := (RepE.padd0 hP hQ).set
theorem RepE.nil1 : RepE Pt.nil ⟨0, 1, 1, 0 * 1⟩ := ⟨fp_one_ne PP_prime, nil_scale.1, nil_scale.2.1, nil_scale.2.2⟩
theorem RepS.zero {s : L4 PP} (h : s.c = 0) : RepS Pt.nil s := by
  unfold RepS
  rw [ptSet_zero h]
  exact RepE.nil1
theorem RepE.inj {P Q : Pt} {s : L4 PP} (hP : RepE P s) (hQ : RepE Q s) : P = Q := by
  obtain ⟨a0, hx, hy, _⟩ := hP
  obtain ⟨_, hz, hw, _⟩ := hQ
  exact Pt.ext' (eq_of_mul PP_prime a0 (hx.symm.trans hz)) (eq_of_mul PP_prime a0 (hy.symm.trans hw))
theorem RepS.flat {P : Pt} {s : L4 PP} (h : RepS P s) : (ptSet s).a * (ptSet s).c ^ (PP - 2) = P.x ∧ (ptSet s).b * (ptSet s).c ^ (PP - 2) = P.y := by
  obtain ⟨a0, hx, hy, _⟩ := h
  have hi : (ptSet s).c * (ptSet s).c ^ (PP - 2) = 1 := fp_inv PP_prime a0
  rw [hx, hy]
  exact ⟨scale_inv hi, scale_inv hi⟩
theorem RepS.same {P Q : Pt} {s t : L4 PP} (hP : RepS P s) (hQ : RepS Q t) : ((ptSet s).a * (ptSet t).c = (ptSet t).a * (ptSet s).c ∧ (ptSet s).b * (ptSet t).c = (ptSet t).b * (ptSet s).c) ↔ P = Q := by
  obtain ⟨a0, hx, hy, _⟩ := hP
  obtain ⟨b0, hz, hw, _⟩ := hQ
  rw [hx, hy, hz, hw, cross PP_prime a0 b0, cross PP_prime a0 b0]
  constructor
  · rintro ⟨h1, h2⟩
    exact Pt.ext' h1 h2
  · rintro rfl
    exact ⟨rfl, rfl⟩
/-- The point of two numbers. -/
def ptE (x y : Fin PP) : L4 PP := ⟨x, y, 1, x * y⟩
theorem RepS.of (P : Pt) : RepS P (ptE P.x P.y) := RepE.set ⟨fp_one_ne PP_prime, (one_scale _ 0).1, (one_scale _ 0).1, (one_scale _ _).2.2⟩
/-- Of the first n bits. -/
def ptMul (s : L4 PP) (k : Nat) : Nat → L4 PP
  | 0 => ⟨0, 0, 0, 0⟩
  | n + 1 => if lbit k (255 - n) then ptAdd (ptAdd (ptMul s k n) (ptMul s k n)) s else ptAdd (ptMul s k n) (ptMul s k n)
def rpMul (r : Pj3) (k : Nat) : Nat → Pj3
  | 0 => rpNil
  | n + 1 => if lbit k (255 - n) then rpAdd (rpAdd (rpMul r k n) (rpMul r k n)) r else rpAdd (rpMul r k n) (rpMul r k n)
theorem half256 (k n : Nat) (hn : n < 256) : k / 2 ^ (256 - (n + 1)) = 2 * (k / 2 ^ (256 - n)) + k / 2 ^ (255 - n) % 2 := by
  have h1 : 256 - (n + 1) = 255 - n := by omega
  have h2 : 256 - n = (255 - n) + 1 := by omega
  rw [h1, h2, Nat.pow_succ, ← Nat.div_div_eq_div_mul]
  omega
theorem bit_yes {k i : Nat} (h : lbit k i = true) : k / 2 ^ i % 2 = 1 := of_decide_eq_true h
theorem bit_no {k i : Nat} (h : ¬ lbit k i = true) : k / 2 ^ i % 2 = 0 := by
  have : ¬ k / 2 ^ i % 2 = 1 := fun e => h (decide_eq_true e)
  omega
theorem ptMul_rep {P : Pt} {s : L4 PP} {k : Nat} (h : RepS P s) (hk : k < 2 ^ 256) : ∀ n, n ≤ 256 → RepS (P.mul (k / 2 ^ (256 - n))) (ptMul s k n) := by
  intro n
  induction n with
  | zero =>
    intro _
    rw [Nat.sub_zero, Nat.div_eq_of_lt hk]
    exact RepS.zero rfl
  | succ n ih =>
    intro hn
    have i1 := ih (by omega)
    rw [half256 k n (by omega)]
    unfold ptMul
    by_cases hb : lbit k (255 - n) = true
    · rw [if_pos hb, bit_yes hb, Pt.mul_add, Pt.mul_two, Pt.mul_one]
      exact (i1.add i1).add h
    · rw [if_neg hb, bit_no hb, Nat.add_zero, Pt.mul_two]
      exact i1.add i1
theorem rpMul_rep {P : Pt} {r : Pj3} {k : Nat} (h : RepR P r) (hk : k < 2 ^ 256) : ∀ n, n ≤ 256 → RepR (P.mul (k / 2 ^ (256 - n))) (rpMul r k n) := by
  intro n
  induction n with
  | zero =>
    intro _
    rw [Nat.sub_zero, Nat.div_eq_of_lt hk]
    exact RepR.nil
  | succ n ih =>
    intro hn
    have i1 := ih (by omega)
    rw [half256 k n (by omega)]
    unfold rpMul
    by_cases hb : lbit k (255 - n) = true
    · rw [if_pos hb, bit_yes hb, Pt.mul_add, Pt.mul_two, Pt.mul_one]
      exact (i1.add i1).add h
    · rw [if_neg hb, bit_no hb, Nat.add_zero, Pt.mul_two]
      exact i1.add i1
theorem RepS.mul {P : Pt} {s : L4 PP} {k : Nat} (h : RepS P s) (hk : k < 2 ^ 256) : RepS (P.mul k) (ptMul s k 256) := by
  have := ptMul_rep h hk 256 (Nat.le_refl _)
  rw [Nat.sub_self, Nat.pow_zero, Nat.div_one] at this
  exact this
theorem RepR.mul {P : Pt} {r : Pj3} {k : Nat} (h : RepR P r) (hk : k < 2 ^ 256) : RepR (P.mul k) (rpMul r k 256) := by
  have := rpMul_rep h hk 256 (Nat.le_refl _)
  rw [Nat.sub_self, Nat.pow_zero, Nat.div_one] at this
  exact this
end Go.Proofs.YtcijaoihcckofaaDoor
namespace Go.Proofs.YtcijaoihcckofaaDoor
set_option linter.unusedVariables false
set_option linter.unusedSimpArgs false
section
variable {p : Nat} [NeZero p]
end
section
attribute [local irreducible] EE II TD ofK
end
/-- A point's bytes. -/
def pbn (P : Pt) : Nat := P.y.val + P.x.val % 2 * 57896044618658097711785492504343953926634992332820282019728792003956564819968
theorem PP_lt255 (x : Fin PP) : x.val < 57896044618658097711785492504343953926634992332820282019728792003956564819968 := by
  have := x.isLt
  have e : PP = 57896044618658097711785492504343953926634992332820282019728792003956564819949 := PP_eq
  omega
theorem pbn_lt (P : Pt) : pbn P < 115792089237316195423570985008687907853269984665640564039457584007913129639936 := by
  have := PP_lt255 P.y
  unfold pbn
  omega
def BX : Fin PP := Fin.ofNat PP 15112221349535400772501151409588531511454012693041857206046113283949847762202
def BY : Fin PP := Fin.ofNat PP 46316835694926478169428394003475163141307993866256225615783033603165251855960
def BP : Pt := ⟨BX, BY, by decide +kernel⟩
def BE : L4 PP := ptE BX BY
theorem BE_rep : RepS BP BE := RepS.of BP
/-- The group's order. -/
def LL' : Nat := 7237005577332262213973186563042994240857116359379907606001950938285454250989
set_option maxRecDepth 100000 in
theorem BP_order : BP.mul LL' = Pt.nil := by
  have h := RepS.mul (k := LL') BE_rep (by decide +kernel)
  have hr : ∀ s : L4 PP, s = ptMul BE LL' 256 → s.c ≠ 0 → s.a = 0 → s.b = s.c → RepS (BP.mul LL') s → BP.mul LL' = Pt.nil := by
    intro s _ hc ha hb hs
    unfold RepS at hs
    rw [ptSet_id hc] at hs
    obtain ⟨_, hx, hy, _⟩ := hs
    refine Pt.ext' ?_ ?_
    · rw [ha] at hx
      rcases fp_nz PP_prime hx.symm with e | e
      · exact e
      · exact absurd e hc
    · refine eq_of_mul PP_prime hc ?_
      rw [← hy, hb]
      exact (one_scale _ 0).1.trans (fq_mul_comm _ _)
  exact hr _ rfl (by decide +kernel) (by decide +kernel) (by decide +kernel) h
end Go.Proofs.YtcijaoihcckofaaDoor
namespace Go.Proofs.YtcijaoihcckofaaDoor
set_option linter.unusedVariables false
set_option linter.unusedSimpArgs false
set_option maxRecDepth 100000
open Go Go.RowKit
/-- The cells of a state. -/
def sv (s : L4 PP) : Array Value := ev s.a ++ ev s.b ++ ev s.c ++ ev s.d
theorem sv_size (s : L4 PP) : (sv s).size = 16 := rfl
theorem sv_list (s : L4 PP) : (sv s).toList = (ev s.a).toList ++ (ev s.b).toList ++ (ev s.c).toList ++ (ev s.d).toList := by simp [sv]
theorem sv_one (s : L4 PP) : (sv s).all (·.oneCell') = true := by
  have h : ∀ x : Fin PP, ∀ v ∈ (ev x).toList, v.oneCell' = true := fun x v hv => (Array.all_eq_true_iff_forall_mem.1 (ev_one x)) v (by simpa using hv)
  refine Array.all_eq_true_iff_forall_mem.2 fun v hv => ?_
  have hm : v ∈ (sv s).toList := by simpa using hv
  rw [sv_list] at hm
  simp only [List.mem_append] at hm
  rcases hm with ((hm | hm) | hm) | hm
  · exact h _ v hm
  · exact h _ v hm
  · exact h _ v hm
  · exact h _ v hm
/-- The k-th of a state's numbers. -/
def L4.at4 (s : L4 PP) : Nat → Fin PP
  | 0 => s.a
  | 1 => s.b
  | 2 => s.c
  | _ => s.d
theorem at_sv (s : L4 PP) {k j : Nat} (hk : k < 4) (v : Value) (h : (ev (s.at4 k)).toList[j]? = some v) : (sv s)[4 * k + j]? = some v := by
  have hj : j < 4 := by have := (List.getElem?_eq_some_iff.1 h).1; exact this
  have hl : (sv s)[4 * k + j]? = (sv s).toList[4 * k + j]? := by simp
  rw [hl, sv_list]
  rcases (show k = 0 ∨ k = 1 ∨ k = 2 ∨ k = 3 by omega) with rfl | rfl | rfl | rfl <;> rcases (show j = 0 ∨ j = 1 ∨ j = 2 ∨ j = 3 by omega) with rfl | rfl | rfl | rfl <;> exact h
theorem range_sv {W : World} {g : Nat} {t : TypeId} {s : L4 PP} (h : Blk W g t (sv s)) {k : Nat} (hk : k < 4) : W.rangeAt g (4 * k) (ev (s.at4 k)).toList := fun j v hv => by
  rw [h.cell]
  exact at_sv s hk v hv
/-- Cells that are written one after another. -/
def setL (cs : Array Value) (o : Nat) : List Value → Array Value
  | [] => cs
  | v :: r => setL (cs.setIfInBounds o v) (o + 1) r
attribute [local irreducible] ev
theorem Fr.setCells {w : World} {g : Nat} {t : TypeId} {L : List (Nat × TypeId × Array Value)} {R : List (Nat × TypeId × Nat)} (hL : ∀ p ∈ L, p.1 ≠ g) (hR : ∀ p ∈ R, p.1 ≠ g) (hw : w.heap.size ≤ g) :
    ∀ (vs : List Value) (o : Nat) (cs : Array Value) (W : World), Fr w W ((g, t, cs) :: L) R → Fr w (W.setCells g o vs) ((g, t, setL cs o vs) :: L) R
  | [], _, _, _, h => h
  | v :: r, o, cs, W, h => Fr.setCells hL hR hw r (o + 1) _ _ (h.setHead hL hR o v hw)
attribute [local irreducible] sv
end Go.Proofs.YtcijaoihcckofaaDoor
namespace Go.Proofs.YtcijaoihcckofaaDoor
set_option linter.unusedVariables false
set_option linter.unusedSimpArgs false
/-- A digit is put in the place of another one. -/
theorem digit_put {b n m k x : Nat} (hb : 0 < b) (hx : x < b) (h : m + b ^ k * (n / b ^ k % b) = n + b ^ k * x) (j : Nat) : m / b ^ j % b = if j = k then x else n / b ^ j % b := by
  have hp : 0 < b ^ k := Nat.pow_pos hb
  have hn : n = n % b ^ k + b ^ k * (n / b ^ k % b + b * (n / b ^ (k + 1))) := by
    have h1 := Nat.mod_add_div n (b ^ k)
    have h2 := Nat.mod_add_div (n / b ^ k) b
    rw [Nat.div_div_eq_div_mul, ← Nat.pow_succ] at h2
    rw [h2, h1]
  have hm : m = n % b ^ k + b ^ k * (x + b * (n / b ^ (k + 1))) := by
    generalize n / b ^ (k + 1) = hi at *
    generalize n / b ^ k % b = d at *
    rw [Nat.mul_add] at hn ⊢
    omega
  have hlo : n % b ^ k < b ^ k := Nat.mod_lt _ hp
  have hdiv : m / b ^ k = x + b * (n / b ^ (k + 1)) := by
    rw [hm, Nat.add_mul_div_left _ _ hp, Nat.div_eq_of_lt hlo, Nat.zero_add]
  have hmod : m % b ^ k = n % b ^ k := by
    rw [hm, Nat.add_mul_mod_self_left, Nat.mod_mod]
  by_cases hj : j = k
  · subst hj
    rw [if_pos rfl, hdiv, Nat.add_mul_mod_self_left, Nat.mod_eq_of_lt hx]
  · rw [if_neg hj]
    by_cases hlt : j < k
    · have h1 := dig_mod b m k j hb
      have h2 := dig_mod b n k j hb
      rw [if_pos hlt] at h1 h2
      rw [← h1, ← h2, hmod]
    · obtain ⟨d, rfl⟩ : ∃ d, j = k + 1 + d := ⟨j - k - 1, by omega⟩
      have h1 : m / b ^ (k + 1) = n / b ^ (k + 1) := by
        rw [Nat.pow_succ, ← Nat.div_div_eq_div_mul, hdiv, Nat.add_mul_div_left _ _ hb, Nat.div_eq_of_lt hx, Nat.zero_add, Nat.pow_succ]
      rw [Nat.pow_add, ← Nat.div_div_eq_div_mul, ← Nat.div_div_eq_div_mul, h1]
theorem digit_above {b n m k x : Nat} (hb : 0 < b) (hx : x < b) (h : m + b ^ k * (n / b ^ k % b) = n + b ^ k * x) : m / b ^ (k + 1) = n / b ^ (k + 1) := by
  have hp : 0 < b ^ k := Nat.pow_pos hb
  have h1 := Nat.mod_add_div n (b ^ k)
  have h2 := Nat.mod_add_div (n / b ^ k) b
  rw [Nat.div_div_eq_div_mul, ← Nat.pow_succ] at h2
  have hlo : n % b ^ k < b ^ k := Nat.mod_lt _ hp
  have hm : m = n % b ^ k + b ^ k * (x + b * (n / b ^ (k + 1))) := by
    generalize n / b ^ (k + 1) = hi at *
    generalize n / b ^ k % b = d at *
    rw [← h2] at h1
    rw [Nat.mul_add] at h1 ⊢
    omega
  have hdiv : m / b ^ k = x + b * (n / b ^ (k + 1)) := by
    rw [hm, Nat.add_mul_div_left _ _ hp, Nat.div_eq_of_lt hlo, Nat.zero_add]
  rw [Nat.pow_succ, ← Nat.div_div_eq_div_mul, hdiv, Nat.add_mul_div_left _ _ hb, Nat.div_eq_of_lt hx, Nat.zero_add, Nat.pow_succ]
theorem digit_le {b : Nat} (n k : Nat) : b ^ k * (n / b ^ k % b) ≤ n :=
  Nat.le_trans (Nat.mul_le_mul_left _ (Nat.mod_le _ _)) (by rw [Nat.mul_comm]; exact Nat.div_mul_le_self _ _)
/-- n with x in the place of digit k. -/
def putd (b n k x : Nat) : Nat := n - b ^ k * (n / b ^ k % b) + b ^ k * x
theorem putd_eq (b n k x : Nat) : putd b n k x + b ^ k * (n / b ^ k % b) = n + b ^ k * x := by
  have := digit_le (b := b) n k
  unfold putd
  generalize b ^ k * (n / b ^ k % b) = X at *
  generalize b ^ k * x = Y at *
  omega
def ScaleAt (b q a c0 k v c : Nat) : Prop := v / b ^ k = a / b ^ k ∧ v + b ^ k * c = a + (q - 1) * (a % b ^ k) + c0 ∧ c < q
theorem scale_start (b a : Nat) {q c0 : Nat} (h : c0 < q) : ScaleAt b q a c0 0 a c0 := by
  unfold ScaleAt
  rw [Nat.pow_zero, Nat.mod_one]
  omega
theorem scale_step {b q a c0 k v c : Nat} (hb : 0 < b) (hq : 0 < q) (h : ScaleAt b q a c0 k v c) :
    ScaleAt b q a c0 (k + 1) (putd b v k ((q * (v / b ^ k % b) + c) % b)) ((q * (v / b ^ k % b) + c) / b) := by
  obtain ⟨h1, h2, h3⟩ := h
  have hs : (q * (v / b ^ k % b) + c) % b < b := Nat.mod_lt _ hb
  have hp := putd_eq b v k ((q * (v / b ^ k % b) + c) % b)
  have hx : (q * (v / b ^ k % b) + c) / b < q := by
    rw [Nat.div_lt_iff_lt_mul hb]
    have : v / b ^ k % b ≤ b - 1 := by have := Nat.mod_lt (v / b ^ k) hb; omega
    have h5 := Nat.mul_le_mul_left q this
    have h6 : q * (b - 1) + q = q * b := by
      rw [← Nat.mul_succ]
      congr 1
      omega
    omega
  refine ⟨?_, ?_, hx⟩
  · rw [digit_above hb hs hp, Nat.pow_succ, ← Nat.div_div_eq_div_mul, ← Nat.div_div_eq_div_mul, h1]
  · rw [Nat.mod_pow_succ, Nat.pow_succ]
    rw [h1] at hp ⊢
    have e := Nat.mod_add_div (q * (a / b ^ k % b) + c) b
    generalize (q * (a / b ^ k % b) + c) % b = s at *
    generalize (q * (a / b ^ k % b) + c) / b = j at *
    generalize putd b v k s = v' at *
    generalize a / b ^ k % b = x at *
    generalize b ^ k = P at *
    have e2 := congrArg (P * ·) e
    simp only [Nat.mul_add] at e2
    rw [← Nat.mul_assoc] at e2
    obtain ⟨q', rfl⟩ : ∃ q', q = q' + 1 := ⟨q - 1, by omega⟩
    rw [Nat.add_sub_cancel, Nat.mul_add]
    rw [Nat.add_sub_cancel] at h2
    have e3 : P * ((q' + 1) * x) = q' * (P * x) + P * x := by rw [Nat.add_mul, Nat.mul_add, Nat.one_mul]; congr 1; ac_rfl
    omega
theorem scale_end {b q a c0 n v c : Nat} (h : ScaleAt b q a c0 n v c) (ha : a < b ^ n) (hq : 0 < q) (hl : q * a + c0 < b ^ n) : v = q * a + c0 := by
  obtain ⟨h1, h2, h3⟩ := h
  rw [Nat.mod_eq_of_lt ha] at h2
  obtain ⟨q', rfl⟩ : ∃ q', q = q' + 1 := ⟨q - 1, by omega⟩
  rw [Nat.add_sub_cancel] at h2
  rw [Nat.add_mul, Nat.one_mul] at hl ⊢
  rcases Nat.eq_zero_or_pos c with hc | hc
  · subst hc
    omega
  · have := Nat.mul_le_mul_left (b ^ n) hc
    omega
def TakeAt (b a y k v c : Nat) : Prop := v / b ^ k = a / b ^ k ∧ v + y % b ^ k = a + b ^ k * c ∧ c ≤ 1
theorem take_start (b a y : Nat) : TakeAt b a y 0 a 0 := by
  unfold TakeAt
  rw [Nat.pow_zero, Nat.mod_one]
  omega
theorem take_step {b a y k v c n : Nat} (hb : 0 < b) (h : TakeAt b a y k v c) (hn : n + y / b ^ k % b + c = v / b ^ k % b + b) :
    TakeAt b a y (k + 1) (putd b v k (n % b)) (1 - n / b) := by
  obtain ⟨h1, h2, h3⟩ := h
  have hs : n % b < b := Nat.mod_lt _ hb
  have hp := putd_eq b v k (n % b)
  refine ⟨?_, ?_, Nat.sub_le _ _⟩
  · rw [digit_above hb hs hp, Nat.pow_succ, ← Nat.div_div_eq_div_mul, ← Nat.div_div_eq_div_mul, h1]
  · have hj : n / b < 2 := by
      rw [Nat.div_lt_iff_lt_mul hb]
      have hx := Nat.mod_lt (v / b ^ k) hb
      generalize v / b ^ k % b = x at *
      generalize y / b ^ k % b = z at *
      omega
    rw [Nat.mod_pow_succ, Nat.pow_succ]
    rw [h1] at hp hn
    have e := Nat.mod_add_div n b
    have hx := Nat.mod_lt (a / b ^ k) hb
    have hy := Nat.mod_lt (y / b ^ k) hb
    generalize hm : n % b = s at *
    generalize hd : n / b = j at *
    generalize putd b v k s = v' at *
    generalize a / b ^ k % b = x at *
    generalize y / b ^ k % b = z at *
    generalize b ^ k = P at *
    have hjj : j = 0 ∨ j = 1 := by omega
    have e2 : P * (s + b * j + z + c) = P * (x + b) := by rw [e, hn]
    simp only [Nat.mul_add] at e2
    rcases hjj with rfl | rfl
    · rw [Nat.mul_zero, Nat.mul_zero] at e2
      rw [Nat.sub_zero, Nat.mul_one]
      omega
    · rw [Nat.mul_one] at e2
      rw [Nat.sub_self, Nat.mul_zero]
      omega
theorem take_end {b a y n v c : Nat} (h : TakeAt b a y n v c) (ha : a < b ^ n) (hy : y ≤ a) : v = a - y := by
  obtain ⟨h1, h2, h3⟩ := h
  rw [Nat.mod_eq_of_lt (show y < b ^ n by omega)] at h2
  rw [Nat.div_eq_of_lt ha] at h1
  have hp : 0 < b ^ n := by omega
  have hv : v < b ^ n := by
    have := Nat.div_add_mod v (b ^ n)
    rw [h1, Nat.mul_zero] at this
    have := Nat.mod_lt v hp
    omega
  have : c = 0 ∨ c = 1 := by omega
  rcases this with rfl | rfl
  · omega
  · omega
end Go.Proofs.YtcijaoihcckofaaDoor
namespace Go.Proofs.YtcijaoihcckofaaDoor
set_option linter.unusedVariables false
set_option linter.unusedSimpArgs false
open Go.RowKit
/-- The sixteen digits of a number, the lowest first. -/
def dg (n : Nat) : List Nat := (List.range 16).map fun i => n / 65536 ^ i % 65536
theorem dg_len (n : Nat) : (dg n).length = 16 := by simp [dg]
theorem dg_get (n : Nat) {i : Nat} (h : i < 16) : (dg n)[i]? = some (n / 65536 ^ i % 65536) := by simp [dg, h]
/-- The cells of a number. -/
def ds (n : Nat) : Array Value := ncs .u64 (dg n)
theorem ds_size (n : Nat) : (ds n).size = 16 := by rw [ds, ncs_size, dg_len]
theorem ds_get (n : Nat) {i : Nat} (h : i < 16) : (ds n)[i]? = some (.int .u64 ((n / 65536 ^ i % 65536 : Nat) : Int)) := by rw [ds, ncs_get, dg_get n h]; rfl
theorem ds_one (n : Nat) : (ds n).all (·.oneCell') = true := ncs_one _ _
theorem info_num : (Tryd.prog.info? 33).map (·.size) = some 16 := by kernel_rfl
theorem info_ds (n : Nat) : (Tryd.prog.info? 33).map (·.size) = some (ds n).size := by rw [ds_size]; exact info_num
theorem dg_step (n k : Nat) (hk : k < 16) : (dg (n % 65536 ^ k)).set k (n / 65536 ^ k % 65536) = dg (n % 65536 ^ (k + 1)) := by
  apply List.ext_getElem?
  intro i
  rw [List.getElem?_set]
  by_cases hi : i < 16
  · rw [dg_get (n % 65536 ^ (k + 1)) hi, dg_len, dig_mod 65536 n (k + 1) i (by omega)]
    by_cases e : k = i
    · subst e
      rw [if_pos rfl, if_pos hk, if_pos (by omega)]
    · rw [if_neg e, dg_get _ hi, dig_mod 65536 n k i (by omega)]
      by_cases h : i < k
      · rw [if_pos h, if_pos (by omega)]
      · rw [if_neg h, if_neg (by omega)]
  · have h1 : (dg (n % 65536 ^ (k + 1)))[i]? = none := by simp [dg_len]; omega
    have h2 : (dg (n % 65536 ^ k))[i]? = none := by simp [dg_len]; omega
    rw [h1, h2]
    have : k ≠ i := by omega
    simp [this]
theorem ds_step (n k : Nat) (hk : k < 16) : (ds (n % 65536 ^ k)).setIfInBounds k (.int .u64 ((n / 65536 ^ k % 65536 : Nat) : Int)) = ds (n % 65536 ^ (k + 1)) := by
  rw [ds, ncs_set, dg_step n k hk, ds]
theorem ds_zero : ds 0 = #[.int .u64 0, .int .u64 0, .int .u64 0, .int .u64 0, .int .u64 0, .int .u64 0, .int .u64 0, .int .u64 0, .int .u64 0, .int .u64 0, .int .u64 0, .int .u64 0, .int .u64 0, .int .u64 0, .int .u64 0, .int .u64 0] := by kernel_rfl
/-- Two bytes are a digit. -/
theorem two_bytes (n i : Nat) : n / 256 ^ (2 * i) % 256 + 256 * (n / 256 ^ (2 * i + 1) % 256) = n / 65536 ^ i % 65536 := by
  have h1 : 256 ^ (2 * i) = 65536 ^ i := by rw [Nat.pow_mul]
  have h2 : n / 256 ^ (2 * i + 1) = n / 65536 ^ i / 256 := by rw [Nat.pow_succ, h1, Nat.div_div_eq_div_mul]
  rw [h1, h2]
  omega
def NumPost (n : Nat) (w : World) (e : Ending) (w' : World) : Prop := e = .returned (.agg (ds n)) ∧ Below w.heap.size w w'
set_option maxRecDepth 100000 in
set_option maxHeartbeats 1000000 in
theorem rof_any (n : Nat) (w : World) (hn : n < 115792089237316195423570985008687907853269984665640564039457584007913129639936) :
    Calls Tryd.prog 53 #[.agg (ks n)] w (NumPost n w) := by
  have hfr := ((((Fr.start w).row (ks n) 23 (g := w.heap.size) rfl).any (ds 0) 33 16 (ds_size 0) (g := w.heap.size + 1) (by simp)).row (ds 0) 33 (g := w.heap.size + 1 + 1) (by simp))
  rw [ds_zero] at hfr
  have HFR := Lib.hid hfr
  clear hfr
  have HNN := Lib.hid hn
  clear hn
  go_enter Tryd.func53, Tryd.ntmps53
  go_wp2_with (fail)
  go_loopw [4] (fun c wr => ∃ k : Nat, k ≤ 16 ∧ c = .int .i64 k ∧ Fr w wr [(w.heap.size + 1 + 1, 33, ds (n % 65536 ^ k)), (w.heap.size, 23, ks n)] [(w.heap.size + 1, 33, 16)]) (fun c _ => 16 - (intOf c).toNat)
  case atStart => exact ⟨0, by omega, rfl, by have := HFR.out; rw [Nat.pow_zero, Nat.mod_one, ds_zero]; exact this⟩
  case round =>
    obtain ⟨k, hk, rfl, hF⟩ := hrel
    by_cases hlt : k < 16
    · have hB := hF.get (g := w.heap.size + 1 + 1) (t := 33) (cs := ds (n % 65536 ^ k)) (by simp)
      have hE := hF.get (g := w.heap.size) (t := 23) (cs := ks n) (by simp)
      have hc : wr.cell? ⟨w.heap.size, 2 * k, none⟩ = some (.int .u8 ((n / 256 ^ (2 * k) % 256 : Nat) : Int)) := by rw [hE.cell, ks_get _ (by omega)]
      have hc2 : wr.cell? ⟨w.heap.size, 2 * k + 1, none⟩ = some (.int .u8 ((n / 256 ^ (2 * k + 1) % 256 : Nat) : Int)) := by rw [hE.cell, ks_get _ (by omega)]
      have hd : wr.cell? ⟨w.heap.size + 1 + 1, k, none⟩ = some (.int .u64 ((n % 65536 ^ k / 65536 ^ k % 65536 : Nat) : Int)) := by rw [hB.cell, ds_get _ hlt]
      have hf := hB.frozen k
      have htb := two_bytes n k
      have hst := ds_step n k hlt
      have x1 : n / 256 ^ (2 * k) % 256 < 256 := Nat.mod_lt _ (by omega)
      have x2 : n / 256 ^ (2 * k + 1) % 256 < 256 := Nat.mod_lt _ (by omega)
      have HT := Lib.hid htb
      have HS := Lib.hid hst
      have HF := Lib.hid hF
      clear htb hst hF hB hE
      generalize n % 65536 ^ k / 65536 ^ k % 65536 = z at *
      generalize n / 256 ^ (2 * k) % 256 = p at *
      generalize n / 256 ^ (2 * k + 1) % 256 = q at *
      have b1 : (0 : Int) ≤ 2 * (k : Int) := by omega
      have b2 : 2 * (k : Int) < 32 := by omega
      have b3 : 2 * (k : Int) + 1 < 32 := by omega
      go_wp2
      go_region
      go_wp2
      go_roundw
      case rel =>
        refine ⟨k + 1, by omega, by go_num, ?_⟩
        have e : (p : Int) + 256 * (q : Int) = ((n / 65536 ^ k % 65536 : Nat) : Int) := by rw [← HT.out]; omega
        rw [e]
        refine Fr.drew ?_
        rw [← HS.out]
        exact HF.out.setHead (by simp <;> omega) (by simp <;> omega) _ _ (by omega)
      case measure => simp [intOf]; omega
    · obtain rfl : k = 16 := by omega
      have e16 : n % 65536 ^ 16 = n := Nat.mod_eq_of_lt HNN.out
      rw [e16] at hF
      have kT := hF.get (g := w.heap.size + 1 + 1) (t := 33) (cs := ds n) (by simp)
      obtain ⟨old, hold, kR⟩ := hF.old (g := w.heap.size + 1) (t := 33) (n := 16) (by simp)
      have kS := kR.setRow_same (ds n)
      have hB := below_setRow hF.below (show w.heap.size ≤ w.heap.size + 1 by omega) (ds n)
      have hold' : old.size = (ds n).size := by rw [hold, ds_size]
      have HF := Lib.hid hF
      have HS := Lib.hid kS
      have HB := Lib.hid hB
      have HO := Lib.hid hold'
      clear hF e16 kS hB hold hold'
      go_wp2_with (first | (refine wpList_load_row rfl 33 (.tmp 3) rfl (w.heap.size + 1 + 1) rfl 33 (ds n) (0, 0) _ kT Tryd.underlying33 rfl (info_ds n) ?_) | (refine wpList_store_row rfl 33 (.tmp 2) (.tmp 24) rfl (w.heap.size + 1) (ds n) rfl rfl 33 old kR (info_ds n) HO.out (ds_one _) ?_))
      exact bodyPost_ret (results_cell_row rfl _ _ (w.heap.size + 1) 33 (ds n) (0, 0) _ rfl HS.out Tryd.underlying33 rfl (info_ds n)) rfl ⟨rfl, HB.out⟩
theorem digit_low (n k : Nat) : n / 65536 ^ k % 65536 % 256 = n / 256 ^ (2 * k) % 256 := by rw [← two_bytes]; omega
theorem digit_high (n k : Nat) : n / 65536 ^ k % 65536 / 256 % 256 = n / 256 ^ (2 * k + 1) % 256 := by rw [← two_bytes]; omega
theorem ks_two (n k : Nat) (hk : k < 16) : ((ks (n % 65536 ^ k)).setIfInBounds (2 * k) (.int .u8 ((n / 256 ^ (2 * k) % 256 : Nat) : Int))).setIfInBounds (2 * k + 1) (.int .u8 ((n / 256 ^ (2 * k + 1) % 256 : Nat) : Int)) = ks (n % 65536 ^ (k + 1)) := by
  have h1 : ∀ j, 65536 ^ j = 256 ^ (2 * j) := fun j => by rw [Nat.pow_mul]
  rw [h1 k, ks_step n (2 * k) (by omega), ks_step n (2 * k + 1) (by omega), h1 (k + 1), Nat.mul_add]
theorem ks_two' (n k : Nat) (hk : k < 16) : ((ks (n % 65536 ^ k)).setIfInBounds (2 * k + 1) (.int .u8 ((n / 256 ^ (2 * k + 1) % 256 : Nat) : Int))).setIfInBounds (2 * k) (.int .u8 ((n / 256 ^ (2 * k) % 256 : Nat) : Int)) = ks (n % 65536 ^ (k + 1)) := by
  rw [← ks_two n k hk]
  apply Array.ext_getElem?
  intro i
  simp only [Array.getElem?_setIfInBounds, Array.size_setIfInBounds]
  by_cases a : 2 * k = i
  · have b : 2 * k + 1 ≠ i := by omega
    simp [a, b]
  · simp [a]
set_option maxRecDepth 100000 in
set_option maxHeartbeats 1000000 in
theorem rbytes_any (n : Nat) (w : World) (hn : n < 115792089237316195423570985008687907853269984665640564039457584007913129639936) :
    Calls Tryd.prog 17 #[.agg (ds n)] w (KeyPost n w) := by
  have hfr := ((((Fr.start w).row (ds n) 33 (g := w.heap.size) rfl).any (ks 0) 23 32 (ks_size 0) (g := w.heap.size + 1) (by simp)).row (ks 0) 23 (g := w.heap.size + 1 + 1) (by simp))
  rw [ks_zero] at hfr
  have HFR := Lib.hid hfr
  clear hfr
  have HNN := Lib.hid hn
  clear hn
  go_enter Tryd.func17, Tryd.ntmps17
  go_wp2_with (fail)
  go_loopw [4] (fun c wr => ∃ k : Nat, k ≤ 16 ∧ c = .int .i64 k ∧ Fr w wr [(w.heap.size + 1 + 1, 23, ks (n % 65536 ^ k)), (w.heap.size, 33, ds n)] [(w.heap.size + 1, 23, 32)]) (fun c _ => 16 - (intOf c).toNat)
  case atStart => exact ⟨0, by omega, rfl, by have := HFR.out; rw [Nat.pow_zero, Nat.mod_one, ks_zero]; exact this⟩
  case round =>
    obtain ⟨k, hk, rfl, hF⟩ := hrel
    by_cases hlt : k < 16
    · have hB := hF.get (g := w.heap.size + 1 + 1) (t := 23) (cs := ks (n % 65536 ^ k)) (by simp)
      have hE := hF.get (g := w.heap.size) (t := 33) (cs := ds n) (by simp)
      have hc : wr.cell? ⟨w.heap.size, k, none⟩ = some (.int .u64 ((n / 65536 ^ k % 65536 : Nat) : Int)) := by rw [hE.cell, ds_get _ hlt]
      have hf := hB.frozen (2 * k)
      have hf2 := hB.frozen (2 * k + 1)
      have hd1 : wr.cell? ⟨w.heap.size + 1 + 1, 2 * k, none⟩ = some (.int .u8 ((n % 65536 ^ k / 256 ^ (2 * k) % 256 : Nat) : Int)) := by rw [hB.cell, ks_get _ (by omega)]
      have hd2 : wr.cell? ⟨w.heap.size + 1 + 1, 2 * k + 1, none⟩ = some (.int .u8 ((n % 65536 ^ k / 256 ^ (2 * k + 1) % 256 : Nat) : Int)) := by rw [hB.cell, ks_get _ (by omega)]
      have hlo := digit_low n k
      have hhi := digit_high n k
      rw [Nat.mod_eq_of_lt (show n / 65536 ^ k % 65536 / 256 < 256 by have : n / 65536 ^ k % 65536 < 65536 := Nat.mod_lt _ (by omega); omega)] at hhi
      have hs1 := ks_two n k hlt
      have hs2 := ks_two' n k hlt
      have x0 : n / 65536 ^ k % 65536 < 65536 := Nat.mod_lt _ (by omega)
      have HLO := Lib.hid hlo
      have HHI := Lib.hid hhi
      have HS1 := Lib.hid hs1
      have HS2 := Lib.hid hs2
      have HF := Lib.hid hF
      clear hlo hhi hs1 hs2 hF hB hE
      generalize n % 65536 ^ k / 256 ^ (2 * k) % 256 = z1 at *
      generalize n % 65536 ^ k / 256 ^ (2 * k + 1) % 256 = z2 at *
      generalize n / 65536 ^ k % 65536 = d at *
      have b1 : (0 : Int) ≤ 2 * (k : Int) := by omega
      have b2 : 2 * (k : Int) < 32 := by omega
      have b3 : 2 * (k : Int) + 1 < 32 := by omega
      go_wp2
      go_region
      all_goals go_wp2
      all_goals go_roundw
      case rel =>
        refine ⟨k + 1, by omega, by go_num, ?_⟩
        have e1 : (d : Int) % 256 = ((n / 256 ^ (2 * k) % 256 : Nat) : Int) := by rw [← HLO.out]; omega
        have e2 : (d : Int) / 256 = ((n / 256 ^ (2 * k + 1) % 256 : Nat) : Int) := by rw [← HHI.out]; omega
        rw [e1, e2]
        refine Fr.drew ?_
        first
        | (rw [← HS1.out]; exact (HF.out.setHead (by simp <;> omega) (by simp <;> omega) _ _ (by omega)).setHead (by simp <;> omega) (by simp <;> omega) _ _ (by omega))
        | (rw [← HS2.out]; exact (HF.out.setHead (by simp <;> omega) (by simp <;> omega) _ _ (by omega)).setHead (by simp <;> omega) (by simp <;> omega) _ _ (by omega))
      case measure => simp [intOf]; omega
    · obtain rfl : k = 16 := by omega
      have e16 : n % 65536 ^ 16 = n := Nat.mod_eq_of_lt HNN.out
      rw [e16] at hF
      have kT := hF.get (g := w.heap.size + 1 + 1) (t := 23) (cs := ks n) (by simp)
      obtain ⟨old, hold, kR⟩ := hF.old (g := w.heap.size + 1) (t := 23) (n := 32) (by simp)
      have kS := kR.setRow_same (ks n)
      have hB := below_setRow hF.below (show w.heap.size ≤ w.heap.size + 1 by omega) (ks n)
      have hold' : old.size = (ks n).size := by rw [hold, ks_size]
      have HF := Lib.hid hF
      have HS := Lib.hid kS
      have HB := Lib.hid hB
      have HO := Lib.hid hold'
      clear hF e16 kS hB hold hold'
      go_wp2_with (first | (refine wpList_load_row rfl 23 (.tmp 3) rfl (w.heap.size + 1 + 1) rfl 23 (ks n) (0, 0) _ kT Tryd.underlying23 rfl (info_ks n) ?_) | (refine wpList_store_row rfl 23 (.tmp 2) (.tmp 25) rfl (w.heap.size + 1) (ks n) rfl rfl 23 _ kR (info_ks n) HO.out (ks_one n) ?_))
      exact bodyPost_ret (results_cell_row rfl _ _ (w.heap.size + 1) 23 (ks n) (0, 0) _ rfl HS.out Tryd.underlying23 rfl (info_ks n)) rfl ⟨rfl, HB.out⟩
end Go.Proofs.YtcijaoihcckofaaDoor
namespace Go.Proofs.YtcijaoihcckofaaDoor
set_option linter.unusedVariables false
set_option linter.unusedSimpArgs false
open Go Go.RowKit
/-- The number of columns. -/
def dval : List Nat → Nat
  | [] => 0
  | x :: r => x + 65536 * dval r
theorem dval_set : ∀ (l : List Nat) (j x : Nat), j < l.length → dval (l.set j x) + 65536 ^ j * l.getD j 0 = dval l + 65536 ^ j * x
  | [], j, x, h => absurd h (by simp)
  | y :: r, 0, x, _ => by simp [dval]; omega
  | y :: r, j + 1, x, h => by
    have ih := dval_set r j x (by simpa using h)
    show y + 65536 * dval (r.set j x) + 65536 ^ (j + 1) * (r.getD j 0) = y + 65536 * dval r + 65536 ^ (j + 1) * x
    rw [Nat.pow_succ, Nat.mul_comm (65536 ^ j) 65536, Nat.mul_assoc, Nat.mul_assoc]
    omega
theorem dval_zeros : ∀ n, dval (List.replicate n 0) = 0
  | 0 => rfl
  | n + 1 => by rw [List.replicate_succ, dval, dval_zeros n]
theorem dval_take_succ : ∀ (l : List Nat) (j : Nat), j < l.length → dval (l.take (j + 1)) = dval (l.take j) + 65536 ^ j * l.getD j 0
  | [], j, h => absurd h (by simp)
  | y :: r, 0, _ => by simp [dval]
  | y :: r, j + 1, h => by
    have ih := dval_take_succ r j (by simpa using h)
    show y + 65536 * dval (r.take (j + 1)) = y + 65536 * dval (r.take j) + 65536 ^ (j + 1) * (r.getD j 0)
    rw [ih, Nat.pow_succ, Nat.mul_comm (65536 ^ j) 65536, Nat.mul_assoc]
    omega
theorem dval_split : ∀ (l : List Nat) (j : Nat), dval l = dval (l.take j) + 65536 ^ j * dval (l.drop j)
  | l, 0 => by simp [dval]
  | [], j + 1 => by simp [dval]
  | y :: r, j + 1 => by
    have ih := dval_split r j
    show y + 65536 * dval r = y + 65536 * dval (r.take j) + 65536 ^ (j + 1) * dval (r.drop j)
    rw [ih, Nat.pow_succ, Nat.mul_comm (65536 ^ j) 65536, Nat.mul_assoc]
    omega
theorem dval_drop (l : List Nat) (j : Nat) (h : j < l.length) : dval (l.drop j) = l.getD j 0 + 65536 * dval (l.drop (j + 1)) := by
  rw [List.drop_eq_getElem_cons h]
  simp [dval, List.getD, List.getElem?_eq_getElem h]
theorem getD_set (l : List Nat) (i j x : Nat) (h : i < l.length) : (l.set i x).getD j 0 = if j = i then x else l.getD j 0 := by
  by_cases e : j = i
  · subst e
    simp [List.getD, List.getElem?_set, h]
  · have : i ≠ j := fun h => e h.symm
    simp [List.getD, List.getElem?_set, this, e]
/-- What is over behind j columns; the digits. -/
def ovr (l : List Nat) (j : Nat) : Nat := dval (l.take j) / 65536 ^ j
theorem ovr_zero (l : List Nat) : ovr l 0 = 0 := by simp [ovr, dval]
theorem ovr_step (l : List Nat) (j : Nat) (h : j < l.length) : (l.getD j 0 + ovr l j) / 65536 = ovr l (j + 1) := by
  unfold ovr
  rw [dval_take_succ l j h, Nat.pow_succ, ← Nat.div_div_eq_div_mul, Nat.add_mul_div_left _ _ (Nat.pow_pos (by omega)), Nat.add_comm]
theorem ovr_digit (l : List Nat) (j : Nat) (h : j < l.length) : (l.getD j 0 + ovr l j) % 65536 = dval l / 65536 ^ j % 65536 := by
  unfold ovr
  conv => rhs; rw [dval_split l j, Nat.add_mul_div_left _ _ (Nat.pow_pos (by omega)), dval_drop l j h]
  omega
/-- What stands in the columns behind i rows. -/
def ColAt (n x y z i : Nat) (l : List Nat) : Prop := l.length = n ∧ dval l = z % 65536 ^ i + x % 65536 ^ i * y ∧ ∀ j, l.getD j 0 ≤ 4300000000 * i
/-- What stands in the columns in row i, behind k products. -/
def ColIn (n x y v i k : Nat) (l : List Nat) : Prop := l.length = n ∧ dval l = v + 65536 ^ i * (x / 65536 ^ i % 65536) * (y % 65536 ^ k) ∧ (∀ j, l.getD j 0 ≤ 4300000000 * (i + 1)) ∧ ∀ j, i + k ≤ j → l.getD j 0 ≤ 4300000000 * i + 65535
theorem col_start (n x y z : Nat) : ColAt n x y z 0 (List.replicate n 0) := by
  refine ⟨by simp, ?_, fun j => ?_⟩
  · rw [dval_zeros, Nat.pow_zero, Nat.mod_one, Nat.mod_one]
    simp
  · by_cases h : j < n <;> simp [List.getD, List.getElem?_replicate, h]
theorem col_in {n x y z i : Nat} {l : List Nat} (hi : i < n) (h : ColAt n x y z i l) : ColIn n x y (z % 65536 ^ (i + 1) + x % 65536 ^ i * y) i 0 (l.set i (l.getD i 0 + z / 65536 ^ i % 65536)) := by
  obtain ⟨h1, h2, h3⟩ := h
  have hz : z / 65536 ^ i % 65536 < 65536 := Nat.mod_lt _ (by omega)
  refine ⟨by rw [List.length_set, h1], ?_, fun j => ?_, fun j _ => ?_⟩
  · have hs := dval_set l i (l.getD i 0 + z / 65536 ^ i % 65536) (by omega)
    rw [Nat.pow_zero, Nat.mod_one, Nat.mul_zero, Nat.add_zero, Nat.mod_pow_succ]
    rw [Nat.mul_add, h2] at hs
    omega
  · have hl : i < l.length := by omega
    clear h2
    rw [getD_set _ _ _ _ hl]
    have e : 4300000000 * (i + 1) = 4300000000 * i + 4300000000 := Nat.mul_succ _ _
    have k1 := h3 j
    have k2 := h3 i
    generalize 4300000000 * (i + 1) = X at *
    generalize 4300000000 * i = Y at *
    split <;> omega
  · have hl : i < l.length := by omega
    clear h2
    rw [getD_set _ _ _ _ hl]
    have e : 4300000000 * (i + 1) = 4300000000 * i + 4300000000 := Nat.mul_succ _ _
    have k1 := h3 j
    have k2 := h3 i
    generalize 4300000000 * (i + 1) = X at *
    generalize 4300000000 * i = Y at *
    split <;> omega
theorem col_step {n x y v i k : Nat} {l : List Nat} (hk : i + k < n) (h : ColIn n x y v i k l) :
    ColIn n x y v i (k + 1) (l.set (i + k) (l.getD (i + k) 0 + x / 65536 ^ i % 65536 * (y / 65536 ^ k % 65536))) ∧ l.getD (i + k) 0 ≤ 4300000000 * i + 65535 ∧ x / 65536 ^ i % 65536 * (y / 65536 ^ k % 65536) ≤ 4294836225 := by
  obtain ⟨h1, h2, h3, h4⟩ := h
  have hp : x / 65536 ^ i % 65536 * (y / 65536 ^ k % 65536) ≤ 65535 * 65535 := by
    have hx := Nat.mod_lt (x / 65536 ^ i) (show 0 < 65536 by omega)
    have hy := Nat.mod_lt (y / 65536 ^ k) (show 0 < 65536 by omega)
    exact Nat.mul_le_mul (by omega) (by omega)
  have hc := h4 (i + k) (Nat.le_refl _)
  refine ⟨⟨by rw [List.length_set, h1], ?_, fun j => ?_, fun j hj => ?_⟩, hc, by omega⟩
  · have hs := dval_set l (i + k) (l.getD (i + k) 0 + x / 65536 ^ i % 65536 * (y / 65536 ^ k % 65536)) (by omega)
    rw [Nat.mod_pow_succ, Nat.mul_add]
    rw [Nat.mul_add, h2] at hs
    have e : 65536 ^ i * (x / 65536 ^ i % 65536) * (65536 ^ k * (y / 65536 ^ k % 65536)) = 65536 ^ (i + k) * (x / 65536 ^ i % 65536 * (y / 65536 ^ k % 65536)) := by
      rw [Nat.pow_add]
      ac_rfl
    rw [e]
    omega
  · rw [getD_set _ _ _ _ (by omega)]
    have := h3 j
    split <;> omega
  · rw [getD_set _ _ _ _ (by omega), if_neg (by omega)]
    exact h4 j (by omega)
theorem col_end {n x y z i : Nat} {l : List Nat} (hy : y < 65536 ^ 16) (h : ColIn n x y (z % 65536 ^ (i + 1) + x % 65536 ^ i * y) i 16 l) : ColAt n x y z (i + 1) l := by
  obtain ⟨h1, h2, h3, h4⟩ := h
  refine ⟨h1, ?_, h3⟩
  rw [h2, Nat.mod_eq_of_lt hy, Nat.mod_pow_succ (b := 65536) (x := x), Nat.add_mul]
  omega
theorem col_all {n x y z : Nat} {l : List Nat} (hx : x < 65536 ^ 16) (hz : z < 65536 ^ 16) (h : ColAt n x y z 16 l) : dval l = x * y + z := by
  rw [h.2.1, Nat.mod_eq_of_lt hx, Nat.mod_eq_of_lt hz, Nat.add_comm]
/-- The cells of columns. -/
def cs64 (l : List Nat) : Array Value := ncs .u64 l
theorem cs64_size (l : List Nat) : (cs64 l).size = l.length := ncs_size _ _
theorem cs64_get (l : List Nat) {j : Nat} (h : j < l.length) : (cs64 l)[j]? = some (.int .u64 ((l.getD j 0 : Nat) : Int)) := by
  rw [cs64, ncs_get]
  simp [List.getD, List.getElem?_eq_getElem h]
  rfl
theorem cs64_set (l : List Nat) (j x : Nat) : (cs64 l).setIfInBounds j (.int .u64 (x : Int)) = cs64 (l.set j x) := ncs_set _ _ _ _
/-- 'make([]uint64, n)'. -/
theorem run_mku {P : Program} (t e : TypeId) (ht : P.underlying t = some (.slice e)) (he : (P.info? e).map (fun i => (i.zero, i.size, i.bytes)) = some (some (.int .u64 0), 1, 8)) (n : Nat) (hn : n ≤ 1000000) (W : World) :
    (Instr.makeSlice t (.int .i64 (n : Int)) (.int .i64 (n : Int))).run P W = .ok (.slice (some ⟨W.heap.size, 0, none⟩) n n) (W.alloc (.cells (cs64 (List.replicate n 0)) e)) := by
  obtain ⟨i, hi, hz, hs, hb⟩ := info_parts he
  have h := run_make (P := P) W t e i _ ht hi hz .i64 .i64 (n : Int) (n : Int) (by omega) (by omega) (by rw [hb]; omega) (by omega)
  simp only [Int.toNat_natCast, hs, Nat.mul_one] at h
  rw [h]
  have : madeCells (Value.int .u64 0).cells n = cs64 (List.replicate n 0) := by
    apply Array.toList_inj.1
    show (madeCells #[Value.int .u64 0] n).toList = _
    rw [toList_madeCells_one]
    simp [cs64, ncs, nc, List.map_replicate]
  rw [this]
theorem info_u64 : (Tryd.prog.info? 24).map (fun i => (i.zero, i.size, i.bytes)) = some (some (.int .u64 0), 1, 8) := by kernel_rfl
end Go.Proofs.YtcijaoihcckofaaDoor
namespace Go.Proofs.YtcijaoihcckofaaDoor
set_option linter.unusedVariables false
set_option linter.unusedSimpArgs false
open Go Go.RowKit
theorem cs64_at (l : List Nat) (i : Nat) : (cs64 l)[i]? = l[i]?.map (nc .u64) := ncs_get _ _ _
/-- The slice '(A, n, c)' reads as the bytes l; what is read lies below block B. -/
structure US (w : World) (B : Nat) (A : Option Addr) (n c : Nat) (l : List Nat) : Prop where
  len : l.length = n
  cap : n ≤ c
  nil_ : A = none → c = 0
  at_ : 0 < n → ∃ b o, A = some ⟨b, o, none⟩ ∧ b < B ∧ ∀ (j x : Nat), l[j]? = some x → w.cell? ⟨b, o + j, none⟩ = some (.int .u64 (x : Int))
section
variable {w w' : World} {B B' n c : Nat} {A : Option Addr} {l : List Nat}
theorem US.nil (w : World) (B : Nat) : US w B none 0 0 [] := ⟨rfl, Nat.le_refl _, fun _ => rfl, fun h => absurd h (by omega)⟩
theorem US.keep (h : US w B A n c l) (hk : ∀ p : Addr, p.block < B → w'.cell? p = w.cell? p) : US w' B A n c l :=
  ⟨h.len, h.cap, h.nil_, fun hn => by
    obtain ⟨b, o, e, hb, hc⟩ := h.at_ hn
    exact ⟨b, o, e, hb, fun j x hx => (hk _ hb).trans (hc j x hx)⟩⟩
theorem US.more (h : US w B A n c l) (hB : B ≤ B') : US w B' A n c l :=
  ⟨h.len, h.cap, h.nil_, fun hn => by
    obtain ⟨b, o, e, hb, hc⟩ := h.at_ hn
    exact ⟨b, o, e, by omega, hc⟩⟩
theorem US.below (h : US w B A n c l) (hb : Below B w w') : US w' B A n c l := h.keep fun _ hp => hb.cell hp
theorem US.drew (h : US w B A n c l) : US w.drew B A n c l := ⟨h.1, h.2, h.3, h.4⟩
theorem US.alloc (h : US w B A n c l) (hB : B ≤ w.heap.size) (o : Obj) : US (w.alloc o) B A n c l := h.keep fun p hp => World.cell?_alloc_lt w o p (by omega)
theorem US.setCell (h : US w B A n c l) {p : Addr} (hB : B ≤ p.block) (u : Value) : US (w.setCell p u) B A n c l :=
  h.keep fun q hq => World.cell?_setCell_other w p q u (fun e => by subst e; omega)
theorem US.grown (h : US w B A n c l) {row : Option Nat} (hg : w.grownBy w' row) (hB : B ≤ w.heap.size) (hr : ∀ g, row = some g → B ≤ g) : US w' B A n c l :=
  h.keep fun p hp => World.cell?_of_block (hg.block p.block (by omega) (fun e => by have := hr _ e.symm; omega))
/-- What is read there is the block's. -/
theorem US.ofBlk {g : Nat} {t : TypeId} (h : Blk w g t (cs64 l)) (n : Nat) (hn : n = l.length) (B : Nat) (hB : g < B) : US w B (some ⟨g, 0, none⟩) n n l :=
  ⟨hn.symm, Nat.le_refl _, (by intro e; cases e), fun _ => ⟨g, 0, rfl, hB, fun j x hx => by rw [Nat.zero_add, h.cell, cs64_at, hx]; rfl⟩⟩
theorem US.at' (h : US w B A n c l) {k : Nat} (hk : k < n) : ∃ b o x, A = some ⟨b, o, none⟩ ∧ b < B ∧ l[k]? = some x ∧ w.cell? ⟨b, o + k, none⟩ = some (.int .u64 (x : Int)) := by
  obtain ⟨b, o, e, hb, hc⟩ := h.at_ (by omega)
  have hl : k < l.length := by have := h.len; omega
  exact ⟨b, o, l[k], e, hb, List.getElem?_eq_getElem hl, hc k _ (List.getElem?_eq_getElem hl)⟩
end
/-- The slice v of bytes l is the call's own: nil and nothing, or the head of a block from 'base' on. -/
def OwnU (w : World) (base : Nat) (e : TypeId) (v : Value) (l : List Nat) : Prop := w.ownsRow base e 1 v l.length (l.map (nc .u64))
section
variable {w w' : World} {base : Nat} {e : TypeId} {v : Value} {l : List Nat}
theorem OwnU.nil (w : World) (base : Nat) (e : TypeId) : OwnU w base e (.slice none 0 0) [] := ⟨rfl, .inl ⟨rfl, rfl⟩⟩
theorem OwnU.alloc (h : OwnU w base e v l) (o : Obj) : OwnU (w.alloc o) base e v l := World.ownsRow.alloc h o
theorem OwnU.drew (h : OwnU w base e v l) : OwnU w.drew base e v l := h
theorem OwnU.ofBlk {g : Nat} (h : Blk w g e (cs64 l)) (n : Nat) (hn : n = l.length) (hm : n ≤ maxLen) (hb : base ≤ g) : OwnU w base e (.slice (some ⟨g, 0, none⟩) n n) l := by
  subst hn
  exact ⟨by simp, .inr ⟨g, _, _, rfl, hb, h, Nat.le_refl _, hm, by simp [cs64, ncs], by rw [List.take_of_length_le (by simp [cs64_size])]; simp [cs64, ncs]⟩⟩
theorem OwnU.form (h : OwnU w base e v l) : ∃ A n c, v = .slice A n c ∧ US w w.heap.size A n c l ∧ ∀ g, v.ownBlock = some g → base ≤ g := by
  have hlt := World.ownsRow.lt h
  rcases h.2 with ⟨rfl, h0⟩ | ⟨g, cap, cur, rfl, hb, hh, hc, hm, hs, ht⟩
  · obtain rfl : l = [] := List.eq_nil_of_length_eq_zero h0
    exact ⟨none, 0, 0, rfl, US.nil _ _, fun g hg => (hlt g hg).1⟩
  · refine ⟨_, _, _, rfl, ⟨rfl, hc, by intro e; (cases e), fun _ => ⟨g, 0, rfl, (hlt g rfl).2, fun j x hx => ?_⟩⟩, fun g hg => (hlt g hg).1⟩
    have := World.ownsRow.cells h (g := g) rfl j (nc .u64 x) (by simp [hx])
    rw [Addr.add_lit] at this
    exact this
theorem OwnU.own (h : OwnU w base e v l) {g : Nat} (hg : v.ownBlock = some g) : base ≤ g ∧ g < w.heap.size := World.ownsRow.lt h g hg
end
section
variable {P : Program} {w : World} {ops : Array Oper} {rest : List Oper} {o : Oper} {a : Act} {Q : Exit → Act → World → Prop}
end
section
variable {P : Program} {w : World} {ops : Array Oper} {o : Oper} {a : Act} {K : Act → World → Prop} {Q : Exit → Act → World → Prop} {E : Prop}
end
end Go.Proofs.YtcijaoihcckofaaDoor
namespace Go.Proofs.YtcijaoihcckofaaDoor
set_option linter.unusedVariables false
set_option linter.unusedSimpArgs false
open Go Go.RowKit
theorem OwnU.slice {w : World} {base : Nat} {e : TypeId} {v : Value} {l : List Nat} (h : OwnU w base e v l) (hl : 0 < l.length) : ∃ g cap, v = .slice (some ⟨g, 0, none⟩) l.length cap ∧ base ≤ g ∧ g < w.heap.size := by
  rcases h.2 with ⟨_, h0⟩ | ⟨g, cap, cur, rfl, hb, hg, _⟩
  · omega
  · exact ⟨g, cap, rfl, hb, (Array.getElem?_eq_some_iff.1 hg).1⟩
theorem OwnU.cell {w : World} {base g n cap : Nat} {e : TypeId} {l : List Nat} (h : OwnU w base e (.slice (some ⟨g, 0, none⟩) n cap) l) (hn : n = l.length) {j x : Nat} (hx : l[j]? = some x) : w.cell? ⟨g, j, none⟩ = some (.int .u64 (x : Int)) := by
  subst hn
  have hj := (List.getElem?_eq_some_iff.1 hx).1
  have h2 := World.ownsRow.cellAt (size := 1) h j (by omega)
  rw [h2, List.getElem?_map, hx]
  rfl
theorem OwnU.set {w : World} {base g n cap : Nat} {e : TypeId} {l : List Nat} (h : OwnU w base e (.slice (some ⟨g, 0, none⟩) n cap) l) (hn : n = l.length) (j x : Nat) :
    OwnU (w.setCell ⟨g, j, none⟩ (.int .u64 (x : Int))) base e (.slice (some ⟨g, 0, none⟩) n cap) (l.set j x) ∧ w.grownBy (w.setCell ⟨g, j, none⟩ (.int .u64 (x : Int))) (some g) := by
  subst hn
  obtain ⟨h1, h2⟩ := World.ownsRow.stored (size := 1) h j (.int .u64 (x : Int))
  refine ⟨?_, h2⟩
  unfold OwnU
  rw [List.length_set, List.map_set]
  exact h1
end Go.Proofs.YtcijaoihcckofaaDoor
namespace Go.Proofs.YtcijaoihcckofaaDoor
set_option linter.unusedVariables false
set_option linter.unusedSimpArgs false
open Go Go.RowKit
theorem US.head {w : World} {B n c : Nat} {A : Option Addr} {l : List Nat} (h : US w B A n c l) {k : Nat} (hk : k ≤ n) : US w B A k c (l.take k) :=
  ⟨by rw [List.length_take, h.len]; omega, by have := h.cap; omega, h.nil_, fun hp => by
    obtain ⟨b, o, e, hb, hc⟩ := h.at_ (by omega)
    refine ⟨b, o, e, hb, fun j x hx => hc j x ?_⟩
    rw [List.getElem?_take] at hx
    split at hx
    · exact hx
    · cases hx⟩
end Go.Proofs.YtcijaoihcckofaaDoor
namespace Go.Proofs.YtcijaoihcckofaaDoor
set_option linter.unusedVariables false
set_option linter.unusedSimpArgs false
open Go.RowKit
theorem less_top {a b k : Nat} (h : a / 65536 ^ (k + 1) = b / 65536 ^ (k + 1)) (hne : a / 65536 ^ k % 65536 ≠ b / 65536 ^ k % 65536) : decide (a / 65536 ^ k % 65536 < b / 65536 ^ k % 65536) = decide (a < b) := by
  rw [Nat.pow_succ, ← Nat.div_div_eq_div_mul, ← Nat.div_div_eq_div_mul] at h
  have h1 : a < b → a / 65536 ^ k ≤ b / 65536 ^ k := fun h => Nat.div_le_div_right (Nat.le_of_lt h)
  have h2 : b ≤ a → b / 65536 ^ k ≤ a / 65536 ^ k := fun h => Nat.div_le_div_right h
  rw [decide_eq_decide]
  constructor
  · intro h3
    apply Nat.lt_of_not_le
    intro h4
    have := h2 h4
    omega
  · intro h3
    have := h1 h3
    omega
theorem less_down {a b k : Nat} (h : a / 65536 ^ (k + 1) = b / 65536 ^ (k + 1)) (he : a / 65536 ^ k % 65536 = b / 65536 ^ k % 65536) : a / 65536 ^ k = b / 65536 ^ k := by
  rw [Nat.pow_succ, ← Nat.div_div_eq_div_mul, ← Nat.div_div_eq_div_mul] at h
  omega
set_option maxRecDepth 100000 in
set_option maxHeartbeats 1000000 in
theorem rless_any (a b : Nat) (w : World) (ha : a < 115792089237316195423570985008687907853269984665640564039457584007913129639936) (hb : b < 115792089237316195423570985008687907853269984665640564039457584007913129639936) :
    Calls Tryd.prog 54 #[.agg (ds a), .agg (ds b)] w (fun e w' => e = .returned (.bool (decide (a < b))) ∧ Below w.heap.size w w') := by
  have hfr := (((Fr.start w).row (ds a) 33 (g := w.heap.size) rfl).row (ds b) 33 (g := w.heap.size + 1) (by simp))
  have htop : a / 65536 ^ 16 = b / 65536 ^ 16 := by rw [Nat.div_eq_of_lt ha, Nat.div_eq_of_lt hb]
  have HFR := Lib.hid hfr
  have HT := Lib.hid htop
  clear hfr htop ha hb
  go_enter Tryd.func54, Tryd.ntmps54
  go_wp2_with (fail)
  go_loopw [5] (fun c wr => ∃ k : Nat, k ≤ 16 ∧ c = .int .i64 ((k : Int) - 1) ∧ a / 65536 ^ k = b / 65536 ^ k ∧ Fr w wr [(w.heap.size + 1, 33, ds b), (w.heap.size, 33, ds a)] []) (fun c _ => (intOf c + 1).toNat)
  case atStart => exact ⟨16, by omega, rfl, HT.out, HFR.out⟩
  case round =>
    obtain ⟨k, hk, rfl, he, hF⟩ := hrel
    cases k with
    | succ k =>
      have hA := hF.get (g := w.heap.size) (t := 33) (cs := ds a) (by simp)
      have hB := hF.get (g := w.heap.size + 1) (t := 33) (cs := ds b) (by simp)
      have hc : wr.cell? ⟨w.heap.size, k, none⟩ = some (.int .u64 ((a / 65536 ^ k % 65536 : Nat) : Int)) := by rw [hA.cell, ds_get _ (by omega)]
      have hd : wr.cell? ⟨w.heap.size + 1, k, none⟩ = some (.int .u64 ((b / 65536 ^ k % 65536 : Nat) : Int)) := by rw [hB.cell, ds_get _ (by omega)]
      have hlt := fun h => less_top (k := k) he h
      have hdn := fun h => less_down (k := k) he h
      have HL := Lib.hid hlt
      have HD := Lib.hid hdn
      have HF := Lib.hid hF
      have e1 : ((k + 1 : Nat) : Int) - 1 = (k : Int) := by omega
      rw [e1]
      clear hlt hdn hF hA hB he
      generalize a / 65536 ^ k % 65536 = x at *
      generalize b / 65536 ^ k % 65536 = y at *
      by_cases hxy : x = y
      · subst hxy
        have HE := Lib.hid (HD.out rfl)
        go_wp2
        go_region
        go_wp2
        exact ⟨⟨k, by omega, rfl, HE.out, HF.out.drew⟩, by simp [intOf] <;> omega⟩
      · have HE := Lib.hid (HL.out hxy)
        go_wp2
        go_region
        go_wp2
        go_region
        go_wp2
        rw [HE.out]
        go_ret
        exact ⟨rfl, HF.out.below.drew.drew⟩
    | zero =>
      rw [Nat.pow_zero, Nat.div_one, Nat.div_one] at he
      have hff : decide (a < b) = false := decide_eq_false (by omega)
      have HFF := Lib.hid hff
      have HF := Lib.hid hF
      clear hff hF he
      go_wp2
      rw [← HFF.out]
      go_ret
      exact ⟨rfl, HF.out.below⟩
end Go.Proofs.YtcijaoihcckofaaDoor
namespace Go.Proofs.YtcijaoihcckofaaDoor
set_option linter.unusedVariables false
set_option linter.unusedSimpArgs false
open Go.RowKit
theorem ds_put {n k x : Nat} (hk : k < 16) (hx : x < 65536) : (ds n).setIfInBounds k (.int .u64 (x : Int)) = ds (putd 65536 n k x) := by
  rw [ds, ncs_set, ds]
  congr 1
  apply List.ext_getElem?
  intro j
  rw [List.getElem?_set]
  by_cases hj : j < 16
  · rw [dg_get (putd 65536 n k x) hj, digit_put (by omega) hx (putd_eq 65536 n k x) j]
    by_cases e : k = j
    · subst e
      rw [if_pos rfl, if_pos rfl, dg_len, if_pos hk]
    · rw [if_neg e, if_neg (fun h => e h.symm), dg_get n hj]
  · have : k ≠ j := by omega
    rw [if_neg this, List.getElem?_eq_none (by rw [dg_len]; omega), List.getElem?_eq_none (by rw [dg_len]; omega)]
theorem d16 : (65536 : Nat) ^ 16 = 115792089237316195423570985008687907853269984665640564039457584007913129639936 := by decide
set_option maxRecDepth 100000 in
set_option maxHeartbeats 1000000 in
theorem rminus_any (a b : Nat) (w : World) (ha : a < 115792089237316195423570985008687907853269984665640564039457584007913129639936) (hb : b ≤ a) :
    Calls Tryd.prog 79 #[.agg (ds a), .agg (ds b)] w (NumPost (a - b) w) := by
  have hfr := (((Fr.start w).row (ds a) 33 (g := w.heap.size) rfl).row (ds b) 33 (g := w.heap.size + 1) (by simp)).any (ds 0) 33 16 (ds_size 0) (g := w.heap.size + 1 + 1) (by simp)
  rw [ds_zero] at hfr
  have HFR := Lib.hid hfr
  have HA := Lib.hid ha
  have HB0 := Lib.hid hb
  clear hfr ha hb
  go_enter Tryd.func79, Tryd.ntmps79
  go_wp2_with (fail)
  go_loopw [6, 5] (fun i q wr => ∃ k v c : Nat, k ≤ 16 ∧ i = .int .i64 k ∧ q = .int .u64 c ∧ TakeAt 65536 a b k v c ∧ Fr w wr [(w.heap.size, 33, ds v), (w.heap.size + 1, 33, ds b)] [(w.heap.size + 1 + 1, 33, 16)]) (fun i _ _ => 16 - (intOf i).toNat)
  case atStart => exact ⟨0, a, 0, by omega, rfl, rfl, take_start _ _ _, HFR.out.sub (by simp) (by simp)⟩
  case round =>
    obtain ⟨k, v, c, hk, rfl, rfl, hT, hF⟩ := hrel
    clear HFR
    by_cases hlt : k < 16
    · have hV := hF.get (g := w.heap.size) (t := 33) (cs := ds v) (by simp)
      have hB := hF.get (g := w.heap.size + 1) (t := 33) (cs := ds b) (by simp)
      have cv : wr.cell? ⟨w.heap.size, k, none⟩ = some (.int .u64 ((v / 65536 ^ k % 65536 : Nat) : Int)) := by rw [hV.cell, ds_get _ hlt]
      have cb : wr.cell? ⟨w.heap.size + 1, k, none⟩ = some (.int .u64 ((b / 65536 ^ k % 65536 : Nat) : Int)) := by rw [hB.cell, ds_get _ hlt]
      have hf := hV.frozen k
      have hc := hT.2.2
      have hx : v / 65536 ^ k % 65536 < 65536 := Nat.mod_lt _ (by omega)
      have hy : b / 65536 ^ k % 65536 < 65536 := Nat.mod_lt _ (by omega)
      have hst := fun n => @take_step 65536 a b k v c n (by omega) hT
      have hpt := fun n h => @ds_put v k n hlt h
      have HST := Lib.hid hst
      have HPT := Lib.hid hpt
      have HF := Lib.hid hF
      clear hst hpt hT hF hV hB
      generalize v / 65536 ^ k % 65536 = x at *
      generalize b / 65536 ^ k % 65536 = y at *
      go_wp2
      go_region
      go_wp2
      go_roundw
      case rel =>
        obtain ⟨n, hn⟩ : ∃ n, n = x + 65536 - y - c := ⟨_, rfl⟩
        have e1 : (x : Int) + 65536 - y - c = (n : Int) := by omega
        have e2 : (1 : Int) - (n : Int) / 65536 = ((1 - n / 65536 : Nat) : Int) := by omega
        have e3 : (n : Int) % 65536 = ((n % 65536 : Nat) : Int) := by omega
        rw [e1, e2, e3]
        refine ⟨k + 1, _, _, by omega, by go_num, rfl, HST.out n (by omega), ?_⟩
        rw [← HPT.out (n % 65536) (by omega)]
        exact (HF.out.drew).setHead (by simp <;> omega) (by simp <;> omega) _ _ (by omega)
      case measure => simp [intOf] <;> omega
    · obtain rfl : k = 16 := by omega
      obtain rfl := take_end hT (by rw [d16]; exact HA.out) HB0.out
      generalize a - b = m at *
      have kT := hF.get (g := w.heap.size) (t := 33) (cs := ds m) (by simp)
      obtain ⟨old, hold, kR⟩ := hF.old (g := w.heap.size + 1 + 1) (t := 33) (n := 16) (by simp)
      have kS := kR.setRow_same (ds m)
      have hB := below_setRow hF.below (show w.heap.size ≤ w.heap.size + 1 + 1 by omega) (ds m)
      have hold' : old.size = (ds m).size := by rw [hold, ds_size]
      have HS := Lib.hid kS
      have HB := Lib.hid hB
      have HO := Lib.hid hold'
      clear hF kS hB hold hold' hT
      go_wp2_with (first | (refine wpList_load_row rfl 33 (.tmp 2) rfl (w.heap.size) rfl 33 (ds m) (0, 0) _ kT Tryd.underlying33 rfl (info_ds m) ?_) | (refine wpList_store_row rfl 33 (.tmp 4) (.tmp 29) rfl (w.heap.size + 1 + 1) (ds m) rfl rfl 33 old kR (info_ds m) HO.out (ds_one _) ?_))
      exact bodyPost_ret (results_cell_row rfl _ _ (w.heap.size + 1 + 1) 33 (ds m) (0, 0) _ rfl HS.out Tryd.underlying33 rfl (info_ds m)) rfl ⟨rfl, HB.out⟩
end Go.Proofs.YtcijaoihcckofaaDoor
namespace Go.Proofs.YtcijaoihcckofaaDoor
set_option linter.unusedVariables false
set_option linter.unusedSimpArgs false
open Go Go.RowKit
theorem Fr.grow {w W W' : World} {L : List (Nat × TypeId × Array Value)} {R : List (Nat × TypeId × Nat)} {row : Option Nat} (h : Fr w W L R) (hg : W.grownBy W' row) (hL : ∀ p ∈ L, some p.1 ≠ row) (hR : ∀ p ∈ R, some p.1 ≠ row) (hw : ∀ g, row = some g → w.heap.size ≤ g) : Fr w W' L R :=
  ⟨h.below.grown hg h.below.size hw, fun p hp => (h.rows p hp).grown hg (hL p hp), fun p hp => by
    obtain ⟨cs, e, k⟩ := h.some_ p hp
    exact ⟨cs, e, k.grown hg (hR p hp)⟩, h.own⟩
theorem Fr.keep {w W W' : World} {L : List (Nat × TypeId × Array Value)} {R : List (Nat × TypeId × Nat)} {B : Nat} (h : Fr w W L R) (hb : Below B W W') (hB : w.heap.size ≤ B) (hL : ∀ p ∈ L, p.1 < B) (hR : ∀ p ∈ R, p.1 < B) : Fr w W' L R :=
  ⟨h.below.trans (hb.mono hB), fun p hp => (h.rows p hp).below hb (hL p hp), fun p hp => by
    obtain ⟨cs, e, k⟩ := h.some_ p hp
    exact ⟨cs, e, k.below hb (hR p hp)⟩, h.own⟩
theorem OwnU.frozen {w : World} {base g n cap : Nat} {e : TypeId} {l : List Nat} (h : OwnU w base e (.slice (some ⟨g, 0, none⟩) n cap) l) (hn : n = l.length) (j : Nat) : w.frozen? ⟨g, j, none⟩ = false := by
  subst hn
  exact World.ownsRow.frozenAt (size := 1) h j
end Go.Proofs.YtcijaoihcckofaaDoor
namespace Go.Proofs.YtcijaoihcckofaaDoor
set_option linter.unusedVariables false
set_option linter.unusedSimpArgs false
open Go Go.RowKit
/-- N, of which the first i digits are those of its half. -/
def hgl (N i : Nat) : List Nat := (List.range 16).map fun j => if j < i then N / 2 / 65536 ^ j % 65536 else N / 65536 ^ j % 65536
def hg (N i : Nat) : Array Value := ncs .u64 (hgl N i)
end Go.Proofs.YtcijaoihcckofaaDoor
namespace Go.Proofs.YtcijaoihcckofaaDoor
set_option linter.unusedVariables false
set_option linter.unusedSimpArgs false
open Go.RowKit
/-- A number's digits, of a number modulo p. -/
def dv (x : Fin PP) : Array Value := ds x.val
theorem dv_size (x : Fin PP) : (dv x).size = 16 := ds_size _
section
variable {x y z : Fin PP}
end
end Go.Proofs.YtcijaoihcckofaaDoor
namespace Go.Proofs.YtcijaoihcckofaaDoor
set_option linter.unusedVariables false
set_option linter.unusedSimpArgs false
open Go.RowKit
theorem ks_put {n k x : Nat} (hk : k < 32) (hx : x < 256) : (ks n).setIfInBounds k (.int .u8 (x : Int)) = ks (putd 256 n k x) := by
  rw [ks, ncs_set, ks]
  congr 1
  apply List.ext_getElem?
  intro j
  rw [List.getElem?_set]
  by_cases hj : j < 32
  · rw [kb_get (putd 256 n k x) hj, digit_put (by omega) hx (putd_eq 256 n k x) j]
    by_cases e : k = j
    · subst e
      rw [if_pos rfl, if_pos rfl, kb_len, if_pos hk]
    · rw [if_neg e, if_neg (fun h => e h.symm), kb_get n hj]
  · have : k ≠ j := by omega
    rw [if_neg this, List.getElem?_eq_none (by rw [kb_len]; omega), List.getElem?_eq_none (by rw [kb_len]; omega)]
end Go.Proofs.YtcijaoihcckofaaDoor
namespace Go.Proofs.YtcijaoihcckofaaDoor
set_option linter.unusedVariables false
set_option linter.unusedSimpArgs false
set_option maxRecDepth 100000
open Go.RowKit
theorem inv_num : num4 18446744073709551595 18446744073709551615 18446744073709551615 9223372036854775807 = PP - 2 := by decide +kernel
theorem es_inv : es (PP - 2) = #[.int .u64 18446744073709551595, .int .u64 18446744073709551615, .int .u64 18446744073709551615, .int .u64 9223372036854775807] := es_of_num4 inv_num.symm (by decide) (by decide) (by decide) (by decide)
theorem info_w4s (n : Nat) : (Tryd.prog.info? 25).map (·.size) = some (es n).size := info_w4
set_option maxHeartbeats 1000000 in
theorem inv_any (x : Fin PP) (w : World) (hpg : PG w) : Calls Tryd.prog 38 #[.agg (ev x)] w (EPost (x ^ (PP - 2)) w) := by
  have hfr := (((Fr.start w).row (ev x) 27 (g := w.heap.size) rfl).any (es 0) 27 4 rfl (g := w.heap.size + 1) (by simp)).row (es (PP - 2)) 25 (g := w.heap.size + 1 + 1) (by simp)
  rw [es_zero] at hfr
  have hfr2 := hfr
  rw [es_inv] at hfr2
  have HFR := Lib.hid hfr2
  clear hfr hfr2
  have HPG := Lib.hid hpg
  obtain ⟨hz, p0, p1, p2, p3⟩ := hpg
  have e1 : ¬ (0 = w.heap.size) := by omega
  have e2 : ¬ (w.heap.size = 0) := by omega
  have e3 : ¬ (w.heap.size = 0) := by omega
  have e4 : ¬ (0 = w.heap.size + 1) := by omega
  have e5 : 0 < w.heap.size + 1 + 1 := by omega
  have e6 : 0 < w.heap.size + 1 := by omega
  have e7 : 0 < w.heap.size + 1 + 1 + 1 := by omega
  go_enter Tryd.func38, Tryd.ntmps38
  go_wp2_with (fail)
  refine wp_region_held_drew (S := fun W => Fr w W [(w.heap.size + 1 + 1, 25, es (PP - 2)), (w.heap.size, 27, ev x)] [(w.heap.size + 1, 27, 4)]) (by kernel_rfl) ?_ (fun hHeld => ?_)
  · exact (by rw [es_inv]; exact HFR.out.drew)
  refine wpAnyH_take (i := 0) (v := .agg (ev x)) rfl (by kernel_rfl) (by kernel_rfl) (by kernel_rfl) (fun _ _ _ h => h) (yields_row (by rfl) 27 (.tmp 1) rfl (w.heap.size) rfl 27 (ev x) _ (fun W (h : Fr _ W _ _) => h.get (by simp)) Tryd.underlying27 rfl (info_ev _)) hHeld ?_
  try simp only [Act.put, List.getElem_toArray, List.getElem_cons_succ, List.getElem_cons_zero, List.setIfInBounds_toArray, List.set_cons_zero, List.set_cons_succ]
  refine wpAnyH_take (i := 1) (v := .agg (es (PP - 2))) rfl (by kernel_rfl) (by kernel_rfl) (by kernel_rfl) (fun _ _ _ h => h) (yields_row (by rfl) 25 (.tmp 3) rfl (w.heap.size + 1 + 1) rfl 25 (es (PP - 2)) _ (fun W (h : Fr _ W _ _) => h.get (by simp)) Tryd.underlying25 rfl (info_w4s _)) hHeld ?_
  try simp only [Act.put, List.getElem_toArray, List.getElem_cons_succ, List.getElem_cons_zero, List.setIfInBounds_toArray, List.set_cons_zero, List.set_cons_succ]
  refine wpAnyH_ready (rs := [2]) (by kernel_rfl) (by simp) (AllReadyH.cons rfl (fun K hK => ?_) AllReadyH.nil)
  have h0 := hHeld
  clear hHeld
  try simp only [List.getElem_toArray, List.getElem_cons_succ, List.getElem_cons_zero]
  have H0 := Lib.hid h0
  clear h0
  go_simp
  go_at_call 73
  refine (bytesOf_any (PP - 2) _ (by decide +kernel)).mono ?_
  rintro e vv ⟨rfl, hb⟩
  have h1 := H0.out.ext hb
  clear hb H0
  go_wp2_with (fail)
  refine hK.out _ _ h1 (fun hHeld => ?_)
  clear hK K h1
  try simp only [Act.put, List.getElem_toArray, List.getElem_cons_succ, List.getElem_cons_zero, List.setIfInBounds_toArray, List.set_cons_zero, List.set_cons_succ]
  refine wpAnyH_ready (rs := [3]) (by kernel_rfl) (by simp) (AllReadyH.cons rfl (fun K hK => ?_) AllReadyH.nil)
  have h0 := hHeld
  clear hHeld
  try simp only [List.getElem_toArray, List.getElem_cons_succ, List.getElem_cons_zero]
  have H0 := Lib.hid h0
  clear h0
  go_simp
  go_at_call 72
  refine (powerF x _ (PP - 2) (Fr.pg H0.out HPG.out) (by decide +kernel)).mono ?_
  rintro e vv ⟨rfl, hb⟩
  have h1 := H0.out.ext hb
  clear hb H0
  go_wp2_with (fail)
  refine hK.out _ _ h1 (fun hHeld => ?_)
  clear hK K h1
  try simp only [Act.put, List.getElem_toArray, List.getElem_cons_succ, List.getElem_cons_zero, List.setIfInBounds_toArray, List.set_cons_zero, List.set_cons_succ]
  refine wpAnyH_ready (rs := [4]) (by kernel_rfl) (by simp) (AllReadyH.cons rfl (fun K hK => ?_) AllReadyH.nil)
  have h0 := hHeld
  clear hHeld
  try simp only [List.getElem_toArray, List.getElem_cons_succ, List.getElem_cons_zero]
  rw [if_pos (by rfl)]
  obtain ⟨old, hold, kold⟩ := Fr.old h0 (g := w.heap.size + 1) (t := 27) (n := 4) (by simp)
  refine wp_store_row 27 (.tmp 2) (.tmp 12) rfl (w.heap.size + 1) (ev (x ^ (PP - 2))) rfl rfl 27 old kold (info_ev _) hold (ev_one _) ?_
  refine hK.out _ _ (Fr.setAny h0 (g := w.heap.size + 1) (t := 27) (ev_size _) (by simp) (by simp <;> omega)) (fun hHeld => ?_)
  have kb := kold.setRow_same (ev (x ^ (PP - 2)))
  clear hK K h0 hold
  try simp only [Act.put, List.getElem_toArray, List.getElem_cons_succ, List.getElem_cons_zero, List.setIfInBounds_toArray, List.set_cons_zero, List.set_cons_succ]
  refine wpAnyH_done (by kernel_rfl) ?_ _
  have HF := Lib.hid hHeld
  clear hHeld
  go_wp2_with (fail)
  exact elem_end (g := w.heap.size + 1) rfl rfl rfl kb HF.out.below
end Go.Proofs.YtcijaoihcckofaaDoor
namespace Go.Proofs.YtcijaoihcckofaaDoor
set_option linter.unusedVariables false
set_option linter.unusedSimpArgs false
set_option maxRecDepth 100000
open Go.RowKit
theorem invR {x y : Fin PP} (h : y = x ^ (PP - 2)) (w : World) (hp : PG w) : Calls Tryd.prog 38 #[.agg (ev x)] w (EPost y w) := by
  have h2 := inv_any x w hp
  rw [← h] at h2
  exact h2
end Go.Proofs.YtcijaoihcckofaaDoor
namespace Go.Proofs.YtcijaoihcckofaaDoor
set_option linter.unusedVariables false
set_option linter.unusedSimpArgs false
set_option maxRecDepth 100000
open Go.RowKit
theorem ofR {n : Nat} {x : Fin PP} (h : x = ofK n) (w : World) (hp : PG w) (hn : n < 115792089237316195423570985008687907853269984665640564039457584007913129639936) : Calls Tryd.prog 32 #[.agg (ks n)] w (EPost x w) := by
  rw [h]
  exact ofF n w hp hn
theorem size_u8' (W : World) : (sizeOf 5).run Tryd.prog W = .ok 1 W := by kernel_rfl
end Go.Proofs.YtcijaoihcckofaaDoor
namespace Go.Proofs.YtcijaoihcckofaaDoor
set_option linter.unusedVariables false
set_option linter.unusedSimpArgs false
open Go.RowKit
theorem keys_same (n : Nat) (W : World) : (Op.equalIn 10000 23 (.agg (ks n)) (.agg (ks n))).run Tryd.prog W = .ok true W := by
  have h2 := run_equalIn_nats (P := Tryd.prog) W 9998 23 5 32 .u8 Tryd.underlying23 Tryd.underlying5 size_u8' (kb n) (kb n) (kb_len n) (kb_len n)
  rw [show (kb n == kb n) = true by simp] at h2
  exact h2
end Go.Proofs.YtcijaoihcckofaaDoor
namespace Go.Proofs.YtcijaoihcckofaaDoor
set_option linter.unusedVariables false
set_option linter.unusedSimpArgs false
set_option maxRecDepth 100000
open Go.RowKit
section
variable {p : Nat} [NeZero p] {e : Nat} {i u v p0 : Fin p}
end
end Go.Proofs.YtcijaoihcckofaaDoor
namespace Go.Proofs.YtcijaoihcckofaaDoor
set_option linter.unusedVariables false
set_option linter.unusedSimpArgs false
set_option maxRecDepth 100000
open Go Go.RowKit
theorem al_elem (W : World) : (Instr.alloc 27 true (.tuple #[])).run Tryd.prog W = .ok (.pointer (some ⟨W.heap.size, 0, none⟩)) (W.alloc (.cells #[.int .u64 0, .int .u64 0, .int .u64 0, .int .u64 0] 27)) := by kernel_rfl
theorem bx_elem (x : Fin PP) (W : World) : (Instr.box 27 (.agg (ev x))).run Tryd.prog W = .ok (.pointer (some ⟨W.heap.size, 0, none⟩)) (W.alloc (.cells (ev x) 27)) := by kernel_rfl
theorem al_pt (W : World) : (Instr.alloc 29 true (.tuple #[])).run Tryd.prog W = .ok (.pointer (some ⟨W.heap.size, 0, none⟩)) (W.alloc (.cells #[.int .u64 0, .int .u64 0, .int .u64 0, .int .u64 0, .int .u64 0, .int .u64 0, .int .u64 0, .int .u64 0, .int .u64 0, .int .u64 0, .int .u64 0, .int .u64 0, .int .u64 0, .int .u64 0, .int .u64 0, .int .u64 0] 29)) := by kernel_rfl
theorem bx_pt (s : L4 PP) (W : World) : (Instr.box 29 (.agg (sv s))).run Tryd.prog W = .ok (.pointer (some ⟨W.heap.size, 0, none⟩)) (W.alloc (.cells (sv s) 29)) := by kernel_rfl
theorem info_pt (s : L4 PP) : (Tryd.prog.info? 29).map (·.size) = some (sv s).size := by rw [sv_size]; kernel_rfl
theorem fa_pt (g : Nat) (W : World) : (Instr.fieldAt 29 (.pointer (some ⟨g, 0, none⟩)) 0).run Tryd.prog W = .ok (.pointer (some ⟨g, 4 * 0, none⟩)) W ∧ (Instr.fieldAt 29 (.pointer (some ⟨g, 0, none⟩)) 1).run Tryd.prog W = .ok (.pointer (some ⟨g, 4 * 1, none⟩)) W ∧ (Instr.fieldAt 29 (.pointer (some ⟨g, 0, none⟩)) 2).run Tryd.prog W = .ok (.pointer (some ⟨g, 4 * 2, none⟩)) W ∧ (Instr.fieldAt 29 (.pointer (some ⟨g, 0, none⟩)) 3).run Tryd.prog W = .ok (.pointer (some ⟨g, 4 * 3, none⟩)) W := by
  refine ⟨by kernel_rfl, by kernel_rfl, by kernel_rfl, by kernel_rfl⟩
theorem ld_pt {g : Nat} {t : TypeId} {s : L4 PP} {k : Nat} (hk : k < 4) (W : World) (h : Blk W g t (sv s)) : (Instr.loadAt 27 (.pointer (some ⟨g, 4 * k, none⟩))).run Tryd.prog W = .ok (.agg (ev (s.at4 k))) W :=
  run_loadAt_mid W g (4 * k) 27 (ev (s.at4 k)).toList _ (range_sv h hk) Tryd.underlying27 rfl (info_ev _)
theorem bd_pt (a b c d : Fin PP) (W : World) : (Instr.build 29 [(0, .agg (ev a)), (1, .agg (ev b)), (2, .agg (ev c)), (3, .agg (ev d))].toArray).run Tryd.prog W = .ok (.agg (sv ⟨a, b, c, d⟩)) W :=
  run_build W 29 _ _ (by kernel_rfl)
theorem bd_elem0 (W : World) : (Instr.build 27 ([] : List (Nat × Value)).toArray).run Tryd.prog W = .ok (.agg (ev 0)) W := by kernel_rfl
/-- A zero Point. -/
def PZ : L4 PP := ⟨0, 0, 0, 0⟩
theorem PZ_rep : RepS Pt.nil PZ := RepS.zero rfl
theorem al_key (W : World) : (Instr.alloc 23 true (.tuple #[])).run Tryd.prog W = .ok (.pointer (some ⟨W.heap.size, 0, none⟩)) (W.alloc (.cells #[.int .u8 0, .int .u8 0, .int .u8 0, .int .u8 0, .int .u8 0, .int .u8 0, .int .u8 0, .int .u8 0, .int .u8 0, .int .u8 0, .int .u8 0, .int .u8 0, .int .u8 0, .int .u8 0, .int .u8 0, .int .u8 0, .int .u8 0, .int .u8 0, .int .u8 0, .int .u8 0, .int .u8 0, .int .u8 0, .int .u8 0, .int .u8 0, .int .u8 0, .int .u8 0, .int .u8 0, .int .u8 0, .int .u8 0, .int .u8 0, .int .u8 0, .int .u8 0] 23)) := by kernel_rfl
theorem bx_key (n : Nat) (W : World) : (Instr.box 23 (.agg (ks n))).run Tryd.prog W = .ok (.pointer (some ⟨W.heap.size, 0, none⟩)) (W.alloc (.cells (ks n) 23)) := by kernel_rfl
theorem addP {x y z : Fin PP} (h : z = x + y) (w : World) (hp : PG w) : Calls Tryd.prog 35 #[.agg (ev x), .agg (ev y)] w (EPost z w) := by rw [h]; exact addF x y w hp
theorem subP {x y z : Fin PP} (h : z = x - y) (w : World) (hp : PG w) : Calls Tryd.prog 37 #[.agg (ev x), .agg (ev y)] w (EPost z w) := by rw [h]; exact subF x y w hp
theorem mulP {x y z : Fin PP} (h : z = x * y) (w : World) (hp : PG w) : Calls Tryd.prog 36 #[.agg (ev x), .agg (ev y)] w (EPost z w) := by rw [h]; exact mulF x y w hp
theorem smallP {z : Fin PP} (n : Nat) (h : z = sm n) (hn : n < 18446744073709551616) (w : World) : Calls Tryd.prog 34 #[.int .u64 (n : Int)] w (EPost z w) := by rw [h]; exact smallF n w hn
theorem equalB {x y : Fin PP} {b : Bool} (h : decide (x = y) = b) (w : World) : Calls Tryd.prog 63 #[.agg (ev x), .agg (ev y)] w (BPost b w) := by subst h; exact equalF x y w
theorem ia_key31 (g : Nat) (W : World) : (Instr.indexAt 23 (.pointer (some ⟨g, 0, none⟩)) (.int .i64 31)).run Tryd.prog W = .ok (.pointer (some ⟨g, 31, none⟩)) W := by kernel_rfl
theorem ld_key31 {n x : Nat} (hx : n / 256 ^ 31 % 256 = x) {g : Nat} (W : World) (h : Blk W g 23 (ks n)) : (Instr.loadAt 5 (.pointer (some ⟨g, 31, none⟩))).run Tryd.prog W = .ok (.int .u8 (x : Int)) W := by
  have hc := h.cell 31
  rw [ks_get n (by omega), hx] at hc
  go_simp
theorem st_key31 {n : Nat} {v : Int} {g : Nat} (W : World) (h : Blk W g 23 (ks n)) : (Instr.storeAt 5 (.pointer (some ⟨g, 31, none⟩)) (.int .u8 v)).run Tryd.prog W = .ok () (W.setCells g 31 [.int .u8 v]) := by
  have hc := h.cell 31
  have hf := h.frozen 31
  rw [ks_get n (by omega)] at hc
  have hs : (W.cell? ⟨g, 31, none⟩).isSome = true := by rw [hc]; rfl
  show _ = Result.ok () (W.setCell ⟨g, 31, none⟩ (.int .u8 v))
  go_simp
theorem sv_key31 {n m : Nat} {x : Nat} (hx : x < 256) (hm : putd 256 n 31 x = m) : setV (ks n) 31 [.int .u8 (x : Int)] = ks m := by
  show (ks n).setIfInBounds 31 (.int .u8 (x : Int)) = ks m
  rw [ks_put (by omega) hx, hm]
theorem or128 {x : Nat} (hx : x < 128) : bits .or .u8 (x : Int) 128 = ((x + 128 : Nat) : Int) := by
  have h : ∀ x : Fin 128, bits .or .u8 ((x.val : Nat) : Int) 128 = ((x.val + 128 : Nat) : Int) := by decide +kernel
  exact h ⟨x, hx⟩
theorem b_or128 {x y : Nat} (hx : x < 128) (h : x + 128 = y) (p q : Operand) (W : World) : (do eqGuard .or 5 p q (.int .u8 (x : Int)) (.int .u8 128); binOp .or 5 (.int .u8 (x : Int)) (.int .u8 128) : Sem Value).run Tryd.prog W = .ok (.int .u8 (y : Int)) W := by
  have := or128 hx
  rw [h] at this
  go_simp
def fx (d : Fin PP) (s : L4 PP) : Array Value := ev d ++ sv s
theorem fx_size (d : Fin PP) (s : L4 PP) : (fx d s).size = 20 := by unfold fx; rw [Array.size_append, ev_size, sv_size]
end Go.Proofs.YtcijaoihcckofaaDoor
namespace Go.Proofs.YtcijaoihcckofaaDoor
set_option linter.unusedVariables false
set_option linter.unusedSimpArgs false
set_option maxRecDepth 100000
open Go Go.RowKit
theorem td_ofK : TD = ofK 37095705934669439343138083508754565189542113879843219016388785533085940283555 := by decide +kernel
theorem bx_ofK : BX = ofK 15112221349535400772501151409588531511454012693041857206046113283949847762202 := by decide +kernel
theorem by_ofK : BY = ofK 46316835694926478169428394003475163141307993866256225615783033603165251855960 := by decide +kernel
theorem bd_keyD (W : World) : (Instr.build 23 [(0, .int .u8 163), (1, .int .u8 120), (2, .int .u8 89), (3, .int .u8 19), (4, .int .u8 202), (5, .int .u8 77), (6, .int .u8 235), (7, .int .u8 117), (8, .int .u8 171), (9, .int .u8 216), (10, .int .u8 65), (11, .int .u8 65), (12, .int .u8 77), (13, .int .u8 10), (14, .int .u8 112), (15, .int .u8 0), (16, .int .u8 152), (17, .int .u8 232), (18, .int .u8 121), (19, .int .u8 119), (20, .int .u8 121), (21, .int .u8 64), (22, .int .u8 199), (23, .int .u8 140), (24, .int .u8 115), (25, .int .u8 254), (26, .int .u8 111), (27, .int .u8 43), (28, .int .u8 238), (29, .int .u8 108), (30, .int .u8 3), (31, .int .u8 82)].toArray).run Tryd.prog W = .ok (.agg (ks 37095705934669439343138083508754565189542113879843219016388785533085940283555)) W := by kernel_rfl
theorem bd_keyX (W : World) : (Instr.build 23 [(0, .int .u8 26), (1, .int .u8 213), (2, .int .u8 37), (3, .int .u8 143), (4, .int .u8 96), (5, .int .u8 45), (6, .int .u8 86), (7, .int .u8 201), (8, .int .u8 178), (9, .int .u8 167), (10, .int .u8 37), (11, .int .u8 149), (12, .int .u8 96), (13, .int .u8 199), (14, .int .u8 44), (15, .int .u8 105), (16, .int .u8 92), (17, .int .u8 220), (18, .int .u8 214), (19, .int .u8 253), (20, .int .u8 49), (21, .int .u8 226), (22, .int .u8 164), (23, .int .u8 192), (24, .int .u8 254), (25, .int .u8 83), (26, .int .u8 110), (27, .int .u8 205), (28, .int .u8 211), (29, .int .u8 54), (30, .int .u8 105), (31, .int .u8 33)].toArray).run Tryd.prog W = .ok (.agg (ks 15112221349535400772501151409588531511454012693041857206046113283949847762202)) W := by kernel_rfl
theorem bd_keyY (W : World) : (Instr.build 23 [(0, .int .u8 88), (1, .int .u8 102), (2, .int .u8 102), (3, .int .u8 102), (4, .int .u8 102), (5, .int .u8 102), (6, .int .u8 102), (7, .int .u8 102), (8, .int .u8 102), (9, .int .u8 102), (10, .int .u8 102), (11, .int .u8 102), (12, .int .u8 102), (13, .int .u8 102), (14, .int .u8 102), (15, .int .u8 102), (16, .int .u8 102), (17, .int .u8 102), (18, .int .u8 102), (19, .int .u8 102), (20, .int .u8 102), (21, .int .u8 102), (22, .int .u8 102), (23, .int .u8 102), (24, .int .u8 102), (25, .int .u8 102), (26, .int .u8 102), (27, .int .u8 102), (28, .int .u8 102), (29, .int .u8 102), (30, .int .u8 102), (31, .int .u8 102)].toArray).run Tryd.prog W = .ok (.agg (ks 46316835694926478169428394003475163141307993866256225615783033603165251855960)) W := by kernel_rfl
attribute [local irreducible] ev sv ks ptSet ptAdd ptMul EE II TD BX BY
set_option maxHeartbeats 4000000 in
theorem pointOf_any {x y : Fin PP} {r : L4 PP} (h : r = ptE x y) (w : World) (hpg : PG w) : Calls Tryd.prog 45 #[.agg (ev x), .agg (ev y)] w (fun rr w' => rr = .returned (.agg (sv r)) ∧ Below w.heap.size w w') := by
  obtain ⟨z1, hz1⟩ : ∃ z : Fin PP, z = sm 1 := ⟨_, rfl⟩
  obtain ⟨z2, hz2⟩ : ∃ z : Fin PP, z = x * y := ⟨_, rfl⟩
  refine calls_st (vs := [.agg (ev x), .agg (ev y)]) 12 Tryd.func45 rfl Tryd.ntmps45 rfl (fun a W H => ?_)
  replace H : St 12 w a W [(0, .agg (ev x)), (1, .agg (ev y))] [] := H
  refine wp_seq_k (fun K1 hK1 => ?_)
  refine rg_plain ?_
  refine pl_box rfl rfl (bx_elem x) rfl rfl rfl rfl H ?_
  clear H a W
  intro g1 a W H
  refine pl_box rfl rfl (bx_elem y) rfl rfl rfl rfl H ?_
  clear H a W
  intro g2 a W H
  refine pl_new (news_of rfl al_pt) rfl rfl rfl rfl H ?_
  clear H a W
  intro g3 a W H
  refine pl_end ?_
  replace H : St 12 w a W [(4, .pointer (some ⟨g3, 0, none⟩)), (3, .pointer (some ⟨g2, 0, none⟩)), (2, .pointer (some ⟨g1, 0, none⟩))] [(g3, 29, #[.int .u64 0, .int .u64 0, .int .u64 0, .int .u64 0, .int .u64 0, .int .u64 0, .int .u64 0, .int .u64 0, .int .u64 0, .int .u64 0, .int .u64 0, .int .u64 0, .int .u64 0, .int .u64 0, .int .u64 0, .int .u64 0]), (g2, 27, ev y), (g1, 27, ev x)] := H.pick [0, 1, 2] [0, 1, 2] rfl
  refine hK1 _ _ ?_
  clear hK1
  refine wp_seq_k (fun K2 hK2 => ?_)
  refine drawnS [.val 5 (.agg (ev x)) [] [2], .val 6 (.agg (ev y)) [] [1], .val 7 (.agg (ev z1)) [] [], .val 8 (.agg (ev x)) [] [2], .val 9 (.agg (ev y)) [] [1], .val 10 (.agg (ev z2)) [3, 4] [], .val 11 (.agg (sv ⟨x, y, z1, z2⟩)) [0, 1, 2, 5] [], .sto 0 g3 29 (#[.int .u64 0, .int .u64 0, .int .u64 0, .int .u64 0, .int .u64 0, .int .u64 0, .int .u64 0, .int .u64 0, .int .u64 0, .int .u64 0, .int .u64 0, .int .u64 0, .int .u64 0, .int .u64 0, .int .u64 0, .int .u64 0]) (sv ⟨x, y, z1, z2⟩) [6]] [0, 0, 0, 0, 0, 28, 39, 127] (by kernel_rfl) (by kernel_rfl) (by kernel_rfl) H ⟨⟨does_load rfl rfl (k := 0) rfl Tryd.underlying27 rfl (info_ev _), wanted_none rfl⟩, ⟨does_load rfl rfl (k := 0) rfl Tryd.underlying27 rfl (info_ev _), wanted_none rfl⟩, ⟨does_call rfl ⟨_, Tryd.func34, by kernel_rfl⟩ rfl (fun W hb => smallP 1 hz1 (by omega) W), wanted_none rfl⟩, ⟨does_load rfl rfl (k := 0) rfl Tryd.underlying27 rfl (info_ev _), wanted_none rfl⟩, ⟨does_load rfl rfl (k := 0) rfl Tryd.underlying27 rfl (info_ev _), wanted_none rfl⟩, ⟨does_call rfl ⟨_, Tryd.func36, by kernel_rfl⟩ rfl (fun W hb => mulP hz2 W (hpg.ext hb)), wanted_none rfl⟩, ⟨does_build rfl rfl (bd_pt x y z1 z2), wanted_none rfl⟩, ⟨rfl, rfl, sto_row rfl rfl rfl (info_pt _) (by simp only [sv_size, ev_size, ks_size, fx_size] <;> rfl) (sv_one _)⟩, trivial⟩ ?_
  clear H a W
  intro G4 a W H
  replace H : St 12 w a W [(5, .agg (ev x)), (6, .agg (ev y)), (7, .agg (ev z1)), (8, .agg (ev x)), (9, .agg (ev y)), (10, .agg (ev z2)), (11, .agg (sv ⟨x, y, z1, z2⟩)), (4, .pointer (some ⟨g3, 0, none⟩)), (3, .pointer (some ⟨g2, 0, none⟩)), (2, .pointer (some ⟨g1, 0, none⟩))] [(g3, 29, sv ⟨x, y, z1, z2⟩), (g2, 27, ev y), (g1, 27, ev x)] := H
  replace H : St 12 w a W [(4, .pointer (some ⟨g3, 0, none⟩))] [(g3, 29, sv ⟨x, y, z1, z2⟩)] := H.pick [7] [0] rfl
  refine hK2 _ _ ?_
  clear hK2
  refine wp_ret ?_
  repeat (first | (with_reducible refine then_ret ?_) | (with_reducible refine blk_ret ?_))
  refine end_cell (p := 4) rfl rfl (k := 0) rfl Tryd.underlying29 rfl (info_pt _) H (fun hb => ?_)
  exact ⟨by rw [h]; subst hz1 hz2; rfl, hb⟩
set_option maxHeartbeats 4000000 in
theorem isZero_any {x : Fin PP} {b : Bool} (h : decide (x = 0) = b) (w : World) (hpg : PG w) : Calls Tryd.prog 44 #[.agg (ev x)] w (fun rr w' => rr = .returned (.bool b) ∧ Below w.heap.size w w') := by
  refine calls_st (vs := [.agg (ev x)]) 6 Tryd.func44 rfl Tryd.ntmps44 rfl (fun a W H => ?_)
  replace H : St 6 w a W [(0, .agg (ev x))] [] := H
  refine wp_seq_k (fun K1 hK1 => ?_)
  refine rg_plain ?_
  refine pl_box rfl rfl (bx_elem x) rfl rfl rfl rfl H ?_
  clear H a W
  intro g1 a W H
  refine pl_does (does_assign rfl rfl) rfl rfl rfl rfl H ?_
  clear H a W
  intro a W H
  refine pl_end ?_
  replace H : St 6 w a W [(2, .bool false), (1, .pointer (some ⟨g1, 0, none⟩))] [(g1, 27, ev x)] := H.pick [0, 1] [0] rfl
  refine hK1 _ _ ?_
  clear hK1
  refine wp_seq_k (fun K2 hK2 => ?_)
  refine rg_plain ?_
  refine pl_does (does_load rfl rfl (k := 0) rfl Tryd.underlying27 rfl (info_ev _)) rfl rfl rfl rfl H ?_
  clear H a W
  intro a W H
  refine pl_does (does_build (ps := []) rfl rfl bd_elem0) rfl rfl rfl rfl H ?_
  clear H a W
  intro a W H
  refine pl_does (does_call rfl ⟨_, Tryd.func63, by kernel_rfl⟩ rfl (fun W hb => equalB h W)) rfl rfl rfl rfl H ?_
  clear H a W
  intro a W H
  replace H : St 6 w a W [(5, .bool b), (4, .agg (ev 0)), (3, .agg (ev x)), (1, .pointer (some ⟨g1, 0, none⟩))] [(g1, 27, ev x)] := H.pick [0, 1, 2, 4] [0] rfl
  refine pl_does (does_assign rfl rfl) rfl rfl rfl rfl H ?_
  clear H a W
  intro a W H
  refine pl_end ?_
  replace H : St 6 w a W [(2, .bool b)] [] := H.pick [0] [] rfl
  refine hK2 _ _ ?_
  clear hK2
  refine wp_ret ?_
  repeat (first | (with_reducible refine then_ret ?_) | (with_reducible refine blk_ret ?_))
  refine end_tmp (p := 2) rfl rfl H (fun hb => ?_)
  exact ⟨rfl, hb⟩
set_option maxHeartbeats 4000000 in
theorem settled_zero {s r : L4 PP} (hr : r = ptSet s) (h : s.c = 0) (w : World) (hpg : PG w) : Calls Tryd.prog 59 #[.agg (sv s)] w (fun rr w' => rr = .returned (.agg (sv r)) ∧ Below w.heap.size w w') := by
  obtain ⟨z1, hz1⟩ : ∃ z : Fin PP, z = sm 0 := ⟨_, rfl⟩
  obtain ⟨z2, hz2⟩ : ∃ z : Fin PP, z = sm 1 := ⟨_, rfl⟩
  obtain ⟨z3, hz3⟩ : ∃ z : L4 PP, z = ptE z1 z2 := ⟨_, rfl⟩
  refine calls_st (vs := [.agg (sv s)]) 10 Tryd.func59 rfl Tryd.ntmps59 rfl (fun a W H => ?_)
  replace H : St 10 w a W [(0, .agg (sv s))] [] := H
  refine wp_seq_k (fun K1 hK1 => ?_)
  refine rg_plain ?_
  refine pl_box rfl rfl (bx_pt s) rfl rfl rfl rfl H ?_
  clear H a W
  intro g1 a W H
  refine pl_new (news_of rfl al_pt) rfl rfl rfl rfl H ?_
  clear H a W
  intro g2 a W H
  refine pl_end ?_
  replace H : St 10 w a W [(2, .pointer (some ⟨g2, 0, none⟩)), (1, .pointer (some ⟨g1, 0, none⟩))] [(g2, 29, #[.int .u64 0, .int .u64 0, .int .u64 0, .int .u64 0, .int .u64 0, .int .u64 0, .int .u64 0, .int .u64 0, .int .u64 0, .int .u64 0, .int .u64 0, .int .u64 0, .int .u64 0, .int .u64 0, .int .u64 0, .int .u64 0]), (g1, 29, sv s)] := H.pick [0, 1] [0, 1] rfl
  refine hK1 _ _ ?_
  clear hK1
  refine wp_seq_k (fun K2 hK2 => ?_)
  refine wp_seq_k (fun K3 hK3 => ?_)
  refine rg_plain ?_
  refine pl_does (does_fieldAddr rfl rfl (fa_pt _ · |>.2.2.1)) rfl rfl rfl rfl H ?_
  clear H a W
  intro a W H
  refine pl_does (does_loadAt (v := .agg (ev s.c)) rfl rfl (k := 1) rfl (ld_pt (k := 2) (by omega))) rfl rfl rfl rfl H ?_
  clear H a W
  intro a W H
  refine pl_does (does_call rfl ⟨_, Tryd.func44, by kernel_rfl⟩ rfl (fun W hb => isZero_any (decide_eq_true h) W (hpg.ext hb))) rfl rfl rfl rfl H ?_
  clear H a W
  intro a W H
  refine pl_end ?_
  replace H : St 10 w a W [(5, .bool true), (2, .pointer (some ⟨g2, 0, none⟩)), (1, .pointer (some ⟨g1, 0, none⟩))] [(g2, 29, #[.int .u64 0, .int .u64 0, .int .u64 0, .int .u64 0, .int .u64 0, .int .u64 0, .int .u64 0, .int .u64 0, .int .u64 0, .int .u64 0, .int .u64 0, .int .u64 0, .int .u64 0, .int .u64 0, .int .u64 0, .int .u64 0]), (g1, 29, sv s)] := H.pick [0, 3, 4] [0, 1] rfl
  refine hK3 _ _ ?_
  clear hK3
  refine wp_cond_true (H.ev rfl) ?_
  refine wp_seq_k (fun K4 hK4 => ?_)
  refine rg_plain ?_
  refine pl_does (does_call rfl ⟨_, Tryd.func34, by kernel_rfl⟩ rfl (fun W hb => smallP 0 hz1 (by omega) W)) rfl rfl rfl rfl H ?_
  clear H a W
  intro a W H
  refine pl_does (does_call rfl ⟨_, Tryd.func34, by kernel_rfl⟩ rfl (fun W hb => smallP 1 hz2 (by omega) W)) rfl rfl rfl rfl H ?_
  clear H a W
  intro a W H
  refine pl_does (does_call rfl ⟨_, Tryd.func45, by kernel_rfl⟩ rfl (fun W hb => pointOf_any hz3 W (hpg.ext hb))) rfl rfl rfl rfl H ?_
  clear H a W
  intro a W H
  refine pl_store rfl rfl rfl (k := 0) rfl (info_pt _) (by simp only [sv_size, ev_size, ks_size, fx_size] <;> rfl) (sv_one _) rfl rfl H ?_
  clear H a W
  intro a W H
  refine pl_end ?_
  replace H : St 10 w a W [(2, .pointer (some ⟨g2, 0, none⟩)), (1, .pointer (some ⟨g1, 0, none⟩))] [(g2, 29, sv z3), (g1, 29, sv s)] := H.pick [4, 5] [0, 1] rfl
  refine hK4 _ _ ?_
  clear hK4
  refine wp_ret ?_
  repeat (first | (with_reducible refine then_ret ?_) | (with_reducible refine blk_ret ?_))
  refine end_cell (p := 2) rfl rfl (k := 0) rfl Tryd.underlying29 rfl (info_pt _) H (fun hb => ?_)
  exact ⟨by rw [hr, ptSet_zero h]; subst hz1 hz2 hz3; rfl, hb⟩
set_option maxHeartbeats 4000000 in
theorem settled_one {s r : L4 PP} (hr : r = ptSet s) (h : ¬ s.c = 0) (w : World) (hpg : PG w) : Calls Tryd.prog 59 #[.agg (sv s)] w (fun rr w' => rr = .returned (.agg (sv r)) ∧ Below w.heap.size w w') := by
  refine calls_st (vs := [.agg (sv s)]) 10 Tryd.func59 rfl Tryd.ntmps59 rfl (fun a W H => ?_)
  replace H : St 10 w a W [(0, .agg (sv s))] [] := H
  refine wp_seq_k (fun K1 hK1 => ?_)
  refine rg_plain ?_
  refine pl_box rfl rfl (bx_pt s) rfl rfl rfl rfl H ?_
  clear H a W
  intro g1 a W H
  refine pl_new (news_of rfl al_pt) rfl rfl rfl rfl H ?_
  clear H a W
  intro g2 a W H
  refine pl_end ?_
  replace H : St 10 w a W [(2, .pointer (some ⟨g2, 0, none⟩)), (1, .pointer (some ⟨g1, 0, none⟩))] [(g2, 29, #[.int .u64 0, .int .u64 0, .int .u64 0, .int .u64 0, .int .u64 0, .int .u64 0, .int .u64 0, .int .u64 0, .int .u64 0, .int .u64 0, .int .u64 0, .int .u64 0, .int .u64 0, .int .u64 0, .int .u64 0, .int .u64 0]), (g1, 29, sv s)] := H.pick [0, 1] [0, 1] rfl
  refine hK1 _ _ ?_
  clear hK1
  refine wp_seq_k (fun K2 hK2 => ?_)
  refine wp_seq_k (fun K3 hK3 => ?_)
  refine rg_plain ?_
  refine pl_does (does_fieldAddr rfl rfl (fa_pt _ · |>.2.2.1)) rfl rfl rfl rfl H ?_
  clear H a W
  intro a W H
  refine pl_does (does_loadAt (v := .agg (ev s.c)) rfl rfl (k := 1) rfl (ld_pt (k := 2) (by omega))) rfl rfl rfl rfl H ?_
  clear H a W
  intro a W H
  refine pl_does (does_call rfl ⟨_, Tryd.func44, by kernel_rfl⟩ rfl (fun W hb => isZero_any (decide_eq_false h) W (hpg.ext hb))) rfl rfl rfl rfl H ?_
  clear H a W
  intro a W H
  refine pl_end ?_
  replace H : St 10 w a W [(5, .bool false), (2, .pointer (some ⟨g2, 0, none⟩)), (1, .pointer (some ⟨g1, 0, none⟩))] [(g2, 29, #[.int .u64 0, .int .u64 0, .int .u64 0, .int .u64 0, .int .u64 0, .int .u64 0, .int .u64 0, .int .u64 0, .int .u64 0, .int .u64 0, .int .u64 0, .int .u64 0, .int .u64 0, .int .u64 0, .int .u64 0, .int .u64 0]), (g1, 29, sv s)] := H.pick [0, 3, 4] [0, 1] rfl
  refine hK3 _ _ ?_
  clear hK3
  refine wp_cond_false (H.ev rfl) ?_
  refine wp_skip ?_
  refine hK2 _ _ ?_
  clear hK2
  refine wp_seq_k (fun K4 hK4 => ?_)
  refine rg_plain ?_
  refine pl_does (does_load rfl rfl (k := 1) rfl Tryd.underlying29 rfl (info_pt _)) rfl rfl rfl rfl H ?_
  clear H a W
  intro a W H
  refine pl_store rfl rfl rfl (k := 0) rfl (info_pt _) (by simp only [sv_size, ev_size, ks_size, fx_size] <;> rfl) (sv_one _) rfl rfl H ?_
  clear H a W
  intro a W H
  refine pl_end ?_
  replace H : St 10 w a W [(2, .pointer (some ⟨g2, 0, none⟩))] [(g2, 29, sv s)] := H.pick [2] [0] rfl
  refine hK4 _ _ ?_
  clear hK4
  refine wp_ret ?_
  repeat (first | (with_reducible refine then_ret ?_) | (with_reducible refine blk_ret ?_))
  refine end_cell (p := 2) rfl rfl (k := 0) rfl Tryd.underlying29 rfl (info_pt _) H (fun hb => ?_)
  exact ⟨by rw [hr, ptSet_id h], hb⟩
theorem settled_any {s r : L4 PP} (hr : r = ptSet s) (w : World) (hpg : PG w) : Calls Tryd.prog 59 #[.agg (sv s)] w (fun rr w' => rr = .returned (.agg (sv r)) ∧ Below w.heap.size w w') := by
  by_cases h : s.c = 0
  · exact settled_zero hr h w hpg
  · exact settled_one hr h w hpg
set_option maxHeartbeats 4000000 in
theorem twice_any {x z : Fin PP} (h : z = x + x) (w : World) (hpg : PG w) : Calls Tryd.prog 60 #[.agg (ev x)] w (fun rr w' => rr = .returned (.agg (ev z)) ∧ Below w.heap.size w w') := by
  obtain ⟨z1, hz1⟩ : ∃ z : Fin PP, z = x + x := ⟨_, rfl⟩
  refine calls_st (vs := [.agg (ev x)]) 6 Tryd.func60 rfl Tryd.ntmps60 rfl (fun a W H => ?_)
  replace H : St 6 w a W [(0, .agg (ev x))] [] := H
  refine wp_seq_k (fun K1 hK1 => ?_)
  refine rg_plain ?_
  refine pl_box rfl rfl (bx_elem x) rfl rfl rfl rfl H ?_
  clear H a W
  intro g1 a W H
  refine pl_new (news_of rfl al_elem) rfl rfl rfl rfl H ?_
  clear H a W
  intro g2 a W H
  refine pl_end ?_
  replace H : St 6 w a W [(2, .pointer (some ⟨g2, 0, none⟩)), (1, .pointer (some ⟨g1, 0, none⟩))] [(g2, 27, #[.int .u64 0, .int .u64 0, .int .u64 0, .int .u64 0]), (g1, 27, ev x)] := H.pick [0, 1] [0, 1] rfl
  refine hK1 _ _ ?_
  clear hK1
  refine wp_seq_k (fun K2 hK2 => ?_)
  refine rg_plain ?_
  refine pl_does (does_load rfl rfl (k := 1) rfl Tryd.underlying27 rfl (info_ev _)) rfl rfl rfl rfl H ?_
  clear H a W
  intro a W H
  refine pl_does (does_load rfl rfl (k := 1) rfl Tryd.underlying27 rfl (info_ev _)) rfl rfl rfl rfl H ?_
  clear H a W
  intro a W H
  refine pl_does (does_call rfl ⟨_, Tryd.func35, by kernel_rfl⟩ rfl (fun W hb => addP hz1 W (hpg.ext hb))) rfl rfl rfl rfl H ?_
  clear H a W
  intro a W H
  refine pl_store rfl rfl rfl (k := 0) rfl (info_ev _) (by simp only [sv_size, ev_size, ks_size, fx_size] <;> rfl) (ev_one _) rfl rfl H ?_
  clear H a W
  intro a W H
  refine pl_end ?_
  replace H : St 6 w a W [(2, .pointer (some ⟨g2, 0, none⟩))] [(g2, 27, ev z1)] := H.pick [3] [0] rfl
  refine hK2 _ _ ?_
  clear hK2
  refine wp_ret ?_
  repeat (first | (with_reducible refine then_ret ?_) | (with_reducible refine blk_ret ?_))
  refine end_cell (p := 2) rfl rfl (k := 0) rfl Tryd.underlying27 rfl (info_ev _) H (fun hb => ?_)
  exact ⟨by rw [h]; subst hz1; rfl, hb⟩
set_option maxHeartbeats 4000000 in
theorem numbers_any {P : Pt} {s : L4 PP} (h : RepS P s) (w : World) (hpg : PG w) : Calls Tryd.prog 57 #[.agg (sv s)] w (fun rr w' => rr = .returned (.tuple #[.agg (ev P.x), .agg (ev P.y)]) ∧ Below w.heap.size w w') := by
  obtain ⟨z1, hz1⟩ : ∃ z : L4 PP, z = ptSet s := ⟨_, rfl⟩
  obtain ⟨z2, hz2⟩ : ∃ z : Fin PP, z = z1.c ^ (PP - 2) := ⟨_, rfl⟩
  obtain ⟨z3, hz3⟩ : ∃ z : Fin PP, z = z1.a * z2 := ⟨_, rfl⟩
  obtain ⟨z4, hz4⟩ : ∃ z : Fin PP, z = z1.b * z2 := ⟨_, rfl⟩
  refine calls_st (vs := [.agg (sv s)]) 18 Tryd.func57 rfl Tryd.ntmps57 rfl (fun a W H => ?_)
  replace H : St 18 w a W [(0, .agg (sv s))] [] := H
  refine wp_seq_k (fun K1 hK1 => ?_)
  refine rg_plain ?_
  refine pl_box rfl rfl (bx_pt s) rfl rfl rfl rfl H ?_
  clear H a W
  intro g1 a W H
  refine pl_new (news_of rfl al_elem) rfl rfl rfl rfl H ?_
  clear H a W
  intro g2 a W H
  refine pl_new (news_of rfl al_elem) rfl rfl rfl rfl H ?_
  clear H a W
  intro g3 a W H
  refine pl_end ?_
  replace H : St 18 w a W [(3, .pointer (some ⟨g3, 0, none⟩)), (2, .pointer (some ⟨g2, 0, none⟩)), (1, .pointer (some ⟨g1, 0, none⟩))] [(g3, 27, #[.int .u64 0, .int .u64 0, .int .u64 0, .int .u64 0]), (g2, 27, #[.int .u64 0, .int .u64 0, .int .u64 0, .int .u64 0]), (g1, 29, sv s)] := H.pick [0, 1, 2] [0, 1, 2] rfl
  refine hK1 _ _ ?_
  clear hK1
  refine wp_seq_k (fun K2 hK2 => ?_)
  refine rg_plain ?_
  refine pl_does (does_load rfl rfl (k := 2) rfl Tryd.underlying29 rfl (info_pt _)) rfl rfl rfl rfl H ?_
  clear H a W
  intro a W H
  refine pl_does (does_call rfl ⟨_, Tryd.func59, by kernel_rfl⟩ rfl (fun W hb => settled_any hz1 W (hpg.ext hb))) rfl rfl rfl rfl H ?_
  clear H a W
  intro a W H
  refine pl_store rfl rfl rfl (k := 2) rfl (info_pt _) (by simp only [sv_size, ev_size, ks_size, fx_size] <;> rfl) (sv_one _) rfl rfl H ?_
  clear H a W
  intro a W H
  refine pl_end ?_
  replace H : St 18 w a W [(3, .pointer (some ⟨g3, 0, none⟩)), (2, .pointer (some ⟨g2, 0, none⟩)), (1, .pointer (some ⟨g1, 0, none⟩))] [(g3, 27, #[.int .u64 0, .int .u64 0, .int .u64 0, .int .u64 0]), (g2, 27, #[.int .u64 0, .int .u64 0, .int .u64 0, .int .u64 0]), (g1, 29, sv z1)] := H.pick [2, 3, 4] [0, 1, 2] rfl
  refine hK2 _ _ ?_
  clear hK2
  refine wp_seq_k (fun K3 hK3 => ?_)
  refine rg_plain ?_
  refine pl_does (does_fieldAddr rfl rfl (fa_pt _ · |>.2.2.1)) rfl rfl rfl rfl H ?_
  clear H a W
  intro a W H
  refine pl_does (does_loadAt (v := .agg (ev z1.c)) rfl rfl (k := 2) rfl (ld_pt (k := 2) (by omega))) rfl rfl rfl rfl H ?_
  clear H a W
  intro a W H
  refine pl_does (does_call rfl ⟨_, Tryd.func38, by kernel_rfl⟩ rfl (fun W hb => invR hz2 W (hpg.ext hb))) rfl rfl rfl rfl H ?_
  clear H a W
  intro a W H
  refine pl_new (news_of rfl al_elem) rfl rfl rfl rfl H ?_
  clear H a W
  intro g4 a W H
  refine pl_store rfl rfl rfl (k := 0) rfl (info_ev _) (by simp only [sv_size, ev_size, ks_size, fx_size] <;> rfl) (ev_one _) rfl rfl H ?_
  clear H a W
  intro a W H
  refine pl_end ?_
  replace H : St 18 w a W [(4, .pointer (some ⟨g4, 0, none⟩)), (3, .pointer (some ⟨g3, 0, none⟩)), (2, .pointer (some ⟨g2, 0, none⟩)), (1, .pointer (some ⟨g1, 0, none⟩))] [(g4, 27, ev z2), (g3, 27, #[.int .u64 0, .int .u64 0, .int .u64 0, .int .u64 0]), (g2, 27, #[.int .u64 0, .int .u64 0, .int .u64 0, .int .u64 0]), (g1, 29, sv z1)] := H.pick [0, 4, 5, 6] [0, 1, 2, 3] rfl
  refine hK3 _ _ ?_
  clear hK3
  refine wp_seq_k (fun K4 hK4 => ?_)
  refine drawnS [.val 10 (.pointer (some ⟨g1, 4 * 0, none⟩)) [] [], .val 11 (.agg (ev z1.a)) [0] [3], .val 12 (.agg (ev z2)) [] [0], .val 13 (.agg (ev z3)) [1, 2] [], .val 14 (.pointer (some ⟨g1, 4 * 1, none⟩)) [] [], .val 15 (.agg (ev z1.b)) [4] [3], .val 16 (.agg (ev z2)) [] [0], .val 17 (.agg (ev z4)) [5, 6] [], .sto 2 g2 27 (#[.int .u64 0, .int .u64 0, .int .u64 0, .int .u64 0]) (ev z3) [3], .sto 1 g3 27 (#[.int .u64 0, .int .u64 0, .int .u64 0, .int .u64 0]) (ev z4) [7]] [0, 1, 0, 6, 0, 16, 0, 104, 143, 511] (by kernel_rfl) (by kernel_rfl) (by kernel_rfl) H ⟨⟨does_fieldAddr rfl rfl (fa_pt _ · |>.1), wanted_none rfl⟩, ⟨does_loadAt (v := .agg (ev z1.a)) rfl rfl (k := 0) rfl (ld_pt (k := 0) (by omega)), wanted_none rfl⟩, ⟨does_load rfl rfl (k := 0) rfl Tryd.underlying27 rfl (info_ev _), wanted_none rfl⟩, ⟨does_call rfl ⟨_, Tryd.func36, by kernel_rfl⟩ rfl (fun W hb => mulP hz3 W (hpg.ext hb)), wanted_none rfl⟩, ⟨does_fieldAddr rfl rfl (fa_pt _ · |>.2.1), wanted_none rfl⟩, ⟨does_loadAt (v := .agg (ev z1.b)) rfl rfl (k := 0) rfl (ld_pt (k := 1) (by omega)), wanted_none rfl⟩, ⟨does_load rfl rfl (k := 0) rfl Tryd.underlying27 rfl (info_ev _), wanted_none rfl⟩, ⟨does_call rfl ⟨_, Tryd.func36, by kernel_rfl⟩ rfl (fun W hb => mulP hz4 W (hpg.ext hb)), wanted_none rfl⟩, ⟨rfl, rfl, sto_row rfl rfl rfl (info_ev _) (by simp only [sv_size, ev_size, ks_size, fx_size] <;> rfl) (ev_one _)⟩, ⟨rfl, rfl, sto_row rfl rfl rfl (info_ev _) (by simp only [sv_size, ev_size, ks_size, fx_size] <;> rfl) (ev_one _)⟩, trivial⟩ ?_
  clear H a W
  intro G5 a W H
  replace H : St 18 w a W [(10, .pointer (some ⟨g1, 4 * 0, none⟩)), (11, .agg (ev z1.a)), (12, .agg (ev z2)), (13, .agg (ev z3)), (14, .pointer (some ⟨g1, 4 * 1, none⟩)), (15, .agg (ev z1.b)), (16, .agg (ev z2)), (17, .agg (ev z4)), (4, .pointer (some ⟨g4, 0, none⟩)), (3, .pointer (some ⟨g3, 0, none⟩)), (2, .pointer (some ⟨g2, 0, none⟩)), (1, .pointer (some ⟨g1, 0, none⟩))] [(g4, 27, ev z2), (g3, 27, ev z4), (g2, 27, ev z3), (g1, 29, sv z1)] := H
  replace H : St 18 w a W [(3, .pointer (some ⟨g3, 0, none⟩)), (2, .pointer (some ⟨g2, 0, none⟩))] [(g3, 27, ev z4), (g2, 27, ev z3)] := H.pick [9, 10] [1, 2] rfl
  refine hK4 _ _ ?_
  clear hK4
  refine wp_ret ?_
  repeat (first | (with_reducible refine then_ret ?_) | (with_reducible refine blk_ret ?_))
  refine end_cells (p := 2) (q := 3) rfl rfl (k := 1) rfl Tryd.underlying27 rfl (info_ev _) rfl (k2 := 0) rfl Tryd.underlying27 rfl (info_ev _) H (fun hb => ?_)
  refine ⟨?_, hb⟩
  obtain ⟨e1, e2⟩ := h.flat
  rw [← hz1, ← hz2] at e1 e2
  rw [hz3, hz4, e1, e2]
set_option maxHeartbeats 4000000 in
theorem ptY_any {P : Pt} {s : L4 PP} (h : RepS P s) (w : World) (hpg : PG w) : Calls Tryd.prog 18 #[.agg (sv s)] w (fun rr w' => rr = .returned (.agg (ks P.y.val)) ∧ Below w.heap.size w w') := by
  refine calls_st (vs := [.agg (sv s)]) 12 Tryd.func18 rfl Tryd.ntmps18 rfl (fun a W H => ?_)
  replace H : St 12 w a W [(0, .agg (sv s))] [] := H
  refine wp_seq_k (fun K1 hK1 => ?_)
  refine rg_plain ?_
  refine pl_box rfl rfl (bx_pt s) rfl rfl rfl rfl H ?_
  clear H a W
  intro g1 a W H
  refine pl_new (news_of rfl al_key) rfl rfl rfl rfl H ?_
  clear H a W
  intro g2 a W H
  refine pl_end ?_
  replace H : St 12 w a W [(2, .pointer (some ⟨g2, 0, none⟩)), (1, .pointer (some ⟨g1, 0, none⟩))] [(g2, 23, #[.int .u8 0, .int .u8 0, .int .u8 0, .int .u8 0, .int .u8 0, .int .u8 0, .int .u8 0, .int .u8 0, .int .u8 0, .int .u8 0, .int .u8 0, .int .u8 0, .int .u8 0, .int .u8 0, .int .u8 0, .int .u8 0, .int .u8 0, .int .u8 0, .int .u8 0, .int .u8 0, .int .u8 0, .int .u8 0, .int .u8 0, .int .u8 0, .int .u8 0, .int .u8 0, .int .u8 0, .int .u8 0, .int .u8 0, .int .u8 0, .int .u8 0, .int .u8 0]), (g1, 29, sv s)] := H.pick [0, 1] [0, 1] rfl
  refine hK1 _ _ ?_
  clear hK1
  refine wp_seq_k (fun K2 hK2 => ?_)
  refine rg_plain ?_
  refine pl_does (does_load rfl rfl (k := 1) rfl Tryd.underlying29 rfl (info_pt _)) rfl rfl rfl rfl H ?_
  clear H a W
  intro a W H
  refine pl_does (does_call rfl ⟨_, Tryd.func57, by kernel_rfl⟩ rfl (fun W hb => numbers_any h W (hpg.ext hb))) rfl rfl rfl rfl H ?_
  clear H a W
  intro a W H
  refine pl_does (does_move rfl rfl) rfl rfl rfl rfl H ?_
  clear H a W
  intro a W H
  refine pl_does (does_extract rfl rfl (fun _ => rfl)) rfl rfl rfl rfl H ?_
  clear H a W
  intro a W H
  refine pl_does (does_extract rfl rfl (fun _ => rfl)) rfl rfl rfl rfl H ?_
  clear H a W
  intro a W H
  refine pl_new (news_of rfl al_elem) rfl rfl rfl rfl H ?_
  clear H a W
  intro g3 a W H
  refine pl_new (news_of rfl al_elem) rfl rfl rfl rfl H ?_
  clear H a W
  intro g4 a W H
  refine pl_store rfl rfl rfl (k := 1) rfl (info_ev _) (by simp only [sv_size, ev_size, ks_size, fx_size] <;> rfl) (ev_one _) rfl rfl H ?_
  clear H a W
  intro a W H
  refine pl_store rfl rfl rfl (k := 0) rfl (info_ev _) (by simp only [sv_size, ev_size, ks_size, fx_size] <;> rfl) (ev_one _) rfl rfl H ?_
  clear H a W
  intro a W H
  refine pl_end ?_
  replace H : St 12 w a W [(4, .pointer (some ⟨g4, 0, none⟩)), (2, .pointer (some ⟨g2, 0, none⟩))] [(g4, 27, ev P.y), (g2, 23, #[.int .u8 0, .int .u8 0, .int .u8 0, .int .u8 0, .int .u8 0, .int .u8 0, .int .u8 0, .int .u8 0, .int .u8 0, .int .u8 0, .int .u8 0, .int .u8 0, .int .u8 0, .int .u8 0, .int .u8 0, .int .u8 0, .int .u8 0, .int .u8 0, .int .u8 0, .int .u8 0, .int .u8 0, .int .u8 0, .int .u8 0, .int .u8 0, .int .u8 0, .int .u8 0, .int .u8 0, .int .u8 0, .int .u8 0, .int .u8 0, .int .u8 0, .int .u8 0])] := H.pick [0, 7] [0, 2] rfl
  refine hK2 _ _ ?_
  clear hK2
  refine wp_seq_k (fun K3 hK3 => ?_)
  refine rg_plain ?_
  refine pl_does (does_load rfl rfl (k := 0) rfl Tryd.underlying27 rfl (info_ev _)) rfl rfl rfl rfl H ?_
  clear H a W
  intro a W H
  refine pl_does (does_call rfl ⟨_, Tryd.func39, by kernel_rfl⟩ rfl (fun W hb => bytesF P.y W)) rfl rfl rfl rfl H ?_
  clear H a W
  intro a W H
  refine pl_store rfl rfl rfl (k := 1) rfl (info_ks _) (by simp only [sv_size, ev_size, ks_size, fx_size] <;> rfl) (ks_one _) rfl rfl H ?_
  clear H a W
  intro a W H
  refine pl_end ?_
  replace H : St 12 w a W [(2, .pointer (some ⟨g2, 0, none⟩))] [(g2, 23, ks (P.y.val))] := H.pick [3] [1] rfl
  refine hK3 _ _ ?_
  clear hK3
  refine wp_ret ?_
  repeat (first | (with_reducible refine then_ret ?_) | (with_reducible refine blk_ret ?_))
  refine end_cell (p := 2) rfl rfl (k := 0) rfl Tryd.underlying23 rfl (info_ks _) H (fun hb => ?_)
  exact ⟨rfl, hb⟩
set_option maxHeartbeats 4000000 in
theorem bytes_odd {P : Pt} {s : L4 PP} (h : RepS P s) {m : Nat} (hm : m = pbn P) (ho : P.x.val % 2 = 1) (w : World) (hpg : PG w) : Calls Tryd.prog 13 #[.agg (sv s)] w (fun rr w' => rr = .returned (.agg (ks m)) ∧ Below w.heap.size w w') := by
  obtain ⟨x, hx⟩ : ∃ x : Nat, P.y.val / 256 ^ 31 % 256 = x := ⟨_, rfl⟩
  have hx1 : x < 128 := by have := PP_lt255 P.y; omega
  obtain ⟨y, hy⟩ : ∃ y, x + 128 = y := ⟨_, rfl⟩
  have hy1 : y < 256 := by omega
  have hput : putd 256 P.y.val 31 y = m := by
    have := putd_eq 256 P.y.val 31 y
    have hb := PP_lt255 P.y
    rw [hm]
    unfold pbn
    rw [ho]
    rw [hx] at this
    omega
  refine calls_st (vs := [.agg (sv s)]) 20 Tryd.func13 rfl Tryd.ntmps13 rfl (fun a W H => ?_)
  replace H : St 20 w a W [(0, .agg (sv s))] [] := H
  refine wp_seq_k (fun K1 hK1 => ?_)
  refine rg_plain ?_
  refine pl_box rfl rfl (bx_pt s) rfl rfl rfl rfl H ?_
  clear H a W
  intro g1 a W H
  refine pl_new (news_of rfl al_key) rfl rfl rfl rfl H ?_
  clear H a W
  intro g2 a W H
  refine pl_end ?_
  replace H : St 20 w a W [(2, .pointer (some ⟨g2, 0, none⟩)), (1, .pointer (some ⟨g1, 0, none⟩))] [(g2, 23, #[.int .u8 0, .int .u8 0, .int .u8 0, .int .u8 0, .int .u8 0, .int .u8 0, .int .u8 0, .int .u8 0, .int .u8 0, .int .u8 0, .int .u8 0, .int .u8 0, .int .u8 0, .int .u8 0, .int .u8 0, .int .u8 0, .int .u8 0, .int .u8 0, .int .u8 0, .int .u8 0, .int .u8 0, .int .u8 0, .int .u8 0, .int .u8 0, .int .u8 0, .int .u8 0, .int .u8 0, .int .u8 0, .int .u8 0, .int .u8 0, .int .u8 0, .int .u8 0]), (g1, 29, sv s)] := H.pick [0, 1] [0, 1] rfl
  refine hK1 _ _ ?_
  clear hK1
  refine wp_seq_k (fun K2 hK2 => ?_)
  refine rg_plain ?_
  refine pl_does (does_load rfl rfl (k := 1) rfl Tryd.underlying29 rfl (info_pt _)) rfl rfl rfl rfl H ?_
  clear H a W
  intro a W H
  refine pl_does (does_call rfl ⟨_, Tryd.func57, by kernel_rfl⟩ rfl (fun W hb => numbers_any h W (hpg.ext hb))) rfl rfl rfl rfl H ?_
  clear H a W
  intro a W H
  refine pl_does (does_move rfl rfl) rfl rfl rfl rfl H ?_
  clear H a W
  intro a W H
  refine pl_does (does_extract rfl rfl (fun _ => rfl)) rfl rfl rfl rfl H ?_
  clear H a W
  intro a W H
  refine pl_does (does_extract rfl rfl (fun _ => rfl)) rfl rfl rfl rfl H ?_
  clear H a W
  intro a W H
  refine pl_new (news_of rfl al_elem) rfl rfl rfl rfl H ?_
  clear H a W
  intro g3 a W H
  refine pl_new (news_of rfl al_elem) rfl rfl rfl rfl H ?_
  clear H a W
  intro g4 a W H
  refine pl_store rfl rfl rfl (k := 1) rfl (info_ev _) (by simp only [sv_size, ev_size, ks_size, fx_size] <;> rfl) (ev_one _) rfl rfl H ?_
  clear H a W
  intro a W H
  refine pl_store rfl rfl rfl (k := 0) rfl (info_ev _) (by simp only [sv_size, ev_size, ks_size, fx_size] <;> rfl) (ev_one _) rfl rfl H ?_
  clear H a W
  intro a W H
  refine pl_end ?_
  replace H : St 20 w a W [(4, .pointer (some ⟨g4, 0, none⟩)), (3, .pointer (some ⟨g3, 0, none⟩)), (2, .pointer (some ⟨g2, 0, none⟩))] [(g4, 27, ev P.y), (g3, 27, ev P.x), (g2, 23, #[.int .u8 0, .int .u8 0, .int .u8 0, .int .u8 0, .int .u8 0, .int .u8 0, .int .u8 0, .int .u8 0, .int .u8 0, .int .u8 0, .int .u8 0, .int .u8 0, .int .u8 0, .int .u8 0, .int .u8 0, .int .u8 0, .int .u8 0, .int .u8 0, .int .u8 0, .int .u8 0, .int .u8 0, .int .u8 0, .int .u8 0, .int .u8 0, .int .u8 0, .int .u8 0, .int .u8 0, .int .u8 0, .int .u8 0, .int .u8 0, .int .u8 0, .int .u8 0])] := H.pick [0, 1, 7] [0, 1, 2] rfl
  refine hK2 _ _ ?_
  clear hK2
  refine wp_seq_k (fun K3 hK3 => ?_)
  refine rg_plain ?_
  refine pl_does (does_load rfl rfl (k := 0) rfl Tryd.underlying27 rfl (info_ev _)) rfl rfl rfl rfl H ?_
  clear H a W
  intro a W H
  refine pl_does (does_call rfl ⟨_, Tryd.func39, by kernel_rfl⟩ rfl (fun W hb => bytesF P.y W)) rfl rfl rfl rfl H ?_
  clear H a W
  intro a W H
  refine pl_new (news_of rfl al_key) rfl rfl rfl rfl H ?_
  clear H a W
  intro g5 a W H
  refine pl_store rfl rfl rfl (k := 0) rfl (info_ks _) (by simp only [sv_size, ev_size, ks_size, fx_size] <;> rfl) (ks_one _) rfl rfl H ?_
  clear H a W
  intro a W H
  refine pl_end ?_
  replace H : St 20 w a W [(5, .pointer (some ⟨g5, 0, none⟩)), (3, .pointer (some ⟨g3, 0, none⟩)), (2, .pointer (some ⟨g2, 0, none⟩))] [(g5, 23, ks (P.y.val)), (g3, 27, ev P.x), (g2, 23, #[.int .u8 0, .int .u8 0, .int .u8 0, .int .u8 0, .int .u8 0, .int .u8 0, .int .u8 0, .int .u8 0, .int .u8 0, .int .u8 0, .int .u8 0, .int .u8 0, .int .u8 0, .int .u8 0, .int .u8 0, .int .u8 0, .int .u8 0, .int .u8 0, .int .u8 0, .int .u8 0, .int .u8 0, .int .u8 0, .int .u8 0, .int .u8 0, .int .u8 0, .int .u8 0, .int .u8 0, .int .u8 0, .int .u8 0, .int .u8 0, .int .u8 0, .int .u8 0])] := H.pick [0, 4, 5] [0, 2, 3] rfl
  refine hK3 _ _ ?_
  clear hK3
  refine wp_seq_k (fun K4 hK4 => ?_)
  refine wp_seq_k (fun K5 hK5 => ?_)
  refine rg_plain ?_
  refine pl_does (does_load rfl rfl (k := 1) rfl Tryd.underlying27 rfl (info_ev _)) rfl rfl rfl rfl H ?_
  clear H a W
  intro a W H
  refine pl_does (does_call rfl ⟨_, Tryd.func58, by kernel_rfl⟩ rfl (fun W hb => odd_yes ho W)) rfl rfl rfl rfl H ?_
  clear H a W
  intro a W H
  refine pl_end ?_
  replace H : St 20 w a W [(14, .bool true), (5, .pointer (some ⟨g5, 0, none⟩)), (2, .pointer (some ⟨g2, 0, none⟩))] [(g5, 23, ks (P.y.val)), (g2, 23, #[.int .u8 0, .int .u8 0, .int .u8 0, .int .u8 0, .int .u8 0, .int .u8 0, .int .u8 0, .int .u8 0, .int .u8 0, .int .u8 0, .int .u8 0, .int .u8 0, .int .u8 0, .int .u8 0, .int .u8 0, .int .u8 0, .int .u8 0, .int .u8 0, .int .u8 0, .int .u8 0, .int .u8 0, .int .u8 0, .int .u8 0, .int .u8 0, .int .u8 0, .int .u8 0, .int .u8 0, .int .u8 0, .int .u8 0, .int .u8 0, .int .u8 0, .int .u8 0])] := H.pick [0, 2, 4] [0, 2] rfl
  refine hK5 _ _ ?_
  clear hK5
  refine wp_cond_true (H.ev rfl) ?_
  refine rg_plain ?_
  refine pl_does (does_indexAddr rfl rfl rfl (ia_key31 _)) rfl rfl rfl rfl H ?_
  clear H a W
  intro a W H
  refine pl_does (does_loadAt (v := .int .u8 ((x : Nat) : Int)) rfl rfl (k := 0) rfl (ld_key31 hx)) rfl rfl rfl rfl H ?_
  clear H a W
  intro a W H
  refine pl_does (does_binOp rfl rfl rfl (b_or128 hx1 hy _ _)) rfl rfl rfl rfl H ?_
  clear H a W
  intro a W H
  refine pl_does (does_indexAddr rfl rfl rfl (ia_key31 _)) rfl rfl rfl rfl H ?_
  clear H a W
  intro a W H
  refine pl_storeAt rfl rfl rfl (k := 0) rfl st_key31 (sv_key31 hy1 hput) rfl rfl H ?_
  clear H a W
  intro a W H
  refine pl_end ?_
  replace H : St 20 w a W [(5, .pointer (some ⟨g5, 0, none⟩)), (2, .pointer (some ⟨g2, 0, none⟩))] [(g5, 23, ks m), (g2, 23, #[.int .u8 0, .int .u8 0, .int .u8 0, .int .u8 0, .int .u8 0, .int .u8 0, .int .u8 0, .int .u8 0, .int .u8 0, .int .u8 0, .int .u8 0, .int .u8 0, .int .u8 0, .int .u8 0, .int .u8 0, .int .u8 0, .int .u8 0, .int .u8 0, .int .u8 0, .int .u8 0, .int .u8 0, .int .u8 0, .int .u8 0, .int .u8 0, .int .u8 0, .int .u8 0, .int .u8 0, .int .u8 0, .int .u8 0, .int .u8 0, .int .u8 0, .int .u8 0])] := H.pick [5, 6] [0, 1] rfl
  refine hK4 _ _ ?_
  clear hK4
  refine wp_seq_k (fun K6 hK6 => ?_)
  refine rg_plain ?_
  refine pl_does (does_load rfl rfl (k := 0) rfl Tryd.underlying23 rfl (info_ks _)) rfl rfl rfl rfl H ?_
  clear H a W
  intro a W H
  refine pl_store rfl rfl rfl (k := 1) rfl (info_ks _) (by simp only [sv_size, ev_size, ks_size, fx_size] <;> rfl) (ks_one _) rfl rfl H ?_
  clear H a W
  intro a W H
  refine pl_end ?_
  replace H : St 20 w a W [(2, .pointer (some ⟨g2, 0, none⟩))] [(g2, 23, ks m)] := H.pick [2] [1] rfl
  refine hK6 _ _ ?_
  clear hK6
  refine wp_ret ?_
  repeat (first | (with_reducible refine then_ret ?_) | (with_reducible refine blk_ret ?_))
  refine end_cell (p := 2) rfl rfl (k := 0) rfl Tryd.underlying23 rfl (info_ks _) H (fun hb => ?_)
  exact ⟨rfl, hb⟩
set_option maxHeartbeats 4000000 in
theorem bytes_even {P : Pt} {s : L4 PP} (h : RepS P s) {m : Nat} (hm : m = pbn P) (ho : ¬ P.x.val % 2 = 1) (w : World) (hpg : PG w) : Calls Tryd.prog 13 #[.agg (sv s)] w (fun rr w' => rr = .returned (.agg (ks m)) ∧ Below w.heap.size w w') := by
  refine calls_st (vs := [.agg (sv s)]) 20 Tryd.func13 rfl Tryd.ntmps13 rfl (fun a W H => ?_)
  replace H : St 20 w a W [(0, .agg (sv s))] [] := H
  refine wp_seq_k (fun K1 hK1 => ?_)
  refine rg_plain ?_
  refine pl_box rfl rfl (bx_pt s) rfl rfl rfl rfl H ?_
  clear H a W
  intro g1 a W H
  refine pl_new (news_of rfl al_key) rfl rfl rfl rfl H ?_
  clear H a W
  intro g2 a W H
  refine pl_end ?_
  replace H : St 20 w a W [(2, .pointer (some ⟨g2, 0, none⟩)), (1, .pointer (some ⟨g1, 0, none⟩))] [(g2, 23, #[.int .u8 0, .int .u8 0, .int .u8 0, .int .u8 0, .int .u8 0, .int .u8 0, .int .u8 0, .int .u8 0, .int .u8 0, .int .u8 0, .int .u8 0, .int .u8 0, .int .u8 0, .int .u8 0, .int .u8 0, .int .u8 0, .int .u8 0, .int .u8 0, .int .u8 0, .int .u8 0, .int .u8 0, .int .u8 0, .int .u8 0, .int .u8 0, .int .u8 0, .int .u8 0, .int .u8 0, .int .u8 0, .int .u8 0, .int .u8 0, .int .u8 0, .int .u8 0]), (g1, 29, sv s)] := H.pick [0, 1] [0, 1] rfl
  refine hK1 _ _ ?_
  clear hK1
  refine wp_seq_k (fun K2 hK2 => ?_)
  refine rg_plain ?_
  refine pl_does (does_load rfl rfl (k := 1) rfl Tryd.underlying29 rfl (info_pt _)) rfl rfl rfl rfl H ?_
  clear H a W
  intro a W H
  refine pl_does (does_call rfl ⟨_, Tryd.func57, by kernel_rfl⟩ rfl (fun W hb => numbers_any h W (hpg.ext hb))) rfl rfl rfl rfl H ?_
  clear H a W
  intro a W H
  refine pl_does (does_move rfl rfl) rfl rfl rfl rfl H ?_
  clear H a W
  intro a W H
  refine pl_does (does_extract rfl rfl (fun _ => rfl)) rfl rfl rfl rfl H ?_
  clear H a W
  intro a W H
  refine pl_does (does_extract rfl rfl (fun _ => rfl)) rfl rfl rfl rfl H ?_
  clear H a W
  intro a W H
  refine pl_new (news_of rfl al_elem) rfl rfl rfl rfl H ?_
  clear H a W
  intro g3 a W H
  refine pl_new (news_of rfl al_elem) rfl rfl rfl rfl H ?_
  clear H a W
  intro g4 a W H
  refine pl_store rfl rfl rfl (k := 1) rfl (info_ev _) (by simp only [sv_size, ev_size, ks_size, fx_size] <;> rfl) (ev_one _) rfl rfl H ?_
  clear H a W
  intro a W H
  refine pl_store rfl rfl rfl (k := 0) rfl (info_ev _) (by simp only [sv_size, ev_size, ks_size, fx_size] <;> rfl) (ev_one _) rfl rfl H ?_
  clear H a W
  intro a W H
  refine pl_end ?_
  replace H : St 20 w a W [(4, .pointer (some ⟨g4, 0, none⟩)), (3, .pointer (some ⟨g3, 0, none⟩)), (2, .pointer (some ⟨g2, 0, none⟩))] [(g4, 27, ev P.y), (g3, 27, ev P.x), (g2, 23, #[.int .u8 0, .int .u8 0, .int .u8 0, .int .u8 0, .int .u8 0, .int .u8 0, .int .u8 0, .int .u8 0, .int .u8 0, .int .u8 0, .int .u8 0, .int .u8 0, .int .u8 0, .int .u8 0, .int .u8 0, .int .u8 0, .int .u8 0, .int .u8 0, .int .u8 0, .int .u8 0, .int .u8 0, .int .u8 0, .int .u8 0, .int .u8 0, .int .u8 0, .int .u8 0, .int .u8 0, .int .u8 0, .int .u8 0, .int .u8 0, .int .u8 0, .int .u8 0])] := H.pick [0, 1, 7] [0, 1, 2] rfl
  refine hK2 _ _ ?_
  clear hK2
  refine wp_seq_k (fun K3 hK3 => ?_)
  refine rg_plain ?_
  refine pl_does (does_load rfl rfl (k := 0) rfl Tryd.underlying27 rfl (info_ev _)) rfl rfl rfl rfl H ?_
  clear H a W
  intro a W H
  refine pl_does (does_call rfl ⟨_, Tryd.func39, by kernel_rfl⟩ rfl (fun W hb => bytesF P.y W)) rfl rfl rfl rfl H ?_
  clear H a W
  intro a W H
  refine pl_new (news_of rfl al_key) rfl rfl rfl rfl H ?_
  clear H a W
  intro g5 a W H
  refine pl_store rfl rfl rfl (k := 0) rfl (info_ks _) (by simp only [sv_size, ev_size, ks_size, fx_size] <;> rfl) (ks_one _) rfl rfl H ?_
  clear H a W
  intro a W H
  refine pl_end ?_
  replace H : St 20 w a W [(5, .pointer (some ⟨g5, 0, none⟩)), (3, .pointer (some ⟨g3, 0, none⟩)), (2, .pointer (some ⟨g2, 0, none⟩))] [(g5, 23, ks (P.y.val)), (g3, 27, ev P.x), (g2, 23, #[.int .u8 0, .int .u8 0, .int .u8 0, .int .u8 0, .int .u8 0, .int .u8 0, .int .u8 0, .int .u8 0, .int .u8 0, .int .u8 0, .int .u8 0, .int .u8 0, .int .u8 0, .int .u8 0, .int .u8 0, .int .u8 0, .int .u8 0, .int .u8 0, .int .u8 0, .int .u8 0, .int .u8 0, .int .u8 0, .int .u8 0, .int .u8 0, .int .u8 0, .int .u8 0, .int .u8 0, .int .u8 0, .int .u8 0, .int .u8 0, .int .u8 0, .int .u8 0])] := H.pick [0, 4, 5] [0, 2, 3] rfl
  refine hK3 _ _ ?_
  clear hK3
  refine wp_seq_k (fun K4 hK4 => ?_)
  refine wp_seq_k (fun K5 hK5 => ?_)
  refine rg_plain ?_
  refine pl_does (does_load rfl rfl (k := 1) rfl Tryd.underlying27 rfl (info_ev _)) rfl rfl rfl rfl H ?_
  clear H a W
  intro a W H
  refine pl_does (does_call rfl ⟨_, Tryd.func58, by kernel_rfl⟩ rfl (fun W hb => odd_no ho W)) rfl rfl rfl rfl H ?_
  clear H a W
  intro a W H
  refine pl_end ?_
  replace H : St 20 w a W [(14, .bool false), (5, .pointer (some ⟨g5, 0, none⟩)), (2, .pointer (some ⟨g2, 0, none⟩))] [(g5, 23, ks (P.y.val)), (g2, 23, #[.int .u8 0, .int .u8 0, .int .u8 0, .int .u8 0, .int .u8 0, .int .u8 0, .int .u8 0, .int .u8 0, .int .u8 0, .int .u8 0, .int .u8 0, .int .u8 0, .int .u8 0, .int .u8 0, .int .u8 0, .int .u8 0, .int .u8 0, .int .u8 0, .int .u8 0, .int .u8 0, .int .u8 0, .int .u8 0, .int .u8 0, .int .u8 0, .int .u8 0, .int .u8 0, .int .u8 0, .int .u8 0, .int .u8 0, .int .u8 0, .int .u8 0, .int .u8 0])] := H.pick [0, 2, 4] [0, 2] rfl
  refine hK5 _ _ ?_
  clear hK5
  refine wp_cond_false (H.ev rfl) ?_
  refine wp_skip ?_
  refine hK4 _ _ ?_
  clear hK4
  refine wp_seq_k (fun K6 hK6 => ?_)
  refine rg_plain ?_
  refine pl_does (does_load rfl rfl (k := 0) rfl Tryd.underlying23 rfl (info_ks _)) rfl rfl rfl rfl H ?_
  clear H a W
  intro a W H
  refine pl_store rfl rfl rfl (k := 1) rfl (info_ks _) (by simp only [sv_size, ev_size, ks_size, fx_size] <;> rfl) (ks_one _) rfl rfl H ?_
  clear H a W
  intro a W H
  refine pl_end ?_
  replace H : St 20 w a W [(2, .pointer (some ⟨g2, 0, none⟩))] [(g2, 23, ks (P.y.val))] := H.pick [3] [1] rfl
  refine hK6 _ _ ?_
  clear hK6
  refine wp_ret ?_
  repeat (first | (with_reducible refine then_ret ?_) | (with_reducible refine blk_ret ?_))
  refine end_cell (p := 2) rfl rfl (k := 0) rfl Tryd.underlying23 rfl (info_ks _) H (fun hb => ?_)
  refine ⟨?_, hb⟩
  have e : m = P.y.val := by
    rw [hm]
    unfold pbn
    have : P.x.val % 2 = 0 := by omega
    rw [this]
    omega
  rw [e]
theorem bytes_pt {P : Pt} {s : L4 PP} (h : RepS P s) {m : Nat} (hm : m = pbn P) (w : World) (hpg : PG w) : Calls Tryd.prog 13 #[.agg (sv s)] w (fun rr w' => rr = .returned (.agg (ks m)) ∧ Below w.heap.size w w') := by
  by_cases ho : P.x.val % 2 = 1
  · exact bytes_odd h hm ho w hpg
  · exact bytes_even h hm ho w hpg
set_option maxHeartbeats 4000000 in
theorem writtenD_any  (w : World) (hpg : PG w) : Calls Tryd.prog 43 #[] w (fun rr w' => rr = .returned (.agg (ev TD)) ∧ Below w.heap.size w w') := by
  refine calls_st (vs := []) 3 Tryd.func43 rfl Tryd.ntmps43 rfl (fun a W H => ?_)
  replace H : St 3 w a W [] [] := H
  refine wp_seq_k (fun K1 hK1 => ?_)
  refine rg_plain ?_
  refine pl_new (news_of rfl al_elem) rfl rfl rfl rfl H ?_
  clear H a W
  intro g1 a W H
  refine pl_end ?_
  refine hK1 _ _ ?_
  clear hK1
  refine wp_seq_k (fun K2 hK2 => ?_)
  refine rg_plain ?_
  refine pl_does (does_build rfl rfl (bd_keyD)) rfl rfl rfl rfl H ?_
  clear H a W
  intro a W H
  refine pl_does (does_call rfl ⟨_, Tryd.func32, by kernel_rfl⟩ rfl (fun W hb => ofR td_ofK W (hpg.ext hb) (by decide))) rfl rfl rfl rfl H ?_
  clear H a W
  intro a W H
  refine pl_store rfl rfl rfl (k := 0) rfl (info_ev _) (by simp only [sv_size, ev_size, ks_size, fx_size] <;> rfl) (ev_one _) rfl rfl H ?_
  clear H a W
  intro a W H
  refine pl_end ?_
  replace H : St 3 w a W [(0, .pointer (some ⟨g1, 0, none⟩))] [(g1, 27, ev TD)] := H.pick [2] [0] rfl
  refine hK2 _ _ ?_
  clear hK2
  refine wp_ret ?_
  repeat (first | (with_reducible refine then_ret ?_) | (with_reducible refine blk_ret ?_))
  refine end_cell (p := 0) rfl rfl (k := 0) rfl Tryd.underlying27 rfl (info_ev _) H (fun hb => ?_)
  exact ⟨rfl, hb⟩
set_option maxHeartbeats 4000000 in
theorem writtenBase_any  (w : World) (hpg : PG w) : Calls Tryd.prog 65 #[] w (fun rr w' => rr = .returned (.agg (sv BE)) ∧ Below w.heap.size w w') := by
  refine calls_st (vs := []) 10 Tryd.func65 rfl Tryd.ntmps65 rfl (fun a W H => ?_)
  replace H : St 10 w a W [] [] := H
  refine wp_seq_k (fun K1 hK1 => ?_)
  refine rg_plain ?_
  refine pl_new (news_of rfl al_pt) rfl rfl rfl rfl H ?_
  clear H a W
  intro g1 a W H
  refine pl_end ?_
  refine hK1 _ _ ?_
  clear hK1
  refine wp_seq_k (fun K2 hK2 => ?_)
  refine rg_plain ?_
  refine pl_does (does_build rfl rfl (bd_keyX)) rfl rfl rfl rfl H ?_
  clear H a W
  intro a W H
  refine pl_new (news_of rfl al_key) rfl rfl rfl rfl H ?_
  clear H a W
  intro g2 a W H
  refine pl_store rfl rfl rfl (k := 0) rfl (info_ks _) (by simp only [sv_size, ev_size, ks_size, fx_size] <;> rfl) (ks_one _) rfl rfl H ?_
  clear H a W
  intro a W H
  refine pl_end ?_
  replace H : St 10 w a W [(1, .pointer (some ⟨g2, 0, none⟩)), (0, .pointer (some ⟨g1, 0, none⟩))] [(g2, 23, ks 15112221349535400772501151409588531511454012693041857206046113283949847762202), (g1, 29, #[.int .u64 0, .int .u64 0, .int .u64 0, .int .u64 0, .int .u64 0, .int .u64 0, .int .u64 0, .int .u64 0, .int .u64 0, .int .u64 0, .int .u64 0, .int .u64 0, .int .u64 0, .int .u64 0, .int .u64 0, .int .u64 0])] := H.pick [0, 2] [0, 1] rfl
  refine hK2 _ _ ?_
  clear hK2
  refine wp_seq_k (fun K3 hK3 => ?_)
  refine rg_plain ?_
  refine pl_does (does_build rfl rfl (bd_keyY)) rfl rfl rfl rfl H ?_
  clear H a W
  intro a W H
  refine pl_new (news_of rfl al_key) rfl rfl rfl rfl H ?_
  clear H a W
  intro g3 a W H
  refine pl_store rfl rfl rfl (k := 0) rfl (info_ks _) (by simp only [sv_size, ev_size, ks_size, fx_size] <;> rfl) (ks_one _) rfl rfl H ?_
  clear H a W
  intro a W H
  refine pl_end ?_
  replace H : St 10 w a W [(2, .pointer (some ⟨g3, 0, none⟩)), (1, .pointer (some ⟨g2, 0, none⟩)), (0, .pointer (some ⟨g1, 0, none⟩))] [(g3, 23, ks 46316835694926478169428394003475163141307993866256225615783033603165251855960), (g2, 23, ks 15112221349535400772501151409588531511454012693041857206046113283949847762202), (g1, 29, #[.int .u64 0, .int .u64 0, .int .u64 0, .int .u64 0, .int .u64 0, .int .u64 0, .int .u64 0, .int .u64 0, .int .u64 0, .int .u64 0, .int .u64 0, .int .u64 0, .int .u64 0, .int .u64 0, .int .u64 0, .int .u64 0])] := H.pick [0, 2, 3] [0, 1, 2] rfl
  refine hK3 _ _ ?_
  clear hK3
  refine wp_seq_k (fun K4 hK4 => ?_)
  refine drawnS [.val 5 (.agg (ks 15112221349535400772501151409588531511454012693041857206046113283949847762202)) [] [1], .val 6 (.agg (ev BX)) [0] [], .val 7 (.agg (ks 46316835694926478169428394003475163141307993866256225615783033603165251855960)) [] [0], .val 8 (.agg (ev BY)) [2] [], .val 9 (.agg (sv BE)) [1, 3] [], .sto 2 g1 29 (#[.int .u64 0, .int .u64 0, .int .u64 0, .int .u64 0, .int .u64 0, .int .u64 0, .int .u64 0, .int .u64 0, .int .u64 0, .int .u64 0, .int .u64 0, .int .u64 0, .int .u64 0, .int .u64 0, .int .u64 0, .int .u64 0]) (sv BE) [4]] [0, 1, 0, 6, 10, 31] (by kernel_rfl) (by kernel_rfl) (by kernel_rfl) H ⟨⟨does_load rfl rfl (k := 0) rfl Tryd.underlying23 rfl (info_ks _), wanted_none rfl⟩, ⟨does_call rfl ⟨_, Tryd.func32, by kernel_rfl⟩ rfl (fun W hb => ofR bx_ofK W (hpg.ext hb) (by decide)), wanted_none rfl⟩, ⟨does_load rfl rfl (k := 0) rfl Tryd.underlying23 rfl (info_ks _), wanted_none rfl⟩, ⟨does_call rfl ⟨_, Tryd.func32, by kernel_rfl⟩ rfl (fun W hb => ofR by_ofK W (hpg.ext hb) (by decide)), wanted_none rfl⟩, ⟨does_call rfl ⟨_, Tryd.func45, by kernel_rfl⟩ rfl (fun W hb => pointOf_any (show BE = ptE BX BY from rfl) W (hpg.ext hb)), wanted_none rfl⟩, ⟨rfl, rfl, sto_row rfl rfl rfl (info_pt _) (by simp only [sv_size, ev_size, ks_size, fx_size] <;> rfl) (sv_one _)⟩, trivial⟩ ?_
  clear H a W
  intro G4 a W H
  replace H : St 10 w a W [(5, .agg (ks 15112221349535400772501151409588531511454012693041857206046113283949847762202)), (6, .agg (ev BX)), (7, .agg (ks 46316835694926478169428394003475163141307993866256225615783033603165251855960)), (8, .agg (ev BY)), (9, .agg (sv BE)), (2, .pointer (some ⟨g3, 0, none⟩)), (1, .pointer (some ⟨g2, 0, none⟩)), (0, .pointer (some ⟨g1, 0, none⟩))] [(g3, 23, ks 46316835694926478169428394003475163141307993866256225615783033603165251855960), (g2, 23, ks 15112221349535400772501151409588531511454012693041857206046113283949847762202), (g1, 29, sv BE)] := H
  replace H : St 10 w a W [(0, .pointer (some ⟨g1, 0, none⟩))] [(g1, 29, sv BE)] := H.pick [7] [2] rfl
  refine hK4 _ _ ?_
  clear hK4
  refine wp_ret ?_
  repeat (first | (with_reducible refine then_ret ?_) | (with_reducible refine blk_ret ?_))
  refine end_cell (p := 0) rfl rfl (k := 0) rfl Tryd.underlying29 rfl (info_pt _) H (fun hb => ?_)
  exact ⟨rfl, hb⟩
set_option maxHeartbeats 4000000 in
theorem add_pt {s t r : L4 PP} (h : r = ptAdd s t) (w : World) (hpg : PG w) : Calls Tryd.prog 20 #[.agg (sv s), .agg (sv t)] w (fun rr w' => rr = .returned (.agg (sv r)) ∧ Below w.heap.size w w') := by
  obtain ⟨z1, hz1⟩ : ∃ z : L4 PP, z = ptSet s := ⟨_, rfl⟩
  obtain ⟨z2, hz2⟩ : ∃ z : L4 PP, z = ptSet t := ⟨_, rfl⟩
  obtain ⟨z3, hz3⟩ : ∃ z : Fin PP, z = z1.b - z1.a := ⟨_, rfl⟩
  obtain ⟨z4, hz4⟩ : ∃ z : Fin PP, z = z2.b - z2.a := ⟨_, rfl⟩
  obtain ⟨z5, hz5⟩ : ∃ z : Fin PP, z = z3 * z4 := ⟨_, rfl⟩
  obtain ⟨z6, hz6⟩ : ∃ z : Fin PP, z = z1.b + z1.a := ⟨_, rfl⟩
  obtain ⟨z7, hz7⟩ : ∃ z : Fin PP, z = z2.b + z2.a := ⟨_, rfl⟩
  obtain ⟨z8, hz8⟩ : ∃ z : Fin PP, z = z6 * z7 := ⟨_, rfl⟩
  obtain ⟨z9, hz9⟩ : ∃ z : Fin PP, z = z1.c * z2.c := ⟨_, rfl⟩
  obtain ⟨z10, hz10⟩ : ∃ z : Fin PP, z = z1.d * z2.d := ⟨_, rfl⟩
  obtain ⟨z11, hz11⟩ : ∃ z : Fin PP, z = z10 * TD := ⟨_, rfl⟩
  obtain ⟨z12, hz12⟩ : ∃ z : Fin PP, z = z8 - z5 := ⟨_, rfl⟩
  obtain ⟨z13, hz13⟩ : ∃ z : Fin PP, z = z8 + z5 := ⟨_, rfl⟩
  obtain ⟨z14, hz14⟩ : ∃ z : Fin PP, z = z9 + z11 := ⟨_, rfl⟩
  obtain ⟨z15, hz15⟩ : ∃ z : Fin PP, z = z14 + z14 := ⟨_, rfl⟩
  obtain ⟨z16, hz16⟩ : ∃ z : Fin PP, z = z9 - z11 := ⟨_, rfl⟩
  obtain ⟨z17, hz17⟩ : ∃ z : Fin PP, z = z16 + z16 := ⟨_, rfl⟩
  obtain ⟨z18, hz18⟩ : ∃ z : Fin PP, z = z12 * z17 := ⟨_, rfl⟩
  obtain ⟨z19, hz19⟩ : ∃ z : Fin PP, z = z13 * z15 := ⟨_, rfl⟩
  obtain ⟨z20, hz20⟩ : ∃ z : Fin PP, z = z15 * z17 := ⟨_, rfl⟩
  obtain ⟨z21, hz21⟩ : ∃ z : Fin PP, z = z12 * z13 := ⟨_, rfl⟩
  refine calls_st (vs := [.agg (sv s), .agg (sv t)]) 78 Tryd.func20 rfl Tryd.ntmps20 rfl (fun a W H => ?_)
  replace H : St 78 w a W [(0, .agg (sv s)), (1, .agg (sv t))] [] := H
  refine wp_seq_k (fun K1 hK1 => ?_)
  refine rg_plain ?_
  refine pl_box rfl rfl (bx_pt s) rfl rfl rfl rfl H ?_
  clear H a W
  intro g1 a W H
  refine pl_box rfl rfl (bx_pt t) rfl rfl rfl rfl H ?_
  clear H a W
  intro g2 a W H
  refine pl_new (news_of rfl al_pt) rfl rfl rfl rfl H ?_
  clear H a W
  intro g3 a W H
  refine pl_end ?_
  replace H : St 78 w a W [(4, .pointer (some ⟨g3, 0, none⟩)), (3, .pointer (some ⟨g2, 0, none⟩)), (2, .pointer (some ⟨g1, 0, none⟩))] [(g3, 29, #[.int .u64 0, .int .u64 0, .int .u64 0, .int .u64 0, .int .u64 0, .int .u64 0, .int .u64 0, .int .u64 0, .int .u64 0, .int .u64 0, .int .u64 0, .int .u64 0, .int .u64 0, .int .u64 0, .int .u64 0, .int .u64 0]), (g2, 29, sv t), (g1, 29, sv s)] := H.pick [0, 1, 2] [0, 1, 2] rfl
  refine hK1 _ _ ?_
  clear hK1
  refine wp_seq_k (fun K2 hK2 => ?_)
  refine drawnS [.val 13 (.agg (sv s)) [] [2], .val 14 (.agg (sv z1)) [0] [], .val 15 (.agg (sv t)) [] [1], .val 16 (.agg (sv z2)) [2] [], .sto 2 g1 29 (sv s) (sv z1) [1], .sto 1 g2 29 (sv t) (sv z2) [3]] [0, 1, 0, 6, 11, 31] (by kernel_rfl) (by kernel_rfl) (by kernel_rfl) H ⟨⟨does_load rfl rfl (k := 0) rfl Tryd.underlying29 rfl (info_pt _), wanted_none rfl⟩, ⟨does_call rfl ⟨_, Tryd.func59, by kernel_rfl⟩ rfl (fun W hb => settled_any hz1 W (hpg.ext hb)), wanted_none rfl⟩, ⟨does_load rfl rfl (k := 0) rfl Tryd.underlying29 rfl (info_pt _), wanted_none rfl⟩, ⟨does_call rfl ⟨_, Tryd.func59, by kernel_rfl⟩ rfl (fun W hb => settled_any hz2 W (hpg.ext hb)), wanted_none rfl⟩, ⟨rfl, rfl, sto_row rfl rfl rfl (info_pt _) (by simp only [sv_size, ev_size, ks_size, fx_size] <;> rfl) (sv_one _)⟩, ⟨rfl, rfl, sto_row rfl rfl rfl (info_pt _) (by simp only [sv_size, ev_size, ks_size, fx_size] <;> rfl) (sv_one _)⟩, trivial⟩ ?_
  clear H a W
  intro G4 a W H
  replace H : St 78 w a W [(13, .agg (sv s)), (14, .agg (sv z1)), (15, .agg (sv t)), (16, .agg (sv z2)), (4, .pointer (some ⟨g3, 0, none⟩)), (3, .pointer (some ⟨g2, 0, none⟩)), (2, .pointer (some ⟨g1, 0, none⟩))] [(g3, 29, #[.int .u64 0, .int .u64 0, .int .u64 0, .int .u64 0, .int .u64 0, .int .u64 0, .int .u64 0, .int .u64 0, .int .u64 0, .int .u64 0, .int .u64 0, .int .u64 0, .int .u64 0, .int .u64 0, .int .u64 0, .int .u64 0]), (g2, 29, sv z2), (g1, 29, sv z1)] := H
  replace H : St 78 w a W [(4, .pointer (some ⟨g3, 0, none⟩)), (3, .pointer (some ⟨g2, 0, none⟩)), (2, .pointer (some ⟨g1, 0, none⟩))] [(g3, 29, #[.int .u64 0, .int .u64 0, .int .u64 0, .int .u64 0, .int .u64 0, .int .u64 0, .int .u64 0, .int .u64 0, .int .u64 0, .int .u64 0, .int .u64 0, .int .u64 0, .int .u64 0, .int .u64 0, .int .u64 0, .int .u64 0]), (g2, 29, sv z2), (g1, 29, sv z1)] := H.pick [4, 5, 6] [0, 1, 2] rfl
  refine hK2 _ _ ?_
  clear hK2
  refine wp_seq_k (fun K3 hK3 => ?_)
  refine drawnS [.val 17 (.pointer (some ⟨g1, 4 * 1, none⟩)) [] [], .val 18 (.agg (ev z1.b)) [0] [2], .val 19 (.pointer (some ⟨g1, 4 * 0, none⟩)) [] [], .val 20 (.agg (ev z1.a)) [2] [2], .val 21 (.agg (ev z3)) [1, 3] [], .val 22 (.pointer (some ⟨g2, 4 * 1, none⟩)) [] [], .val 23 (.agg (ev z2.b)) [5] [1], .val 24 (.pointer (some ⟨g2, 4 * 0, none⟩)) [] [], .val 25 (.agg (ev z2.a)) [7] [1], .val 26 (.agg (ev z4)) [6, 8] [], .val 27 (.agg (ev z5)) [4, 9] [], .new 5 27 (#[.int .u64 0, .int .u64 0, .int .u64 0, .int .u64 0]), .ston 11 5 27 (#[.int .u64 0, .int .u64 0, .int .u64 0, .int .u64 0]) (ev z5) [10]] [0, 1, 0, 4, 10, 0, 32, 0, 128, 336, 528, 0, 4095] (by kernel_rfl) (by kernel_rfl) (by kernel_rfl) H ⟨⟨does_fieldAddr rfl rfl (fa_pt _ · |>.2.1), wanted_none rfl⟩, ⟨does_loadAt (v := .agg (ev z1.b)) rfl rfl (k := 0) rfl (ld_pt (k := 1) (by omega)), wanted_none rfl⟩, ⟨does_fieldAddr rfl rfl (fa_pt _ · |>.1), wanted_none rfl⟩, ⟨does_loadAt (v := .agg (ev z1.a)) rfl rfl (k := 0) rfl (ld_pt (k := 0) (by omega)), wanted_none rfl⟩, ⟨does_call rfl ⟨_, Tryd.func37, by kernel_rfl⟩ rfl (fun W hb => subP hz3 W (hpg.ext hb)), wanted_none rfl⟩, ⟨does_fieldAddr rfl rfl (fa_pt _ · |>.2.1), wanted_none rfl⟩, ⟨does_loadAt (v := .agg (ev z2.b)) rfl rfl (k := 0) rfl (ld_pt (k := 1) (by omega)), wanted_none rfl⟩, ⟨does_fieldAddr rfl rfl (fa_pt _ · |>.1), wanted_none rfl⟩, ⟨does_loadAt (v := .agg (ev z2.a)) rfl rfl (k := 0) rfl (ld_pt (k := 0) (by omega)), wanted_none rfl⟩, ⟨does_call rfl ⟨_, Tryd.func37, by kernel_rfl⟩ rfl (fun W hb => subP hz4 W (hpg.ext hb)), wanted_none rfl⟩, ⟨does_call rfl ⟨_, Tryd.func36, by kernel_rfl⟩ rfl (fun W hb => mulP hz5 W (hpg.ext hb)), wanted_none rfl⟩, ⟨news_of rfl al_elem, rfl⟩, ⟨rfl, rfl, fun g => sto_row rfl rfl rfl (info_ev _) (by simp only [sv_size, ev_size, ks_size, fx_size] <;> rfl) (ev_one _)⟩, trivial⟩ ?_
  clear H a W
  intro G5 a W H
  replace H : St 78 w a W [(17, .pointer (some ⟨g1, 4 * 1, none⟩)), (18, .agg (ev z1.b)), (19, .pointer (some ⟨g1, 4 * 0, none⟩)), (20, .agg (ev z1.a)), (21, .agg (ev z3)), (22, .pointer (some ⟨g2, 4 * 1, none⟩)), (23, .agg (ev z2.b)), (24, .pointer (some ⟨g2, 4 * 0, none⟩)), (25, .agg (ev z2.a)), (26, .agg (ev z4)), (27, .agg (ev z5)), (5, .pointer (some ⟨(G5 11), 0, none⟩)), (4, .pointer (some ⟨g3, 0, none⟩)), (3, .pointer (some ⟨g2, 0, none⟩)), (2, .pointer (some ⟨g1, 0, none⟩))] [((G5 11), 27, ev z5), (g3, 29, #[.int .u64 0, .int .u64 0, .int .u64 0, .int .u64 0, .int .u64 0, .int .u64 0, .int .u64 0, .int .u64 0, .int .u64 0, .int .u64 0, .int .u64 0, .int .u64 0, .int .u64 0, .int .u64 0, .int .u64 0, .int .u64 0]), (g2, 29, sv z2), (g1, 29, sv z1)] := H
  replace H : St 78 w a W [(5, .pointer (some ⟨(G5 11), 0, none⟩)), (4, .pointer (some ⟨g3, 0, none⟩)), (3, .pointer (some ⟨g2, 0, none⟩)), (2, .pointer (some ⟨g1, 0, none⟩))] [((G5 11), 27, ev z5), (g3, 29, #[.int .u64 0, .int .u64 0, .int .u64 0, .int .u64 0, .int .u64 0, .int .u64 0, .int .u64 0, .int .u64 0, .int .u64 0, .int .u64 0, .int .u64 0, .int .u64 0, .int .u64 0, .int .u64 0, .int .u64 0, .int .u64 0]), (g2, 29, sv z2), (g1, 29, sv z1)] := H.pick [11, 12, 13, 14] [0, 1, 2, 3] rfl
  refine hK3 _ _ ?_
  clear hK3
  refine wp_seq_k (fun K4 hK4 => ?_)
  refine drawnS [.val 28 (.pointer (some ⟨g1, 4 * 1, none⟩)) [] [], .val 29 (.agg (ev z1.b)) [0] [3], .val 30 (.pointer (some ⟨g1, 4 * 0, none⟩)) [] [], .val 31 (.agg (ev z1.a)) [2] [3], .val 32 (.agg (ev z6)) [1, 3] [], .val 33 (.pointer (some ⟨g2, 4 * 1, none⟩)) [] [], .val 34 (.agg (ev z2.b)) [5] [2], .val 35 (.pointer (some ⟨g2, 4 * 0, none⟩)) [] [], .val 36 (.agg (ev z2.a)) [7] [2], .val 37 (.agg (ev z7)) [6, 8] [], .val 38 (.agg (ev z8)) [4, 9] [], .new 6 27 (#[.int .u64 0, .int .u64 0, .int .u64 0, .int .u64 0]), .ston 11 6 27 (#[.int .u64 0, .int .u64 0, .int .u64 0, .int .u64 0]) (ev z8) [10]] [0, 1, 0, 4, 10, 0, 32, 0, 128, 336, 528, 0, 4095] (by kernel_rfl) (by kernel_rfl) (by kernel_rfl) H ⟨⟨does_fieldAddr rfl rfl (fa_pt _ · |>.2.1), wanted_none rfl⟩, ⟨does_loadAt (v := .agg (ev z1.b)) rfl rfl (k := 0) rfl (ld_pt (k := 1) (by omega)), wanted_none rfl⟩, ⟨does_fieldAddr rfl rfl (fa_pt _ · |>.1), wanted_none rfl⟩, ⟨does_loadAt (v := .agg (ev z1.a)) rfl rfl (k := 0) rfl (ld_pt (k := 0) (by omega)), wanted_none rfl⟩, ⟨does_call rfl ⟨_, Tryd.func35, by kernel_rfl⟩ rfl (fun W hb => addP hz6 W (hpg.ext hb)), wanted_none rfl⟩, ⟨does_fieldAddr rfl rfl (fa_pt _ · |>.2.1), wanted_none rfl⟩, ⟨does_loadAt (v := .agg (ev z2.b)) rfl rfl (k := 0) rfl (ld_pt (k := 1) (by omega)), wanted_none rfl⟩, ⟨does_fieldAddr rfl rfl (fa_pt _ · |>.1), wanted_none rfl⟩, ⟨does_loadAt (v := .agg (ev z2.a)) rfl rfl (k := 0) rfl (ld_pt (k := 0) (by omega)), wanted_none rfl⟩, ⟨does_call rfl ⟨_, Tryd.func35, by kernel_rfl⟩ rfl (fun W hb => addP hz7 W (hpg.ext hb)), wanted_none rfl⟩, ⟨does_call rfl ⟨_, Tryd.func36, by kernel_rfl⟩ rfl (fun W hb => mulP hz8 W (hpg.ext hb)), wanted_none rfl⟩, ⟨news_of rfl al_elem, rfl⟩, ⟨rfl, rfl, fun g => sto_row rfl rfl rfl (info_ev _) (by simp only [sv_size, ev_size, ks_size, fx_size] <;> rfl) (ev_one _)⟩, trivial⟩ ?_
  clear H a W
  intro G6 a W H
  replace H : St 78 w a W [(28, .pointer (some ⟨g1, 4 * 1, none⟩)), (29, .agg (ev z1.b)), (30, .pointer (some ⟨g1, 4 * 0, none⟩)), (31, .agg (ev z1.a)), (32, .agg (ev z6)), (33, .pointer (some ⟨g2, 4 * 1, none⟩)), (34, .agg (ev z2.b)), (35, .pointer (some ⟨g2, 4 * 0, none⟩)), (36, .agg (ev z2.a)), (37, .agg (ev z7)), (38, .agg (ev z8)), (6, .pointer (some ⟨(G6 11), 0, none⟩)), (5, .pointer (some ⟨(G5 11), 0, none⟩)), (4, .pointer (some ⟨g3, 0, none⟩)), (3, .pointer (some ⟨g2, 0, none⟩)), (2, .pointer (some ⟨g1, 0, none⟩))] [((G6 11), 27, ev z8), ((G5 11), 27, ev z5), (g3, 29, #[.int .u64 0, .int .u64 0, .int .u64 0, .int .u64 0, .int .u64 0, .int .u64 0, .int .u64 0, .int .u64 0, .int .u64 0, .int .u64 0, .int .u64 0, .int .u64 0, .int .u64 0, .int .u64 0, .int .u64 0, .int .u64 0]), (g2, 29, sv z2), (g1, 29, sv z1)] := H
  replace H : St 78 w a W [(6, .pointer (some ⟨(G6 11), 0, none⟩)), (5, .pointer (some ⟨(G5 11), 0, none⟩)), (4, .pointer (some ⟨g3, 0, none⟩)), (3, .pointer (some ⟨g2, 0, none⟩)), (2, .pointer (some ⟨g1, 0, none⟩))] [((G6 11), 27, ev z8), ((G5 11), 27, ev z5), (g3, 29, #[.int .u64 0, .int .u64 0, .int .u64 0, .int .u64 0, .int .u64 0, .int .u64 0, .int .u64 0, .int .u64 0, .int .u64 0, .int .u64 0, .int .u64 0, .int .u64 0, .int .u64 0, .int .u64 0, .int .u64 0, .int .u64 0]), (g2, 29, sv z2), (g1, 29, sv z1)] := H.pick [11, 12, 13, 14, 15] [0, 1, 2, 3, 4] rfl
  refine hK4 _ _ ?_
  clear hK4
  refine wp_seq_k (fun K5 hK5 => ?_)
  refine rg_plain ?_
  refine pl_does (does_fieldAddr rfl rfl (fa_pt _ · |>.2.2.1)) rfl rfl rfl rfl H ?_
  clear H a W
  intro a W H
  refine pl_does (does_loadAt (v := .agg (ev z1.c)) rfl rfl (k := 4) rfl (ld_pt (k := 2) (by omega))) rfl rfl rfl rfl H ?_
  clear H a W
  intro a W H
  refine pl_does (does_fieldAddr rfl rfl (fa_pt _ · |>.2.2.1)) rfl rfl rfl rfl H ?_
  clear H a W
  intro a W H
  refine pl_does (does_loadAt (v := .agg (ev z2.c)) rfl rfl (k := 3) rfl (ld_pt (k := 2) (by omega))) rfl rfl rfl rfl H ?_
  clear H a W
  intro a W H
  refine pl_does (does_call rfl ⟨_, Tryd.func36, by kernel_rfl⟩ rfl (fun W hb => mulP hz9 W (hpg.ext hb))) rfl rfl rfl rfl H ?_
  clear H a W
  intro a W H
  refine pl_new (news_of rfl al_elem) rfl rfl rfl rfl H ?_
  clear H a W
  intro g7 a W H
  refine pl_store rfl rfl rfl (k := 0) rfl (info_ev _) (by simp only [sv_size, ev_size, ks_size, fx_size] <;> rfl) (ev_one _) rfl rfl H ?_
  clear H a W
  intro a W H
  refine pl_end ?_
  replace H : St 78 w a W [(7, .pointer (some ⟨g7, 0, none⟩)), (6, .pointer (some ⟨(G6 11), 0, none⟩)), (5, .pointer (some ⟨(G5 11), 0, none⟩)), (4, .pointer (some ⟨g3, 0, none⟩)), (3, .pointer (some ⟨g2, 0, none⟩)), (2, .pointer (some ⟨g1, 0, none⟩))] [(g7, 27, ev z9), ((G6 11), 27, ev z8), ((G5 11), 27, ev z5), (g3, 29, #[.int .u64 0, .int .u64 0, .int .u64 0, .int .u64 0, .int .u64 0, .int .u64 0, .int .u64 0, .int .u64 0, .int .u64 0, .int .u64 0, .int .u64 0, .int .u64 0, .int .u64 0, .int .u64 0, .int .u64 0, .int .u64 0]), (g2, 29, sv z2), (g1, 29, sv z1)] := H.pick [0, 6, 7, 8, 9, 10] [0, 1, 2, 3, 4, 5] rfl
  refine hK5 _ _ ?_
  clear hK5
  refine wp_seq_k (fun K6 hK6 => ?_)
  refine rg_plain ?_
  refine pl_does (does_fieldAddr rfl rfl (fa_pt _ · |>.2.2.2)) rfl rfl rfl rfl H ?_
  clear H a W
  intro a W H
  refine pl_does (does_loadAt (v := .agg (ev z1.d)) rfl rfl (k := 5) rfl (ld_pt (k := 3) (by omega))) rfl rfl rfl rfl H ?_
  clear H a W
  intro a W H
  refine pl_does (does_fieldAddr rfl rfl (fa_pt _ · |>.2.2.2)) rfl rfl rfl rfl H ?_
  clear H a W
  intro a W H
  refine pl_does (does_loadAt (v := .agg (ev z2.d)) rfl rfl (k := 4) rfl (ld_pt (k := 3) (by omega))) rfl rfl rfl rfl H ?_
  clear H a W
  intro a W H
  refine pl_does (does_call rfl ⟨_, Tryd.func36, by kernel_rfl⟩ rfl (fun W hb => mulP hz10 W (hpg.ext hb))) rfl rfl rfl rfl H ?_
  clear H a W
  intro a W H
  refine pl_does (does_call rfl ⟨_, Tryd.func43, by kernel_rfl⟩ rfl (fun W hb => writtenD_any W (hpg.ext hb))) rfl rfl rfl rfl H ?_
  clear H a W
  intro a W H
  refine pl_does (does_call rfl ⟨_, Tryd.func36, by kernel_rfl⟩ rfl (fun W hb => mulP hz11 W (hpg.ext hb))) rfl rfl rfl rfl H ?_
  clear H a W
  intro a W H
  refine pl_new (news_of rfl al_elem) rfl rfl rfl rfl H ?_
  clear H a W
  intro g8 a W H
  refine pl_store rfl rfl rfl (k := 0) rfl (info_ev _) (by simp only [sv_size, ev_size, ks_size, fx_size] <;> rfl) (ev_one _) rfl rfl H ?_
  clear H a W
  intro a W H
  refine pl_end ?_
  replace H : St 78 w a W [(8, .pointer (some ⟨g8, 0, none⟩)), (7, .pointer (some ⟨g7, 0, none⟩)), (6, .pointer (some ⟨(G6 11), 0, none⟩)), (5, .pointer (some ⟨(G5 11), 0, none⟩)), (4, .pointer (some ⟨g3, 0, none⟩))] [(g8, 27, ev z11), (g7, 27, ev z9), ((G6 11), 27, ev z8), ((G5 11), 27, ev z5), (g3, 29, #[.int .u64 0, .int .u64 0, .int .u64 0, .int .u64 0, .int .u64 0, .int .u64 0, .int .u64 0, .int .u64 0, .int .u64 0, .int .u64 0, .int .u64 0, .int .u64 0, .int .u64 0, .int .u64 0, .int .u64 0, .int .u64 0])] := H.pick [0, 8, 9, 10, 11] [0, 1, 2, 3, 4] rfl
  refine hK6 _ _ ?_
  clear hK6
  refine wp_seq_k (fun K7 hK7 => ?_)
  refine drawnS [.val 51 (.agg (ev z8)) [] [2], .val 52 (.agg (ev z5)) [] [3], .val 53 (.agg (ev z12)) [0, 1] [], .val 54 (.agg (ev z8)) [] [2], .val 55 (.agg (ev z5)) [] [3], .val 56 (.agg (ev z13)) [3, 4] [], .new 9 27 (#[.int .u64 0, .int .u64 0, .int .u64 0, .int .u64 0]), .new 10 27 (#[.int .u64 0, .int .u64 0, .int .u64 0, .int .u64 0]), .ston 6 9 27 (#[.int .u64 0, .int .u64 0, .int .u64 0, .int .u64 0]) (ev z12) [2], .ston 7 10 27 (#[.int .u64 0, .int .u64 0, .int .u64 0, .int .u64 0]) (ev z13) [5]] [0, 0, 3, 0, 0, 28, 0, 0, 231, 511] (by kernel_rfl) (by kernel_rfl) (by kernel_rfl) H ⟨⟨does_load rfl rfl (k := 0) rfl Tryd.underlying27 rfl (info_ev _), wanted_none rfl⟩, ⟨does_load rfl rfl (k := 0) rfl Tryd.underlying27 rfl (info_ev _), wanted_none rfl⟩, ⟨does_call rfl ⟨_, Tryd.func37, by kernel_rfl⟩ rfl (fun W hb => subP hz12 W (hpg.ext hb)), wanted_none rfl⟩, ⟨does_load rfl rfl (k := 0) rfl Tryd.underlying27 rfl (info_ev _), wanted_none rfl⟩, ⟨does_load rfl rfl (k := 0) rfl Tryd.underlying27 rfl (info_ev _), wanted_none rfl⟩, ⟨does_call rfl ⟨_, Tryd.func35, by kernel_rfl⟩ rfl (fun W hb => addP hz13 W (hpg.ext hb)), wanted_none rfl⟩, ⟨news_of rfl al_elem, rfl⟩, ⟨news_of rfl al_elem, rfl⟩, ⟨rfl, rfl, fun g => sto_row rfl rfl rfl (info_ev _) (by simp only [sv_size, ev_size, ks_size, fx_size] <;> rfl) (ev_one _)⟩, ⟨rfl, rfl, fun g => sto_row rfl rfl rfl (info_ev _) (by simp only [sv_size, ev_size, ks_size, fx_size] <;> rfl) (ev_one _)⟩, trivial⟩ ?_
  clear H a W
  intro G9 a W H
  replace H : St 78 w a W [(51, .agg (ev z8)), (52, .agg (ev z5)), (53, .agg (ev z12)), (54, .agg (ev z8)), (55, .agg (ev z5)), (56, .agg (ev z13)), (9, .pointer (some ⟨(G9 6), 0, none⟩)), (10, .pointer (some ⟨(G9 7), 0, none⟩)), (8, .pointer (some ⟨g8, 0, none⟩)), (7, .pointer (some ⟨g7, 0, none⟩)), (6, .pointer (some ⟨(G6 11), 0, none⟩)), (5, .pointer (some ⟨(G5 11), 0, none⟩)), (4, .pointer (some ⟨g3, 0, none⟩))] [((G9 6), 27, ev z12), ((G9 7), 27, ev z13), (g8, 27, ev z11), (g7, 27, ev z9), ((G6 11), 27, ev z8), ((G5 11), 27, ev z5), (g3, 29, #[.int .u64 0, .int .u64 0, .int .u64 0, .int .u64 0, .int .u64 0, .int .u64 0, .int .u64 0, .int .u64 0, .int .u64 0, .int .u64 0, .int .u64 0, .int .u64 0, .int .u64 0, .int .u64 0, .int .u64 0, .int .u64 0])] := H
  replace H : St 78 w a W [(9, .pointer (some ⟨(G9 6), 0, none⟩)), (10, .pointer (some ⟨(G9 7), 0, none⟩)), (8, .pointer (some ⟨g8, 0, none⟩)), (7, .pointer (some ⟨g7, 0, none⟩)), (4, .pointer (some ⟨g3, 0, none⟩))] [((G9 6), 27, ev z12), ((G9 7), 27, ev z13), (g8, 27, ev z11), (g7, 27, ev z9), (g3, 29, #[.int .u64 0, .int .u64 0, .int .u64 0, .int .u64 0, .int .u64 0, .int .u64 0, .int .u64 0, .int .u64 0, .int .u64 0, .int .u64 0, .int .u64 0, .int .u64 0, .int .u64 0, .int .u64 0, .int .u64 0, .int .u64 0])] := H.pick [6, 7, 8, 9, 12] [0, 1, 2, 3, 6] rfl
  refine hK7 _ _ ?_
  clear hK7
  refine wp_seq_k (fun K8 hK8 => ?_)
  refine drawnS [.val 57 (.agg (ev z9)) [] [3], .val 58 (.agg (ev z11)) [] [2], .val 59 (.agg (ev z14)) [0, 1] [], .val 60 (.agg (ev z15)) [2] [], .val 61 (.agg (ev z9)) [] [3], .val 62 (.agg (ev z11)) [] [2], .val 63 (.agg (ev z16)) [4, 5] [], .val 64 (.agg (ev z17)) [6] [], .new 11 27 (#[.int .u64 0, .int .u64 0, .int .u64 0, .int .u64 0]), .new 12 27 (#[.int .u64 0, .int .u64 0, .int .u64 0, .int .u64 0]), .ston 8 11 27 (#[.int .u64 0, .int .u64 0, .int .u64 0, .int .u64 0]) (ev z15) [3], .ston 9 12 27 (#[.int .u64 0, .int .u64 0, .int .u64 0, .int .u64 0]) (ev z17) [7]] [0, 0, 3, 4, 0, 0, 56, 64, 0, 0, 911, 2047] (by kernel_rfl) (by kernel_rfl) (by kernel_rfl) H ⟨⟨does_load rfl rfl (k := 0) rfl Tryd.underlying27 rfl (info_ev _), wanted_none rfl⟩, ⟨does_load rfl rfl (k := 0) rfl Tryd.underlying27 rfl (info_ev _), wanted_none rfl⟩, ⟨does_call rfl ⟨_, Tryd.func35, by kernel_rfl⟩ rfl (fun W hb => addP hz14 W (hpg.ext hb)), wanted_none rfl⟩, ⟨does_call rfl ⟨_, Tryd.func60, by kernel_rfl⟩ rfl (fun W hb => twice_any hz15 W (hpg.ext hb)), wanted_none rfl⟩, ⟨does_load rfl rfl (k := 0) rfl Tryd.underlying27 rfl (info_ev _), wanted_none rfl⟩, ⟨does_load rfl rfl (k := 0) rfl Tryd.underlying27 rfl (info_ev _), wanted_none rfl⟩, ⟨does_call rfl ⟨_, Tryd.func37, by kernel_rfl⟩ rfl (fun W hb => subP hz16 W (hpg.ext hb)), wanted_none rfl⟩, ⟨does_call rfl ⟨_, Tryd.func60, by kernel_rfl⟩ rfl (fun W hb => twice_any hz17 W (hpg.ext hb)), wanted_none rfl⟩, ⟨news_of rfl al_elem, rfl⟩, ⟨news_of rfl al_elem, rfl⟩, ⟨rfl, rfl, fun g => sto_row rfl rfl rfl (info_ev _) (by simp only [sv_size, ev_size, ks_size, fx_size] <;> rfl) (ev_one _)⟩, ⟨rfl, rfl, fun g => sto_row rfl rfl rfl (info_ev _) (by simp only [sv_size, ev_size, ks_size, fx_size] <;> rfl) (ev_one _)⟩, trivial⟩ ?_
  clear H a W
  intro G10 a W H
  replace H : St 78 w a W [(57, .agg (ev z9)), (58, .agg (ev z11)), (59, .agg (ev z14)), (60, .agg (ev z15)), (61, .agg (ev z9)), (62, .agg (ev z11)), (63, .agg (ev z16)), (64, .agg (ev z17)), (11, .pointer (some ⟨(G10 8), 0, none⟩)), (12, .pointer (some ⟨(G10 9), 0, none⟩)), (9, .pointer (some ⟨(G9 6), 0, none⟩)), (10, .pointer (some ⟨(G9 7), 0, none⟩)), (8, .pointer (some ⟨g8, 0, none⟩)), (7, .pointer (some ⟨g7, 0, none⟩)), (4, .pointer (some ⟨g3, 0, none⟩))] [((G10 8), 27, ev z15), ((G10 9), 27, ev z17), ((G9 6), 27, ev z12), ((G9 7), 27, ev z13), (g8, 27, ev z11), (g7, 27, ev z9), (g3, 29, #[.int .u64 0, .int .u64 0, .int .u64 0, .int .u64 0, .int .u64 0, .int .u64 0, .int .u64 0, .int .u64 0, .int .u64 0, .int .u64 0, .int .u64 0, .int .u64 0, .int .u64 0, .int .u64 0, .int .u64 0, .int .u64 0])] := H
  replace H : St 78 w a W [(11, .pointer (some ⟨(G10 8), 0, none⟩)), (12, .pointer (some ⟨(G10 9), 0, none⟩)), (9, .pointer (some ⟨(G9 6), 0, none⟩)), (10, .pointer (some ⟨(G9 7), 0, none⟩)), (4, .pointer (some ⟨g3, 0, none⟩))] [((G10 8), 27, ev z15), ((G10 9), 27, ev z17), ((G9 6), 27, ev z12), ((G9 7), 27, ev z13), (g3, 29, #[.int .u64 0, .int .u64 0, .int .u64 0, .int .u64 0, .int .u64 0, .int .u64 0, .int .u64 0, .int .u64 0, .int .u64 0, .int .u64 0, .int .u64 0, .int .u64 0, .int .u64 0, .int .u64 0, .int .u64 0, .int .u64 0])] := H.pick [8, 9, 10, 11, 14] [0, 1, 2, 3, 6] rfl
  refine hK8 _ _ ?_
  clear hK8
  refine wp_seq_k (fun K9 hK9 => ?_)
  refine drawnS [.val 65 (.agg (ev z12)) [] [2], .val 66 (.agg (ev z17)) [] [1], .val 67 (.agg (ev z18)) [0, 1] [], .val 68 (.agg (ev z13)) [] [3], .val 69 (.agg (ev z15)) [] [0], .val 70 (.agg (ev z19)) [3, 4] [], .val 71 (.agg (ev z15)) [] [0], .val 72 (.agg (ev z17)) [] [1], .val 73 (.agg (ev z20)) [6, 7] [], .val 74 (.agg (ev z12)) [] [2], .val 75 (.agg (ev z13)) [] [3], .val 76 (.agg (ev z21)) [9, 10] [], .val 77 (.agg (sv ⟨z18, z19, z20, z21⟩)) [2, 5, 8, 11] [], .sto 4 g3 29 (#[.int .u64 0, .int .u64 0, .int .u64 0, .int .u64 0, .int .u64 0, .int .u64 0, .int .u64 0, .int .u64 0, .int .u64 0, .int .u64 0, .int .u64 0, .int .u64 0, .int .u64 0, .int .u64 0, .int .u64 0, .int .u64 0]) (sv ⟨z18, z19, z20, z21⟩) [12]] [0, 0, 3, 0, 0, 28, 0, 0, 224, 0, 0, 1792, 2340, 8191] (by kernel_rfl) (by kernel_rfl) (by kernel_rfl) H ⟨⟨does_load rfl rfl (k := 0) rfl Tryd.underlying27 rfl (info_ev _), wanted_none rfl⟩, ⟨does_load rfl rfl (k := 0) rfl Tryd.underlying27 rfl (info_ev _), wanted_none rfl⟩, ⟨does_call rfl ⟨_, Tryd.func36, by kernel_rfl⟩ rfl (fun W hb => mulP hz18 W (hpg.ext hb)), wanted_none rfl⟩, ⟨does_load rfl rfl (k := 0) rfl Tryd.underlying27 rfl (info_ev _), wanted_none rfl⟩, ⟨does_load rfl rfl (k := 0) rfl Tryd.underlying27 rfl (info_ev _), wanted_none rfl⟩, ⟨does_call rfl ⟨_, Tryd.func36, by kernel_rfl⟩ rfl (fun W hb => mulP hz19 W (hpg.ext hb)), wanted_none rfl⟩, ⟨does_load rfl rfl (k := 0) rfl Tryd.underlying27 rfl (info_ev _), wanted_none rfl⟩, ⟨does_load rfl rfl (k := 0) rfl Tryd.underlying27 rfl (info_ev _), wanted_none rfl⟩, ⟨does_call rfl ⟨_, Tryd.func36, by kernel_rfl⟩ rfl (fun W hb => mulP hz20 W (hpg.ext hb)), wanted_none rfl⟩, ⟨does_load rfl rfl (k := 0) rfl Tryd.underlying27 rfl (info_ev _), wanted_none rfl⟩, ⟨does_load rfl rfl (k := 0) rfl Tryd.underlying27 rfl (info_ev _), wanted_none rfl⟩, ⟨does_call rfl ⟨_, Tryd.func36, by kernel_rfl⟩ rfl (fun W hb => mulP hz21 W (hpg.ext hb)), wanted_none rfl⟩, ⟨does_build rfl rfl (bd_pt z18 z19 z20 z21), wanted_none rfl⟩, ⟨rfl, rfl, sto_row rfl rfl rfl (info_pt _) (by simp only [sv_size, ev_size, ks_size, fx_size] <;> rfl) (sv_one _)⟩, trivial⟩ ?_
  clear H a W
  intro G11 a W H
  replace H : St 78 w a W [(65, .agg (ev z12)), (66, .agg (ev z17)), (67, .agg (ev z18)), (68, .agg (ev z13)), (69, .agg (ev z15)), (70, .agg (ev z19)), (71, .agg (ev z15)), (72, .agg (ev z17)), (73, .agg (ev z20)), (74, .agg (ev z12)), (75, .agg (ev z13)), (76, .agg (ev z21)), (77, .agg (sv ⟨z18, z19, z20, z21⟩)), (11, .pointer (some ⟨(G10 8), 0, none⟩)), (12, .pointer (some ⟨(G10 9), 0, none⟩)), (9, .pointer (some ⟨(G9 6), 0, none⟩)), (10, .pointer (some ⟨(G9 7), 0, none⟩)), (4, .pointer (some ⟨g3, 0, none⟩))] [((G10 8), 27, ev z15), ((G10 9), 27, ev z17), ((G9 6), 27, ev z12), ((G9 7), 27, ev z13), (g3, 29, sv ⟨z18, z19, z20, z21⟩)] := H
  replace H : St 78 w a W [(4, .pointer (some ⟨g3, 0, none⟩))] [(g3, 29, sv ⟨z18, z19, z20, z21⟩)] := H.pick [17] [4] rfl
  refine hK9 _ _ ?_
  clear hK9
  refine wp_ret ?_
  repeat (first | (with_reducible refine then_ret ?_) | (with_reducible refine blk_ret ?_))
  refine end_cell (p := 4) rfl rfl (k := 0) rfl Tryd.underlying29 rfl (info_pt _) H (fun hb => ?_)
  refine ⟨?_, hb⟩
  rw [h]
  unfold ptAdd ptAdd0 paU paV paL paH
  subst hz1 hz2 hz3 hz4 hz5 hz6 hz7 hz8 hz9 hz10 hz11 hz12 hz13 hz14 hz15 hz16 hz17 hz18 hz19 hz20 hz21
  rfl
set_option maxHeartbeats 4000000 in
theorem equal_zero {s t : L4 PP} (h1 : ¬ (ptSet s).a * (ptSet t).c = (ptSet t).a * (ptSet s).c) (w : World) (hpg : PG w) : Calls Tryd.prog 25 #[.agg (sv s), .agg (sv t)] w (fun rr w' => rr = .returned (.bool false) ∧ Below w.heap.size w w') := by
  obtain ⟨zs, hzs⟩ : ∃ z, z = ptSet s := ⟨_, rfl⟩
  obtain ⟨zt, hzt⟩ : ∃ z, z = ptSet t := ⟨_, rfl⟩
  obtain ⟨z1, hz1⟩ : ∃ z : Fin PP, z = zs.a * zt.c := ⟨_, rfl⟩
  obtain ⟨z2, hz2⟩ : ∃ z : Fin PP, z = zt.a * zs.c := ⟨_, rfl⟩
  rw [← hzs, ← hzt, ← hz1, ← hz2] at h1
  refine calls_st (vs := [.agg (sv s), .agg (sv t)]) 33 Tryd.func25 rfl Tryd.ntmps25 rfl (fun a W H => ?_)
  replace H : St 33 w a W [(0, .agg (sv s)), (1, .agg (sv t))] [] := H
  refine wp_seq_k (fun K1 hK1 => ?_)
  refine rg_plain ?_
  refine pl_box rfl rfl (bx_pt s) rfl rfl rfl rfl H ?_
  clear H a W
  intro g1 a W H
  refine pl_box rfl rfl (bx_pt t) rfl rfl rfl rfl H ?_
  clear H a W
  intro g2 a W H
  refine pl_does (does_assign rfl rfl) rfl rfl rfl rfl H ?_
  clear H a W
  intro a W H
  refine pl_end ?_
  replace H : St 33 w a W [(4, .bool false), (3, .pointer (some ⟨g2, 0, none⟩)), (2, .pointer (some ⟨g1, 0, none⟩))] [(g2, 29, sv t), (g1, 29, sv s)] := H.pick [0, 1, 2] [0, 1] rfl
  refine hK1 _ _ ?_
  clear hK1
  refine wp_seq_k (fun K2 hK2 => ?_)
  refine drawnS [.val 5 (.agg (sv s)) [] [1], .val 6 (.agg (sv zs)) [0] [], .val 7 (.agg (sv t)) [] [0], .val 8 (.agg (sv zt)) [2] [], .sto 1 g1 29 (sv s) (sv zs) [1], .sto 0 g2 29 (sv t) (sv zt) [3]] [0, 1, 0, 6, 11, 31] (by kernel_rfl) (by kernel_rfl) (by kernel_rfl) H ⟨⟨does_load rfl rfl (k := 0) rfl Tryd.underlying29 rfl (info_pt _), wanted_none rfl⟩, ⟨does_call rfl ⟨_, Tryd.func59, by kernel_rfl⟩ rfl (fun W hb => settled_any hzs W (hpg.ext hb)), wanted_none rfl⟩, ⟨does_load rfl rfl (k := 0) rfl Tryd.underlying29 rfl (info_pt _), wanted_none rfl⟩, ⟨does_call rfl ⟨_, Tryd.func59, by kernel_rfl⟩ rfl (fun W hb => settled_any hzt W (hpg.ext hb)), wanted_none rfl⟩, ⟨rfl, rfl, sto_row rfl rfl rfl (info_pt _) (by simp only [sv_size, ev_size, ks_size, fx_size] <;> rfl) (sv_one _)⟩, ⟨rfl, rfl, sto_row rfl rfl rfl (info_pt _) (by simp only [sv_size, ev_size, ks_size, fx_size] <;> rfl) (sv_one _)⟩, trivial⟩ ?_
  clear H a W
  intro G3 a W H
  replace H : St 33 w a W [(5, .agg (sv s)), (6, .agg (sv zs)), (7, .agg (sv t)), (8, .agg (sv zt)), (4, .bool false), (3, .pointer (some ⟨g2, 0, none⟩)), (2, .pointer (some ⟨g1, 0, none⟩))] [(g2, 29, sv zt), (g1, 29, sv zs)] := H
  replace H : St 33 w a W [(4, .bool false), (3, .pointer (some ⟨g2, 0, none⟩)), (2, .pointer (some ⟨g1, 0, none⟩))] [(g2, 29, sv zt), (g1, 29, sv zs)] := H.pick [4, 5, 6] [0, 1] rfl
  refine hK2 _ _ ?_
  clear hK2
  refine wp_seq_k (fun K3 hK3 => ?_)
  replace H : St 33 w a W [(3, .pointer (some ⟨g2, 0, none⟩)), (2, .pointer (some ⟨g1, 0, none⟩))] [(g2, 29, sv zt), (g1, 29, sv zs)] := H.pick [1, 2] [0, 1] rfl
  refine drawnS [.val 9 (.pointer (some ⟨g1, 4 * 0, none⟩)) [] [], .val 10 (.agg (ev zs.a)) [0] [1], .val 11 (.pointer (some ⟨g2, 4 * 2, none⟩)) [] [], .val 12 (.agg (ev zt.c)) [2] [0], .val 13 (.agg (ev z1)) [1, 3] [], .val 14 (.pointer (some ⟨g2, 4 * 0, none⟩)) [] [], .val 15 (.agg (ev zt.a)) [5] [0], .val 16 (.pointer (some ⟨g1, 4 * 2, none⟩)) [] [], .val 17 (.agg (ev zs.c)) [7] [1], .val 18 (.agg (ev z2)) [6, 8] [], .val 19 (.bool false) [4, 9] [], .val 20 (.bool false) [10] [], .off 21 [11], .off 22 [12, 11], .off 23 [11], .off 24 [14, 11], .off 25 [13, 15, 11], .off 26 [11], .off 27 [17, 11], .off 28 [11], .off 29 [19, 11], .off 30 [18, 20, 11], .off 31 [16, 21, 11], .val 32 (.bool false) [11, 22] [], .val 4 (.bool false) [23] []] [0, 1, 0, 4, 10, 0, 32, 0, 128, 336, 528, 1024, 2048, 6144, 2048, 18432, 43008, 2048, 133120, 2048, 526336, 1378304, 2164736, 4196352, 16777215] (by kernel_rfl) (by kernel_rfl) (by kernel_rfl) H ⟨⟨does_fieldAddr rfl rfl (fa_pt _ · |>.1), wanted_none rfl⟩, ⟨does_loadAt (v := .agg (ev zs.a)) rfl rfl (k := 0) rfl (ld_pt (k := 0) (by omega)), wanted_none rfl⟩, ⟨does_fieldAddr rfl rfl (fa_pt _ · |>.2.2.1), wanted_none rfl⟩, ⟨does_loadAt (v := .agg (ev zt.c)) rfl rfl (k := 0) rfl (ld_pt (k := 2) (by omega)), wanted_none rfl⟩, ⟨does_call rfl ⟨_, Tryd.func36, by kernel_rfl⟩ rfl (fun W hb => mulP hz1 W (hpg.ext hb)), wanted_none rfl⟩, ⟨does_fieldAddr rfl rfl (fa_pt _ · |>.1), wanted_none rfl⟩, ⟨does_loadAt (v := .agg (ev zt.a)) rfl rfl (k := 0) rfl (ld_pt (k := 0) (by omega)), wanted_none rfl⟩, ⟨does_fieldAddr rfl rfl (fa_pt _ · |>.2.2.1), wanted_none rfl⟩, ⟨does_loadAt (v := .agg (ev zs.c)) rfl rfl (k := 0) rfl (ld_pt (k := 2) (by omega)), wanted_none rfl⟩, ⟨does_call rfl ⟨_, Tryd.func36, by kernel_rfl⟩ rfl (fun W hb => mulP hz2 W (hpg.ext hb)), wanted_none rfl⟩, ⟨does_call rfl ⟨_, Tryd.func63, by kernel_rfl⟩ rfl (fun W hb => equalB (decide_eq_false h1) W), wanted_none rfl⟩, ⟨does_move rfl rfl, wanted_none rfl⟩, wanted_some rfl rfl rfl rfl rfl, wanted_some rfl rfl rfl rfl rfl, wanted_some rfl rfl rfl rfl rfl, wanted_some rfl rfl rfl rfl rfl, wanted_some rfl rfl rfl rfl rfl, wanted_some rfl rfl rfl rfl rfl, wanted_some rfl rfl rfl rfl rfl, wanted_some rfl rfl rfl rfl rfl, wanted_some rfl rfl rfl rfl rfl, wanted_some rfl rfl rfl rfl rfl, wanted_some rfl rfl rfl rfl rfl, ⟨does_pick rfl rfl (fun hb => by cases hb) (fun _ => rfl), wanted_none rfl⟩, ⟨does_assign rfl rfl, wanted_none rfl⟩, trivial⟩ ?_
  clear H a W
  intro G4 a W H
  replace H : St 33 w a W [(9, .pointer (some ⟨g1, 4 * 0, none⟩)), (10, .agg (ev zs.a)), (11, .pointer (some ⟨g2, 4 * 2, none⟩)), (12, .agg (ev zt.c)), (13, .agg (ev z1)), (14, .pointer (some ⟨g2, 4 * 0, none⟩)), (15, .agg (ev zt.a)), (16, .pointer (some ⟨g1, 4 * 2, none⟩)), (17, .agg (ev zs.c)), (18, .agg (ev z2)), (19, .bool false), (20, .bool false), (21, undef), (22, undef), (23, undef), (24, undef), (25, undef), (26, undef), (27, undef), (28, undef), (29, undef), (30, undef), (31, undef), (32, .bool false), (4, .bool false), (3, .pointer (some ⟨g2, 0, none⟩)), (2, .pointer (some ⟨g1, 0, none⟩))] [(g2, 29, sv zt), (g1, 29, sv zs)] := H
  replace H : St 33 w a W [(4, .bool false)] [] := H.pick [24] [] rfl
  refine hK3 _ _ ?_
  clear hK3
  refine wp_ret ?_
  repeat (first | (with_reducible refine then_ret ?_) | (with_reducible refine blk_ret ?_))
  refine end_tmp (p := 4) rfl rfl H (fun hb => ?_)
  exact ⟨rfl, hb⟩
set_option maxHeartbeats 4000000 in
theorem equal_one {s t : L4 PP} (h1 : (ptSet s).a * (ptSet t).c = (ptSet t).a * (ptSet s).c) {b : Bool} (h2 : decide ((ptSet s).b * (ptSet t).c = (ptSet t).b * (ptSet s).c) = b) (w : World) (hpg : PG w) : Calls Tryd.prog 25 #[.agg (sv s), .agg (sv t)] w (fun rr w' => rr = .returned (.bool b) ∧ Below w.heap.size w w') := by
  obtain ⟨zs, hzs⟩ : ∃ z, z = ptSet s := ⟨_, rfl⟩
  obtain ⟨zt, hzt⟩ : ∃ z, z = ptSet t := ⟨_, rfl⟩
  obtain ⟨z1, hz1⟩ : ∃ z : Fin PP, z = zs.a * zt.c := ⟨_, rfl⟩
  obtain ⟨z2, hz2⟩ : ∃ z : Fin PP, z = zt.a * zs.c := ⟨_, rfl⟩
  obtain ⟨z3, hz3⟩ : ∃ z : Fin PP, z = zs.b * zt.c := ⟨_, rfl⟩
  obtain ⟨z4, hz4⟩ : ∃ z : Fin PP, z = zt.b * zs.c := ⟨_, rfl⟩
  rw [← hzs, ← hzt, ← hz1, ← hz2] at h1
  rw [← hzs, ← hzt, ← hz3, ← hz4] at h2
  refine calls_st (vs := [.agg (sv s), .agg (sv t)]) 33 Tryd.func25 rfl Tryd.ntmps25 rfl (fun a W H => ?_)
  replace H : St 33 w a W [(0, .agg (sv s)), (1, .agg (sv t))] [] := H
  refine wp_seq_k (fun K1 hK1 => ?_)
  refine rg_plain ?_
  refine pl_box rfl rfl (bx_pt s) rfl rfl rfl rfl H ?_
  clear H a W
  intro g1 a W H
  refine pl_box rfl rfl (bx_pt t) rfl rfl rfl rfl H ?_
  clear H a W
  intro g2 a W H
  refine pl_does (does_assign rfl rfl) rfl rfl rfl rfl H ?_
  clear H a W
  intro a W H
  refine pl_end ?_
  replace H : St 33 w a W [(4, .bool false), (3, .pointer (some ⟨g2, 0, none⟩)), (2, .pointer (some ⟨g1, 0, none⟩))] [(g2, 29, sv t), (g1, 29, sv s)] := H.pick [0, 1, 2] [0, 1] rfl
  refine hK1 _ _ ?_
  clear hK1
  refine wp_seq_k (fun K2 hK2 => ?_)
  refine drawnS [.val 5 (.agg (sv s)) [] [1], .val 6 (.agg (sv zs)) [0] [], .val 7 (.agg (sv t)) [] [0], .val 8 (.agg (sv zt)) [2] [], .sto 1 g1 29 (sv s) (sv zs) [1], .sto 0 g2 29 (sv t) (sv zt) [3]] [0, 1, 0, 6, 11, 31] (by kernel_rfl) (by kernel_rfl) (by kernel_rfl) H ⟨⟨does_load rfl rfl (k := 0) rfl Tryd.underlying29 rfl (info_pt _), wanted_none rfl⟩, ⟨does_call rfl ⟨_, Tryd.func59, by kernel_rfl⟩ rfl (fun W hb => settled_any hzs W (hpg.ext hb)), wanted_none rfl⟩, ⟨does_load rfl rfl (k := 0) rfl Tryd.underlying29 rfl (info_pt _), wanted_none rfl⟩, ⟨does_call rfl ⟨_, Tryd.func59, by kernel_rfl⟩ rfl (fun W hb => settled_any hzt W (hpg.ext hb)), wanted_none rfl⟩, ⟨rfl, rfl, sto_row rfl rfl rfl (info_pt _) (by simp only [sv_size, ev_size, ks_size, fx_size] <;> rfl) (sv_one _)⟩, ⟨rfl, rfl, sto_row rfl rfl rfl (info_pt _) (by simp only [sv_size, ev_size, ks_size, fx_size] <;> rfl) (sv_one _)⟩, trivial⟩ ?_
  clear H a W
  intro G3 a W H
  replace H : St 33 w a W [(5, .agg (sv s)), (6, .agg (sv zs)), (7, .agg (sv t)), (8, .agg (sv zt)), (4, .bool false), (3, .pointer (some ⟨g2, 0, none⟩)), (2, .pointer (some ⟨g1, 0, none⟩))] [(g2, 29, sv zt), (g1, 29, sv zs)] := H
  replace H : St 33 w a W [(4, .bool false), (3, .pointer (some ⟨g2, 0, none⟩)), (2, .pointer (some ⟨g1, 0, none⟩))] [(g2, 29, sv zt), (g1, 29, sv zs)] := H.pick [4, 5, 6] [0, 1] rfl
  refine hK2 _ _ ?_
  clear hK2
  refine wp_seq_k (fun K3 hK3 => ?_)
  replace H : St 33 w a W [(3, .pointer (some ⟨g2, 0, none⟩)), (2, .pointer (some ⟨g1, 0, none⟩))] [(g2, 29, sv zt), (g1, 29, sv zs)] := H.pick [1, 2] [0, 1] rfl
  refine drawnS [.val 9 (.pointer (some ⟨g1, 4 * 0, none⟩)) [] [], .val 10 (.agg (ev zs.a)) [0] [1], .val 11 (.pointer (some ⟨g2, 4 * 2, none⟩)) [] [], .val 12 (.agg (ev zt.c)) [2] [0], .val 13 (.agg (ev z1)) [1, 3] [], .val 14 (.pointer (some ⟨g2, 4 * 0, none⟩)) [] [], .val 15 (.agg (ev zt.a)) [5] [0], .val 16 (.pointer (some ⟨g1, 4 * 2, none⟩)) [] [], .val 17 (.agg (ev zs.c)) [7] [1], .val 18 (.agg (ev z2)) [6, 8] [], .val 19 (.bool true) [4, 9] [], .val 20 (.bool true) [10] [], .val 21 (.pointer (some ⟨g1, 4 * 1, none⟩)) [11] [], .val 22 (.agg (ev zs.b)) [12, 11] [1], .val 23 (.pointer (some ⟨g2, 4 * 2, none⟩)) [11] [], .val 24 (.agg (ev zt.c)) [14, 11] [0], .val 25 (.agg (ev z3)) [13, 15, 11] [], .val 26 (.pointer (some ⟨g2, 4 * 1, none⟩)) [11] [], .val 27 (.agg (ev zt.b)) [17, 11] [0], .val 28 (.pointer (some ⟨g1, 4 * 2, none⟩)) [11] [], .val 29 (.agg (ev zs.c)) [19, 11] [1], .val 30 (.agg (ev z4)) [18, 20, 11] [], .val 31 (.bool b) [16, 21, 11] [], .val 32 (.bool b) [11, 22] [], .val 4 (.bool b) [23] []] [0, 1, 0, 4, 10, 0, 32, 0, 128, 336, 528, 1024, 2048, 6144, 2048, 18432, 43008, 2048, 133120, 2048, 526336, 1378304, 2164736, 4196352, 16777215] (by kernel_rfl) (by kernel_rfl) (by kernel_rfl) H ⟨⟨does_fieldAddr rfl rfl (fa_pt _ · |>.1), wanted_none rfl⟩, ⟨does_loadAt (v := .agg (ev zs.a)) rfl rfl (k := 0) rfl (ld_pt (k := 0) (by omega)), wanted_none rfl⟩, ⟨does_fieldAddr rfl rfl (fa_pt _ · |>.2.2.1), wanted_none rfl⟩, ⟨does_loadAt (v := .agg (ev zt.c)) rfl rfl (k := 0) rfl (ld_pt (k := 2) (by omega)), wanted_none rfl⟩, ⟨does_call rfl ⟨_, Tryd.func36, by kernel_rfl⟩ rfl (fun W hb => mulP hz1 W (hpg.ext hb)), wanted_none rfl⟩, ⟨does_fieldAddr rfl rfl (fa_pt _ · |>.1), wanted_none rfl⟩, ⟨does_loadAt (v := .agg (ev zt.a)) rfl rfl (k := 0) rfl (ld_pt (k := 0) (by omega)), wanted_none rfl⟩, ⟨does_fieldAddr rfl rfl (fa_pt _ · |>.2.2.1), wanted_none rfl⟩, ⟨does_loadAt (v := .agg (ev zs.c)) rfl rfl (k := 0) rfl (ld_pt (k := 2) (by omega)), wanted_none rfl⟩, ⟨does_call rfl ⟨_, Tryd.func36, by kernel_rfl⟩ rfl (fun W hb => mulP hz2 W (hpg.ext hb)), wanted_none rfl⟩, ⟨does_call rfl ⟨_, Tryd.func63, by kernel_rfl⟩ rfl (fun W hb => equalB (decide_eq_true h1) W), wanted_none rfl⟩, ⟨does_move rfl rfl, wanted_none rfl⟩, ⟨does_fieldAddr rfl rfl (fa_pt _ · |>.2.1), wanted_some rfl rfl rfl rfl rfl⟩, ⟨does_loadAt (v := .agg (ev zs.b)) rfl rfl (k := 0) rfl (ld_pt (k := 1) (by omega)), wanted_some rfl rfl rfl rfl rfl⟩, ⟨does_fieldAddr rfl rfl (fa_pt _ · |>.2.2.1), wanted_some rfl rfl rfl rfl rfl⟩, ⟨does_loadAt (v := .agg (ev zt.c)) rfl rfl (k := 0) rfl (ld_pt (k := 2) (by omega)), wanted_some rfl rfl rfl rfl rfl⟩, ⟨does_call rfl ⟨_, Tryd.func36, by kernel_rfl⟩ rfl (fun W hb => mulP hz3 W (hpg.ext hb)), wanted_some rfl rfl rfl rfl rfl⟩, ⟨does_fieldAddr rfl rfl (fa_pt _ · |>.2.1), wanted_some rfl rfl rfl rfl rfl⟩, ⟨does_loadAt (v := .agg (ev zt.b)) rfl rfl (k := 0) rfl (ld_pt (k := 1) (by omega)), wanted_some rfl rfl rfl rfl rfl⟩, ⟨does_fieldAddr rfl rfl (fa_pt _ · |>.2.2.1), wanted_some rfl rfl rfl rfl rfl⟩, ⟨does_loadAt (v := .agg (ev zs.c)) rfl rfl (k := 0) rfl (ld_pt (k := 2) (by omega)), wanted_some rfl rfl rfl rfl rfl⟩, ⟨does_call rfl ⟨_, Tryd.func36, by kernel_rfl⟩ rfl (fun W hb => mulP hz4 W (hpg.ext hb)), wanted_some rfl rfl rfl rfl rfl⟩, ⟨does_call rfl ⟨_, Tryd.func63, by kernel_rfl⟩ rfl (fun W hb => equalB h2 W), wanted_some rfl rfl rfl rfl rfl⟩, ⟨does_pick rfl rfl (fun _ => rfl) (fun hb => by cases hb), wanted_none rfl⟩, ⟨does_assign rfl rfl, wanted_none rfl⟩, trivial⟩ ?_
  clear H a W
  intro G4 a W H
  replace H : St 33 w a W [(9, .pointer (some ⟨g1, 4 * 0, none⟩)), (10, .agg (ev zs.a)), (11, .pointer (some ⟨g2, 4 * 2, none⟩)), (12, .agg (ev zt.c)), (13, .agg (ev z1)), (14, .pointer (some ⟨g2, 4 * 0, none⟩)), (15, .agg (ev zt.a)), (16, .pointer (some ⟨g1, 4 * 2, none⟩)), (17, .agg (ev zs.c)), (18, .agg (ev z2)), (19, .bool true), (20, .bool true), (21, .pointer (some ⟨g1, 4 * 1, none⟩)), (22, .agg (ev zs.b)), (23, .pointer (some ⟨g2, 4 * 2, none⟩)), (24, .agg (ev zt.c)), (25, .agg (ev z3)), (26, .pointer (some ⟨g2, 4 * 1, none⟩)), (27, .agg (ev zt.b)), (28, .pointer (some ⟨g1, 4 * 2, none⟩)), (29, .agg (ev zs.c)), (30, .agg (ev z4)), (31, .bool b), (32, .bool b), (4, .bool b), (3, .pointer (some ⟨g2, 0, none⟩)), (2, .pointer (some ⟨g1, 0, none⟩))] [(g2, 29, sv zt), (g1, 29, sv zs)] := H
  replace H : St 33 w a W [(4, .bool b)] [] := H.pick [24] [] rfl
  refine hK3 _ _ ?_
  clear hK3
  refine wp_ret ?_
  repeat (first | (with_reducible refine then_ret ?_) | (with_reducible refine blk_ret ?_))
  refine end_tmp (p := 4) rfl rfl H (fun hb => ?_)
  exact ⟨rfl, hb⟩
theorem equal_pt {P Q : Pt} {s t : L4 PP} (hs : RepS P s) (ht : RepS Q t) {b : Bool} (h : decide (P = Q) = b) (w : World) (hpg : PG w) : Calls Tryd.prog 25 #[.agg (sv s), .agg (sv t)] w (fun rr w' => rr = .returned (.bool b) ∧ Below w.heap.size w w') := by
  have he := RepS.same hs ht
  subst h
  by_cases h1 : (ptSet s).a * (ptSet t).c = (ptSet t).a * (ptSet s).c
  · refine equal_one h1 ?_ w hpg
    rw [Bool.eq_iff_iff]
    simp only [decide_eq_true_eq]
    rw [← he]
    exact ⟨fun h => ⟨h1, h⟩, fun h => h.2⟩
  · rw [decide_eq_false (fun e => h1 (he.2 e).1)]
    exact equal_zero h1 w hpg
theorem pbit_any (e i : Nat) (w : World) (hi : i < 256) :
    Calls Tryd.prog 64 #[.agg (ks e), .int .i64 (i : Int)] w fun r w' => r = .returned (.bool (bitB e i)) ∧ Below w.heap.size w w' := by
  have hc : (w.alloc (.cells (ks e) 23)).cell? ⟨w.heap.size, i / 8, none⟩ = some (.int .u8 ((e / 256 ^ (i / 8) % 256 : Nat) : Int)) := by
    rw [(Blk.new w 23 (ks e)).cell, ks_get _ (by omega)]
  have hx : e / 256 ^ (i / 8) % 256 < 256 := Nat.mod_lt _ (by omega)
  have hb := bit_at e i
  have ha := and_one8 (e / 256 ^ (i / 8) % 256 / 2 ^ (i % 8)) (Nat.lt_of_le_of_lt (Nat.div_le_self _ _) hx)
  rw [hb, Int.natCast_ediv, Int.natCast_pow] at ha
  have HA := Lib.hid ha
  clear hb ha
  generalize e / 256 ^ (i / 8) % 256 = x at *
  have b1 : (0 : Int) ≤ (i : Int) / 8 := by omega
  have b2 : (i : Int) / 8 < 32 := by omega
  have b3 : ((i : Int) % 8) < 65 := by omega
  go_enter Tryd.func64, Tryd.ntmps64
  go_wp2
  go_ret
  refine ⟨?_, (Below.refl _ _).alloc (Nat.le_refl _) _⟩
  show Ending.returned (.bool (bits .and .u8 ((x : Int) / 2 ^ (i % 8)) 1 == 1)) = _
  have := HA.out
  rw [show ((2 : Nat) : Int) = 2 from rfl] at this
  rw [this]
  rfl
theorem pbitB {n i : Nat} {b : Bool} (h : lbit n i = b) (w : World) (hi : i < 256) : Calls Tryd.prog 64 #[.agg (ks n), .int .i64 (i : Int)] w fun r w' => r = .returned (.bool b) ∧ Below w.heap.size w w' := by
  subst h
  exact pbit_any n i w hi
section
attribute [local semireducible] ev sv ptMul
theorem pt_zeros (n : Nat) (s : L4 PP) : #[.int .u64 0, .int .u64 0, .int .u64 0, .int .u64 0, .int .u64 0, .int .u64 0, .int .u64 0, .int .u64 0, .int .u64 0, .int .u64 0, .int .u64 0, .int .u64 0, .int .u64 0, .int .u64 0, .int .u64 0, .int .u64 0] = sv (ptMul s n 0) := by kernel_rfl
theorem ptMul_yes {n k : Nat} {s : L4 PP} (h : lbit n (255 - k) = true) : ptMul s n (k + 1) = ptAdd (ptAdd (ptMul s n k) (ptMul s n k)) s := by
  show (if lbit n (255 - k) = true then _ else _) = _
  rw [if_pos h]
theorem ptMul_no {n k : Nat} {s : L4 PP} (h : lbit n (255 - k) = false) : ptMul s n (k + 1) = ptAdd (ptMul s n k) (ptMul s n k) := by
  show (if lbit n (255 - k) = true then _ else _) = _
  rw [if_neg (by rw [h]; decide)]
end
set_option maxHeartbeats 4000000 in
theorem mul_pt {s r : L4 PP} {n : Nat} (h : r = ptMul s n 256) (w : World) (hpg : PG w) : Calls Tryd.prog 27 #[.agg (sv s), .agg (ks n)] w (fun rr w' => rr = .returned (.agg (sv r)) ∧ Below w.heap.size w w') := by
  refine calls_st (vs := [.agg (sv s), .agg (ks n)]) 22 Tryd.func27 rfl Tryd.ntmps27 rfl (fun a W H => ?_)
  replace H : St 22 w a W [(0, .agg (sv s)), (1, .agg (ks n))] [] := H
  refine wp_seq_k (fun K1 hK1 => ?_)
  refine rg_plain ?_
  refine pl_box rfl rfl (bx_pt s) rfl rfl rfl rfl H ?_
  clear H a W
  intro g1 a W H
  refine pl_box rfl rfl (bx_key n) rfl rfl rfl rfl H ?_
  clear H a W
  intro g2 a W H
  refine pl_new (news_of rfl al_pt) rfl rfl rfl rfl H ?_
  clear H a W
  intro g3 a W H
  refine pl_end ?_
  replace H : St 22 w a W [(4, .pointer (some ⟨g3, 0, none⟩)), (3, .pointer (some ⟨g2, 0, none⟩)), (2, .pointer (some ⟨g1, 0, none⟩))] [(g3, 29, #[.int .u64 0, .int .u64 0, .int .u64 0, .int .u64 0, .int .u64 0, .int .u64 0, .int .u64 0, .int .u64 0, .int .u64 0, .int .u64 0, .int .u64 0, .int .u64 0, .int .u64 0, .int .u64 0, .int .u64 0, .int .u64 0]), (g2, 23, ks n), (g1, 29, sv s)] := H.pick [0, 1, 2] [0, 1, 2] rfl
  refine hK1 _ _ ?_
  clear hK1
  refine wp_seq_k (fun K2 hK2 => ?_)
  refine rg_plain ?_
  refine pl_new (news_of rfl al_pt) rfl rfl rfl rfl H ?_
  clear H a W
  intro g4 a W H
  refine pl_end ?_
  refine hK2 _ _ ?_
  clear hK2
  refine wp_seq_k (fun K3 hK3 => ?_)
  refine wp_seq_k (fun K4 hK4 => ?_)
  refine rg_plain ?_
  refine pl_does (does_move rfl rfl) rfl rfl rfl rfl H ?_
  clear H a W
  intro a W H
  refine pl_end ?_
  refine hK4 _ _ ?_
  clear hK4
  refine wp_block ?_
  replace H : St 22 w a W [(7, .int .i64 ((0 : Nat) : Int)), (5, .pointer (some ⟨g4, 0, none⟩)), (4, .pointer (some ⟨g3, 0, none⟩)), (3, .pointer (some ⟨g2, 0, none⟩)), (2, .pointer (some ⟨g1, 0, none⟩))] [(g4, 29, #[.int .u64 0, .int .u64 0, .int .u64 0, .int .u64 0, .int .u64 0, .int .u64 0, .int .u64 0, .int .u64 0, .int .u64 0, .int .u64 0, .int .u64 0, .int .u64 0, .int .u64 0, .int .u64 0, .int .u64 0, .int .u64 0]), (g3, 29, #[.int .u64 0, .int .u64 0, .int .u64 0, .int .u64 0, .int .u64 0, .int .u64 0, .int .u64 0, .int .u64 0, .int .u64 0, .int .u64 0, .int .u64 0, .int .u64 0, .int .u64 0, .int .u64 0, .int .u64 0, .int .u64 0]), (g2, 23, ks n), (g1, 29, sv s)] := H.pick [0, 1, 2, 3, 4] [0, 1, 2, 3] rfl
  rw [pt_zeros n s] at H
  refine wp_rounds 256 (fun k a W => St 22 w a W [(7, .int .i64 ((k : Nat) : Int)), (5, .pointer (some ⟨g4, 0, none⟩)), (4, .pointer (some ⟨g3, 0, none⟩)), (3, .pointer (some ⟨g2, 0, none⟩)), (2, .pointer (some ⟨g1, 0, none⟩))] [(g4, 29, sv (ptMul s n (k))), (g3, 29, sv (ptMul s n 0)), (g2, 23, ks n), (g1, 29, sv s)]) (k0 := 0) H (by omega) ?_
  clear H a W
  intro k a W hk H
  by_cases hk2 : k < 256
  · rcases Bool.eq_false_or_eq_true (lbit n (255 - k)) with hbit | hbit
    · have hn : ptMul s n (k + 1) = ptAdd (ptAdd (ptMul s n k) (ptMul s n k)) s := ptMul_yes hbit
      refine wp_seq_k (fun K5 hK5 => ?_)
      refine rg_plain ?_
      refine pl_does (does_binOp rfl rfl rfl (i_lss_yes (m := 256) hk2 _ _)) rfl rfl rfl rfl H ?_
      clear H a W
      intro a W H
      refine pl_end ?_
      refine hK5 _ _ ?_
      clear hK5
      refine wp_seq_k (fun K6 hK6 => ?_)
      refine wp_cond_true (H.ev rfl) ?_
      refine wp_skip ?_
      refine hK6 _ _ ?_
      clear hK6
      refine wp_seq_k (fun K7 hK7 => ?_)
      refine wp_block ?_
      refine wp_seq_k (fun K8 hK8 => ?_)
      refine rg_plain ?_
      refine pl_does (does_move rfl rfl) rfl rfl rfl rfl H ?_
      clear H a W
      intro a W H
      refine pl_does (does_assign rfl rfl) rfl rfl rfl rfl H ?_
      clear H a W
      intro a W H
      refine pl_end ?_
      refine hK8 _ _ ?_
      clear hK8
      refine wp_seq_k (fun K9 hK9 => ?_)
      refine rg_plain ?_
      refine pl_does (does_load rfl rfl (k := 0) rfl Tryd.underlying29 rfl (info_pt _)) rfl rfl rfl rfl H ?_
      clear H a W
      intro a W H
      refine pl_does (does_load rfl rfl (k := 0) rfl Tryd.underlying29 rfl (info_pt _)) rfl rfl rfl rfl H ?_
      clear H a W
      intro a W H
      refine pl_does (does_call rfl ⟨_, Tryd.func20, by kernel_rfl⟩ rfl (fun W hb => add_pt rfl W (hpg.ext hb))) rfl rfl rfl rfl H ?_
      clear H a W
      intro a W H
      refine pl_store rfl rfl rfl (k := 0) rfl (info_pt _) (by simp only [sv_size, ev_size, ks_size, fx_size] <;> rfl) (sv_one _) rfl rfl H ?_
      clear H a W
      intro a W H
      refine pl_end ?_
      refine hK9 _ _ ?_
      clear hK9
      refine wp_seq_k (fun K10 hK10 => ?_)
      refine rg_plain ?_
      refine pl_does (does_load rfl rfl (k := 2) rfl Tryd.underlying23 rfl (info_ks _)) rfl rfl rfl rfl H ?_
      clear H a W
      intro a W H
      refine pl_does (does_move rfl rfl) rfl rfl rfl rfl H ?_
      clear H a W
      intro a W H
      refine pl_does (does_binOp rfl rfl rfl (i_from (m := 255) (by omega) (by omega) _ _)) rfl rfl rfl rfl H ?_
      clear H a W
      intro a W H
      refine pl_does (does_call rfl ⟨_, Tryd.func64, by kernel_rfl⟩ rfl (fun W hb => pbitB hbit W (by omega))) rfl rfl rfl rfl H ?_
      clear H a W
      intro a W H
      refine pl_end ?_
      refine hK10 _ _ ?_
      clear hK10
      refine wp_cond_true (H.ev rfl) ?_
      refine rg_plain ?_
      refine pl_does (does_load rfl rfl (k := 0) rfl Tryd.underlying29 rfl (info_pt _)) rfl rfl rfl rfl H ?_
      clear H a W
      intro a W H
      refine pl_does (does_load rfl rfl (k := 3) rfl Tryd.underlying29 rfl (info_pt _)) rfl rfl rfl rfl H ?_
      clear H a W
      intro a W H
      refine pl_does (does_call rfl ⟨_, Tryd.func20, by kernel_rfl⟩ rfl (fun W hb => add_pt rfl W (hpg.ext hb))) rfl rfl rfl rfl H ?_
      clear H a W
      intro a W H
      refine pl_store rfl rfl rfl (k := 0) rfl (info_pt _) (by simp only [sv_size, ev_size, ks_size, fx_size] <;> rfl) (sv_one _) rfl rfl H ?_
      clear H a W
      intro a W H
      refine pl_end ?_
      refine blk_normal ?_
      refine hK7 _ _ ?_
      clear hK7
      refine rg_plain ?_
      refine pl_does (does_binOp rfl rfl rfl (i_inc (by omega) _ _)) rfl rfl rfl rfl H ?_
      clear H a W
      intro a W H
      replace H : St 22 w a W [(20, .int .i64 ((k + 1 : Nat) : Int)), (19, .agg (sv (ptAdd ((ptAdd ((ptMul s n (k))) ((ptMul s n (k))))) s))), (18, .agg (sv s)), (17, .agg (sv (ptAdd ((ptMul s n (k))) ((ptMul s n (k)))))), (16, .bool true), (15, .int .i64 ((255 - k : Nat) : Int)), (14, .int .i64 ((k : Nat) : Int)), (13, .agg (ks n)), (12, .agg (sv (ptAdd ((ptMul s n (k))) ((ptMul s n (k)))))), (11, .agg (sv (ptMul s n (k)))), (10, .agg (sv (ptMul s n (k)))), (6, .int .i64 ((k : Nat) : Int)), (9, .int .i64 ((k : Nat) : Int)), (8, .bool true), (5, .pointer (some ⟨g4, 0, none⟩)), (4, .pointer (some ⟨g3, 0, none⟩)), (3, .pointer (some ⟨g2, 0, none⟩)), (2, .pointer (some ⟨g1, 0, none⟩))] [(g4, 29, sv (ptAdd ((ptAdd ((ptMul s n (k))) ((ptMul s n (k))))) s)), (g3, 29, sv (ptMul s n 0)), (g2, 23, ks n), (g1, 29, sv s)] := H.pick [0, 1, 2, 3, 4, 5, 6, 7, 8, 9, 10, 11, 12, 13, 15, 16, 17, 18] [0, 1, 2, 3] rfl
      refine pl_does (does_move rfl rfl) rfl rfl rfl rfl H ?_
      clear H a W
      intro a W H
      refine pl_end ?_
      refine ⟨k + 1, by omega, by omega, ?_⟩
      show St 22 w a W [(7, .int .i64 ((k + 1 : Nat) : Int)), (5, .pointer (some ⟨g4, 0, none⟩)), (4, .pointer (some ⟨g3, 0, none⟩)), (3, .pointer (some ⟨g2, 0, none⟩)), (2, .pointer (some ⟨g1, 0, none⟩))] [(g4, 29, sv (ptMul s n (k + 1))), (g3, 29, sv (ptMul s n 0)), (g2, 23, ks n), (g1, 29, sv s)]
      rw [hn]
      exact H.pick [0, 15, 16, 17, 18] [0, 1, 2, 3] rfl
    · have hn : ptMul s n (k + 1) = ptAdd (ptMul s n k) (ptMul s n k) := ptMul_no hbit
      refine wp_seq_k (fun K11 hK11 => ?_)
      refine rg_plain ?_
      refine pl_does (does_binOp rfl rfl rfl (i_lss_yes (m := 256) hk2 _ _)) rfl rfl rfl rfl H ?_
      clear H a W
      intro a W H
      refine pl_end ?_
      refine hK11 _ _ ?_
      clear hK11
      refine wp_seq_k (fun K12 hK12 => ?_)
      refine wp_cond_true (H.ev rfl) ?_
      refine wp_skip ?_
      refine hK12 _ _ ?_
      clear hK12
      refine wp_seq_k (fun K13 hK13 => ?_)
      refine wp_block ?_
      refine wp_seq_k (fun K14 hK14 => ?_)
      refine rg_plain ?_
      refine pl_does (does_move rfl rfl) rfl rfl rfl rfl H ?_
      clear H a W
      intro a W H
      refine pl_does (does_assign rfl rfl) rfl rfl rfl rfl H ?_
      clear H a W
      intro a W H
      refine pl_end ?_
      refine hK14 _ _ ?_
      clear hK14
      refine wp_seq_k (fun K15 hK15 => ?_)
      refine rg_plain ?_
      refine pl_does (does_load rfl rfl (k := 0) rfl Tryd.underlying29 rfl (info_pt _)) rfl rfl rfl rfl H ?_
      clear H a W
      intro a W H
      refine pl_does (does_load rfl rfl (k := 0) rfl Tryd.underlying29 rfl (info_pt _)) rfl rfl rfl rfl H ?_
      clear H a W
      intro a W H
      refine pl_does (does_call rfl ⟨_, Tryd.func20, by kernel_rfl⟩ rfl (fun W hb => add_pt rfl W (hpg.ext hb))) rfl rfl rfl rfl H ?_
      clear H a W
      intro a W H
      refine pl_store rfl rfl rfl (k := 0) rfl (info_pt _) (by simp only [sv_size, ev_size, ks_size, fx_size] <;> rfl) (sv_one _) rfl rfl H ?_
      clear H a W
      intro a W H
      refine pl_end ?_
      refine hK15 _ _ ?_
      clear hK15
      refine wp_seq_k (fun K16 hK16 => ?_)
      refine rg_plain ?_
      refine pl_does (does_load rfl rfl (k := 2) rfl Tryd.underlying23 rfl (info_ks _)) rfl rfl rfl rfl H ?_
      clear H a W
      intro a W H
      refine pl_does (does_move rfl rfl) rfl rfl rfl rfl H ?_
      clear H a W
      intro a W H
      refine pl_does (does_binOp rfl rfl rfl (i_from (m := 255) (by omega) (by omega) _ _)) rfl rfl rfl rfl H ?_
      clear H a W
      intro a W H
      refine pl_does (does_call rfl ⟨_, Tryd.func64, by kernel_rfl⟩ rfl (fun W hb => pbitB hbit W (by omega))) rfl rfl rfl rfl H ?_
      clear H a W
      intro a W H
      refine pl_end ?_
      refine hK16 _ _ ?_
      clear hK16
      refine wp_cond_false (H.ev rfl) ?_
      refine wp_skip ?_
      refine blk_normal ?_
      refine hK13 _ _ ?_
      clear hK13
      refine rg_plain ?_
      refine pl_does (does_binOp rfl rfl rfl (i_inc (by omega) _ _)) rfl rfl rfl rfl H ?_
      clear H a W
      intro a W H
      replace H : St 22 w a W [(20, .int .i64 ((k + 1 : Nat) : Int)), (16, .bool false), (15, .int .i64 ((255 - k : Nat) : Int)), (14, .int .i64 ((k : Nat) : Int)), (13, .agg (ks n)), (12, .agg (sv (ptAdd ((ptMul s n (k))) ((ptMul s n (k)))))), (11, .agg (sv (ptMul s n (k)))), (10, .agg (sv (ptMul s n (k)))), (6, .int .i64 ((k : Nat) : Int)), (9, .int .i64 ((k : Nat) : Int)), (8, .bool true), (5, .pointer (some ⟨g4, 0, none⟩)), (4, .pointer (some ⟨g3, 0, none⟩)), (3, .pointer (some ⟨g2, 0, none⟩)), (2, .pointer (some ⟨g1, 0, none⟩))] [(g4, 29, sv (ptAdd ((ptMul s n (k))) ((ptMul s n (k))))), (g3, 29, sv (ptMul s n 0)), (g2, 23, ks n), (g1, 29, sv s)] := H.pick [0, 1, 2, 3, 4, 5, 6, 7, 8, 9, 10, 12, 13, 14, 15] [0, 1, 2, 3] rfl
      refine pl_does (does_move rfl rfl) rfl rfl rfl rfl H ?_
      clear H a W
      intro a W H
      refine pl_end ?_
      refine ⟨k + 1, by omega, by omega, ?_⟩
      show St 22 w a W [(7, .int .i64 ((k + 1 : Nat) : Int)), (5, .pointer (some ⟨g4, 0, none⟩)), (4, .pointer (some ⟨g3, 0, none⟩)), (3, .pointer (some ⟨g2, 0, none⟩)), (2, .pointer (some ⟨g1, 0, none⟩))] [(g4, 29, sv (ptMul s n (k + 1))), (g3, 29, sv (ptMul s n 0)), (g2, 23, ks n), (g1, 29, sv s)]
      rw [hn]
      exact H.pick [0, 12, 13, 14, 15] [0, 1, 2, 3] rfl
  · obtain rfl : k = 256 := by omega
    refine wp_seq_k (fun K17 hK17 => ?_)
    refine rg_plain ?_
    refine pl_does (does_binOp rfl rfl rfl (i_lss_no (m := 256) (by omega) _ _)) rfl rfl rfl rfl H ?_
    clear H a W
    intro a W H
    refine pl_end ?_
    refine hK17 _ _ ?_
    clear hK17
    refine wp_seq_k (fun K18 hK18 => ?_)
    refine wp_cond_false (H.ev rfl) ?_
    refine wp_exit ?_
    repeat (with_reducible refine then_exit ?_)
    refine blk_exit ?_
    refine hK3 _ _ ?_
    clear hK3
    refine wp_seq_k (fun K19 hK19 => ?_)
    refine rg_plain ?_
    refine pl_does (does_load rfl rfl (k := 0) rfl Tryd.underlying29 rfl (info_pt _)) rfl rfl rfl rfl H ?_
    clear H a W
    intro a W H
    refine pl_store rfl rfl rfl (k := 1) rfl (info_pt _) (by simp only [sv_size, ev_size, ks_size, fx_size] <;> rfl) (sv_one _) rfl rfl H ?_
    clear H a W
    intro a W H
    refine pl_end ?_
    replace H : St 22 w a W [(4, .pointer (some ⟨g3, 0, none⟩))] [(g3, 29, sv (ptMul s n (256)))] := H.pick [4] [1] rfl
    refine hK19 _ _ ?_
    clear hK19
    refine wp_ret ?_
    repeat (first | (with_reducible refine then_ret ?_) | (with_reducible refine blk_ret ?_))
    refine end_cell (p := 4) rfl rfl (k := 0) rfl Tryd.underlying29 rfl (info_pt _) H (fun hb => ?_)
    exact ⟨by rw [h], hb⟩
set_option maxHeartbeats 4000000 in
theorem base_pt {r : L4 PP} {n : Nat} (h : r = ptMul BE n 256) (w : World) (hpg : PG w) : Calls Tryd.prog 29 #[.agg (ks n)] w (fun rr w' => rr = .returned (.agg (sv r)) ∧ Below w.heap.size w w') := by
  refine calls_st (vs := [.agg (ks n)]) 6 Tryd.func29 rfl Tryd.ntmps29 rfl (fun a W H => ?_)
  replace H : St 6 w a W [(0, .agg (ks n))] [] := H
  refine wp_seq_k (fun K1 hK1 => ?_)
  refine rg_plain ?_
  refine pl_box rfl rfl (bx_key n) rfl rfl rfl rfl H ?_
  clear H a W
  intro g1 a W H
  refine pl_new (news_of rfl al_pt) rfl rfl rfl rfl H ?_
  clear H a W
  intro g2 a W H
  refine pl_end ?_
  replace H : St 6 w a W [(2, .pointer (some ⟨g2, 0, none⟩)), (1, .pointer (some ⟨g1, 0, none⟩))] [(g2, 29, #[.int .u64 0, .int .u64 0, .int .u64 0, .int .u64 0, .int .u64 0, .int .u64 0, .int .u64 0, .int .u64 0, .int .u64 0, .int .u64 0, .int .u64 0, .int .u64 0, .int .u64 0, .int .u64 0, .int .u64 0, .int .u64 0]), (g1, 23, ks n)] := H.pick [0, 1] [0, 1] rfl
  refine hK1 _ _ ?_
  clear hK1
  refine wp_seq_k (fun K2 hK2 => ?_)
  refine drawnS [.val 3 (.agg (sv BE)) [] [], .val 4 (.agg (ks n)) [] [1], .val 5 (.agg (sv r)) [0, 1] [], .sto 0 g2 29 (#[.int .u64 0, .int .u64 0, .int .u64 0, .int .u64 0, .int .u64 0, .int .u64 0, .int .u64 0, .int .u64 0, .int .u64 0, .int .u64 0, .int .u64 0, .int .u64 0, .int .u64 0, .int .u64 0, .int .u64 0, .int .u64 0]) (sv r) [2]] [0, 0, 3, 7] (by kernel_rfl) (by kernel_rfl) (by kernel_rfl) H ⟨⟨does_call rfl ⟨_, Tryd.func65, by kernel_rfl⟩ rfl (fun W hb => writtenBase_any W (hpg.ext hb)), wanted_none rfl⟩, ⟨does_load rfl rfl (k := 0) rfl Tryd.underlying23 rfl (info_ks _), wanted_none rfl⟩, ⟨does_call rfl ⟨_, Tryd.func27, by kernel_rfl⟩ rfl (fun W hb => mul_pt h W (hpg.ext hb)), wanted_none rfl⟩, ⟨rfl, rfl, sto_row rfl rfl rfl (info_pt _) (by simp only [sv_size, ev_size, ks_size, fx_size] <;> rfl) (sv_one _)⟩, trivial⟩ ?_
  clear H a W
  intro G3 a W H
  replace H : St 6 w a W [(3, .agg (sv BE)), (4, .agg (ks n)), (5, .agg (sv r)), (2, .pointer (some ⟨g2, 0, none⟩)), (1, .pointer (some ⟨g1, 0, none⟩))] [(g2, 29, sv r), (g1, 23, ks n)] := H
  replace H : St 6 w a W [(2, .pointer (some ⟨g2, 0, none⟩))] [(g2, 29, sv r)] := H.pick [3] [0] rfl
  refine hK2 _ _ ?_
  clear hK2
  refine wp_ret ?_
  repeat (first | (with_reducible refine then_ret ?_) | (with_reducible refine blk_ret ?_))
  refine end_cell (p := 2) rfl rfl (k := 0) rfl Tryd.underlying29 rfl (info_pt _) H (fun hb => ?_)
  exact ⟨rfl, hb⟩
end Go.Proofs.YtcijaoihcckofaaDoor
namespace Go.Proofs.YtcijaoihcckofaaDoor
set_option linter.unusedVariables false
set_option linter.unusedSimpArgs false
set_option maxRecDepth 100000
open Go Go.RowKit
section
variable {p : Nat} [NeZero p] {e : Nat} {i u v : Fin p}
end
attribute [local irreducible] dv ds EE II
end Go.Proofs.YtcijaoihcckofaaDoor
namespace Go.Proofs.YtcijaoihcckofaaDoor
set_option linter.unusedVariables false
set_option linter.unusedSimpArgs false
set_option maxRecDepth 100000
open Go Go.RowKit
section
variable {P : Program} {W : World} {g o : Nat} {t ty : TypeId} {cs pre mid post new : Array Value} {d : TypeDesc}
end
/-- A point's cells. -/
def tv (r : Pj3) : Array Value := dv r.X ++ dv r.Y ++ dv r.Z
theorem tv_size (r : Pj3) : (tv r).size = 48 := by unfold tv; rw [Array.size_append, Array.size_append, dv_size, dv_size, dv_size]
/-- A curve's cells. -/
def cv (d : Fin PP) (r : Pj3) : Array Value := dv d ++ tv r
theorem cv_size (d : Fin PP) (r : Pj3) : (cv d r).size = 64 := by unfold cv; rw [Array.size_append, dv_size, tv_size]
attribute [local irreducible] dv tv cv
theorem al_key0 (W : World) : (Instr.alloc 23 true (.tuple #[])).run Tryd.prog W = .ok (.pointer (some ⟨W.heap.size, 0, none⟩)) (W.alloc (.cells (ks 0) 23)) := by kernel_rfl
theorem bx_keyr (n : Nat) (W : World) : (Instr.box 23 (.agg (ks n))).run Tryd.prog W = .ok (.pointer (some ⟨W.heap.size, 0, none⟩)) (W.alloc (.cells (ks n) 23)) := by kernel_rfl
section
variable {P : Program} {t : TypeId}
end
theorem ia_keyn {j : Nat} (hj : j < 32) {g : Nat} (W : World) : (Instr.indexAt 23 (.pointer (some ⟨g, 0, none⟩)) (.int .i64 (j : Int))).run Tryd.prog W = .ok (.pointer (some ⟨g, j, none⟩)) W := by
  have h1 : (0 : Int) ≤ (j : Int) := by omega
  have h2 : (j : Int) < 32 := by omega
  go_simp
theorem ld_keyn {n j x : Nat} (hj : j < 32) (hx : n / 256 ^ j % 256 = x) {g : Nat} (W : World) (h : Blk W g 23 (ks n)) : (Instr.loadAt 5 (.pointer (some ⟨g, j, none⟩))).run Tryd.prog W = .ok (.int .u8 (x : Int)) W := by
  have hc := h.cell j
  rw [ks_get n hj, hx] at hc
  go_simp
end Go.Proofs.YtcijaoihcckofaaDoor
namespace Go.Proofs.YtcijaoihcckofaaDoor
set_option linter.unusedVariables false
set_option linter.unusedSimpArgs false
/-- L. -/
def LL : Nat := 7237005577332262213973186563042994240857116359379907606001950938285454250989
theorem LL_eq : LL = 7237005577332262213973186563042994240857116359379907606001950938285454250989 := rfl
theorem LL_lt : LL < 115792089237316195423570985008687907853269984665640564039457584007913129639936 := by rw [LL_eq]; omega
theorem prod_lt {a b c : Nat} (ha : a < 115792089237316195423570985008687907853269984665640564039457584007913129639936) (hb : b < 115792089237316195423570985008687907853269984665640564039457584007913129639936) (hc : c < 115792089237316195423570985008687907853269984665640564039457584007913129639936) : a * b + c < 18446744073709551616 ^ 8 := by
  have h1 : a * b ≤ 115792089237316195423570985008687907853269984665640564039457584007913129639935 * 115792089237316195423570985008687907853269984665640564039457584007913129639935 := Nat.mul_le_mul (by omega) (by omega)
  have e : (18446744073709551616 : Nat) ^ 8 = 13407807929942597099574024998205846127479365820592393377723561443721764030073546976801874298166903427690031858186486050853753882811946569946433649006084096 := by decide
  rw [e]
  omega
theorem b512 : (256 : Nat) ^ 64 = 18446744073709551616 ^ 8 := by
  have e : (18446744073709551616 : Nat) = 256 ^ 8 := by decide
  rw [e, ← Nat.pow_mul]
end Go.Proofs.YtcijaoihcckofaaDoor
namespace Go.Proofs.YtcijaoihcckofaaDoor
set_option linter.unusedVariables false
set_option linter.unusedSimpArgs false
open Go.RowKit
/-- The decimals of the text. -/
def NT : Nat := 27742317777372353535851937790883648493
def TXT : ByteArray := { data := #[50, 55, 55, 52, 50, 51, 49, 55, 55, 55, 55, 51, 55, 50, 51, 53, 51, 53, 51, 53, 56, 53, 49, 57, 51, 55, 55, 57, 48, 56, 56, 51, 54, 52, 56, 52, 57, 51] }
theorem TXT_size : TXT.size = 38 := rfl
def dgt (j : Nat) : Nat := NT / 10 ^ (37 - j) % 10
theorem dgt_lt (j : Nat) : dgt j < 10 := Nat.mod_lt _ (by omega)
theorem txt_at : ∀ j : Fin 38, TXT.data[j.val]?.map (·.toNat) = some (48 + dgt j.val) := by decide +kernel
theorem txt_index (j : Nat) (hj : j < 38) (W : World) : (Instr.index 9 (.string TXT) (.int .i64 (j : Int))).run Tryd.prog W = .ok (.int .u8 ((48 + dgt j : Nat) : Int)) W := by
  have h := txt_at ⟨j, hj⟩
  have hs : TXT.data.size = 38 := TXT_size
  rw [run_index_string (P := Tryd.prog) W 9 TXT .i64 (j : Int) Tryd.underlying9, dif_pos (by rw [TXT_size]; omega)]
  simp only [Array.getElem?_eq_getElem (show j < TXT.data.size by omega), Option.map_some, Option.some.injEq] at h
  congr 3
def pre (j : Nat) : Nat := NT / 10 ^ (38 - j)
theorem pre_step {j : Nat} (hj : j < 38) : pre (j + 1) = 10 * pre j + dgt j := by
  unfold pre dgt
  have h1 : 38 - (j + 1) = 37 - j := by omega
  have h2 : 38 - j = 37 - j + 1 := by omega
  rw [h1, h2, Nat.pow_succ, ← Nat.div_div_eq_div_mul]
  omega
theorem pre_le (j : Nat) : pre j ≤ NT := Nat.div_le_self _ _
theorem pre_end : pre 38 = NT := by decide
theorem pre_start : pre 0 = 0 := by decide
theorem order_put : (ds NT).setIfInBounds 15 (.int .u64 4096) = ds LL := by kernel_rfl
theorem order_top : (ds NT)[15]? = some (.int .u64 0) := by kernel_rfl
set_option maxRecDepth 100000 in
set_option maxHeartbeats 2000000 in
theorem rorder_any (w : World) : Calls Tryd.prog 30 #[] w (NumPost LL w) := by
  have hfr := ((Fr.start w).any (ds 0) 33 16 (ds_size 0) (g := w.heap.size) rfl).row (ds 0) 33 (g := w.heap.size + 1) (by simp)
  rw [ds_zero] at hfr
  have HFR := Lib.hid hfr
  clear hfr
  go_enter Tryd.func30, Tryd.ntmps30
  go_wp2_with (fail)
  obtain ⟨TX, hTX⟩ : ∃ TX, TX = TXT := ⟨_, rfl⟩
  have hix := txt_index
  have hsz := TXT_size
  rw [← hTX] at hix hsz
  have hT : ({ data := #[50, 55, 55, 52, 50, 51, 49, 55, 55, 55, 55, 51, 55, 50, 51, 53, 51, 53, 51, 53, 56, 53, 49, 57, 51, 55, 55, 57, 48, 56, 56, 51, 54, 52, 56, 52, 57, 51] } : ByteArray) = TX := hTX.symm
  rw [hT]
  have HIX := Lib.hid hix
  clear hix hTX hT
  go_loopw [3] (fun i wr => ∃ j : Nat, j ≤ 38 ∧ i = .int .i64 j ∧ Fr w wr [(w.heap.size + 1, 33, ds (pre j))] [(w.heap.size, 33, 16)]) (fun i _ => 38 - (intOf i).toNat)
  case atStart => exact ⟨0, by omega, rfl, by rw [pre_start, ds_zero]; exact HFR.out⟩
  case round =>
    obtain ⟨j, hj, rfl, hF⟩ := hrel
    clear HFR
    by_cases hlt : j < 38
    · have hx := HIX.out j hlt
      have hd := dgt_lt j
      have hps := pre_step hlt
      have hpl := pre_le (j + 1)
      have HPS := Lib.hid hps
      have HPL := Lib.hid hpl
      have HF := Lib.hid hF
      clear hF hps hpl
      generalize dgt j = d at *
      go_wp2_with (fail)
      have e0 : (48 : Int) + (d : Int) - 48 = (d : Int) := by omega
      rw [e0]
      rw [decide_eq_true (show (j : Int) < 38 by omega)]
      have hst := @scale_start 65536 (pre j) 10 d hd
      have HST0 := Lib.hid hst
      have hN : 10 * pre j + d < 65536 ^ 16 := by rw [← HPS.out, d16]; have := HPL.out; unfold NT at this; omega
      have HN := Lib.hid hN
      clear hst hN
      go_loopw [5, 4] (fun i c' wq => ∃ k v c : Nat, k ≤ 16 ∧ i = .int .i64 k ∧ c' = .int .u64 c ∧ ScaleAt 65536 10 (pre j) d k v c ∧ Fr w wq [(w.heap.size + 1, 33, ds v)] [(w.heap.size, 33, 16)]) (fun i _ _ => 16 - (intOf i).toNat)
      case atStart => exact ⟨0, pre j, d, by omega, rfl, rfl, HST0.out, HF.out⟩
      case round =>
        obtain ⟨k, v, c, hk, rfl, rfl, hS, hF⟩ := hrel
        clear HF HST0
        by_cases hkt : k < 16
        · have hV := hF.get (g := w.heap.size + 1) (t := 33) (cs := ds v) (by simp)
          have cv : wr.cell? ⟨w.heap.size + 1, k, none⟩ = some (.int .u64 ((v / 65536 ^ k % 65536 : Nat) : Int)) := by rw [hV.cell, ds_get _ hkt]
          have hf := hV.frozen k
          have hc := hS.2.2
          have hx : v / 65536 ^ k % 65536 < 65536 := Nat.mod_lt _ (by omega)
          have hst := @scale_step 65536 10 (pre j) d k v c (by omega) (by omega) hS
          have hpt := @ds_put v k ((10 * (v / 65536 ^ k % 65536) + c) % 65536) hkt (Nat.mod_lt _ (by omega))
          have HST := Lib.hid hst
          have HPT := Lib.hid hpt
          have HF := Lib.hid hF
          clear hst hpt hS hF hV
          generalize v / 65536 ^ k % 65536 = x at *
          go_wp2
          go_roundw
          case rel =>
            have e1 : (10 * (x : Int) + c) % 65536 = (((10 * x + c) % 65536 : Nat) : Int) := by omega
            have e2 : (10 * (x : Int) + c) / 65536 = (((10 * x + c) / 65536 : Nat) : Int) := by omega
            rw [e1, e2]
            refine ⟨k + 1, _, _, by omega, by go_num, rfl, HST.out, ?_⟩
            rw [← HPT.out]
            exact HF.out.setHead (by simp <;> omega) (by simp <;> omega) _ _ (by omega)
          case measure => simp [intOf] <;> omega
        · obtain rfl : k = 16 := by omega
          have hp : pre j < 65536 ^ 16 := by rw [d16]; have := pre_le j; unfold NT at this; omega
          obtain rfl := scale_end hS hp (by omega) HN.out
          have HF := Lib.hid hF
          clear hF hS hp
          go_wp2_with (fail)
          go_roundw
          case rel => exact ⟨j + 1, by omega, by go_num, by rw [HPS.out]; exact HF.out⟩
          case measure => simp [intOf] <;> omega
    · obtain rfl : j = 38 := by omega
      rw [pre_end] at hF
      have hV := hF.get (g := w.heap.size + 1) (t := 33) (cs := ds NT) (by simp)
      have cv : wr.cell? ⟨w.heap.size + 1, 15, none⟩ = some (.int .u64 0) := by rw [hV.cell, order_top]
      have hf := hV.frozen 15
      have hF2 := hF.setHead (by simp) (by simp) 15 (.int .u64 4096) (by omega)
      rw [order_put] at hF2
      have kT := hF2.get (g := w.heap.size + 1) (t := 33) (cs := ds LL) (by simp)
      obtain ⟨old, hold, kR⟩ := hF2.old (g := w.heap.size) (t := 33) (n := 16) (by simp)
      have kS := kR.setRow_same (ds LL)
      have hB := below_setRow hF2.below (Nat.le_refl _) (ds LL)
      have hold' : old.size = (ds LL).size := by rw [hold, ds_size]
      have HS := Lib.hid kS
      have HB := Lib.hid hB
      have HO := Lib.hid hold'
      have KT := Lib.hid kT
      have KR := Lib.hid kR
      clear hF hF2 kS hB hold hold' hV kT kR
      go_wp2_with (first | (refine wpList_load_row rfl 33 (.tmp 1) rfl (w.heap.size + 1) rfl 33 (ds LL) (0, 0) _ KT.out Tryd.underlying33 rfl (info_ds LL) ?_) | (refine wpList_store_row rfl 33 (.tmp 0) (.tmp 38) rfl (w.heap.size) (ds LL) rfl rfl 33 old KR.out (info_ds LL) HO.out (ds_one _) ?_))
      exact bodyPost_ret (results_cell_row rfl _ _ (w.heap.size) 33 (ds LL) (0, 0) _ rfl HS.out Tryd.underlying33 rfl (info_ds LL)) rfl ⟨rfl, HB.out⟩
end Go.Proofs.YtcijaoihcckofaaDoor
namespace Go.Proofs.YtcijaoihcckofaaDoor
set_option linter.unusedVariables false
set_option linter.unusedSimpArgs false
set_option maxRecDepth 100000
open Go Go.RowKit
theorem eq_key_same {m n : Nat} (h : m = n) (p q : Operand) (W : World) : (do eqGuard .eql 23 p q (.agg (ks m)) (.agg (ks n)); binOp .eql 23 (.agg (ks m)) (.agg (ks n)) : Sem Value).run Tryd.prog W = .ok (.bool true) W := by
  subst h
  have hq := keys_same m W
  go_simp
theorem bd_key0 (W : World) : (Instr.build 23 ([] : List (Nat × Value)).toArray).run Tryd.prog W = .ok (.agg (ks 0)) W := by kernel_rfl
theorem bd_key1 (W : World) : (Instr.build 23 [(0, .int .u8 1)].toArray).run Tryd.prog W = .ok (.agg (ks 1)) W := by kernel_rfl
theorem lit_byte (t : Nat) (h : t < 256) : ks t = #[.int .u8 (t : Int), .int .u8 0, .int .u8 0, .int .u8 0, .int .u8 0, .int .u8 0, .int .u8 0, .int .u8 0, .int .u8 0, .int .u8 0, .int .u8 0, .int .u8 0, .int .u8 0, .int .u8 0, .int .u8 0, .int .u8 0, .int .u8 0, .int .u8 0, .int .u8 0, .int .u8 0, .int .u8 0, .int .u8 0, .int .u8 0, .int .u8 0, .int .u8 0, .int .u8 0, .int .u8 0, .int .u8 0, .int .u8 0, .int .u8 0, .int .u8 0, .int .u8 0] := by
  have e : kb t = [t, 0, 0, 0, 0, 0, 0, 0, 0, 0, 0, 0, 0, 0, 0, 0, 0, 0, 0, 0, 0, 0, 0, 0, 0, 0, 0, 0, 0, 0, 0, 0] := by
    apply List.ext_getElem?
    intro i
    by_cases hi : i < 32
    · rw [kb_get t hi]
      rcases byte_cases hi with rfl | rfl | rfl | rfl | rfl | rfl | rfl | rfl | rfl | rfl | rfl | rfl | rfl | rfl | rfl | rfl | rfl | rfl | rfl | rfl | rfl | rfl | rfl | rfl | rfl | rfl | rfl | rfl | rfl | rfl | rfl | rfl
      all_goals
        simp only [Nat.reducePow, Nat.div_one, List.getElem?_cons_zero, List.getElem?_cons_succ]
        congr 1
        omega
    · rw [List.getElem?_eq_none (by rw [kb_len]; omega), List.getElem?_eq_none (by simp; omega)]
  rw [ks, e]
  rfl
theorem bd_keyb {x : Nat} (hx : x < 256) (W : World) : (Instr.build 23 [(0, .int .u8 ((x : Nat) : Int))].toArray).run Tryd.prog W = .ok (.agg (ks x)) W := by
  rw [lit_byte x hx]
  exact run_build W 23 _ _ (by kernel_rfl)
theorem b_neq {x y : Nat} {b : Bool} (h : decide (x ≠ y) = b) (p q : Operand) (W : World) : (do eqGuard .neq 5 p q (.int .u8 (x : Int)) (.int .u8 (y : Int)); binOp .neq 5 (.int .u8 (x : Int)) (.int .u8 (y : Int)) : Sem Value).run Tryd.prog W = .ok (.bool b) W := by
  have e : ((x : Int) != (y : Int)) = b := by
    rw [← h]
    by_cases hy : x = y
    · subst hy; simp
    · have : ¬ (x : Int) = (y : Int) := by omega
      simp [hy, this]
  go_simp
theorem b_eql {x y : Nat} {b : Bool} (h : decide (x = y) = b) (p q : Operand) (W : World) : (do eqGuard .eql 5 p q (.int .u8 (x : Int)) (.int .u8 (y : Int)); binOp .eql 5 (.int .u8 (x : Int)) (.int .u8 (y : Int)) : Sem Value).run Tryd.prog W = .ok (.bool b) W := by
  have e : ((x : Int) == (y : Int)) = b := by
    rw [← h]
    by_cases hy : x = y
    · subst hy; simp
    · have : ¬ (x : Int) = (y : Int) := by omega
      simp [hy, this]
  go_simp
theorem ptY_nm {P : Pt} {s : L4 PP} {z : Nat} (h : RepS P s) (hz : z = P.y.val) (w : World) (hpg : PG w) : Calls Tryd.prog 18 #[.agg (sv s)] w (fun rr w' => rr = .returned (.agg (ks z)) ∧ Below w.heap.size w w') := by
  subst hz; exact ptY_any h w hpg
theorem al_ptZ (W : World) : (Instr.alloc 29 true (.tuple #[])).run Tryd.prog W = .ok (.pointer (some ⟨W.heap.size, 0, none⟩)) (W.alloc (.cells (sv PZ) 29)) := by kernel_rfl
end Go.Proofs.YtcijaoihcckofaaDoor
namespace Go.Proofs.YtcijaoihcckofaaDoor
set_option linter.unusedVariables false
set_option linter.unusedSimpArgs false
set_option maxRecDepth 100000
open Go Go.RowKit
attribute [local irreducible] ev sv ks fx dv tv cv ds ptSet ptAdd ptMul rpAdd rpMul EE II TD BX BY BP Pt.add Pt.mul Pt.nil pbn LL PZ
section
attribute [local semireducible] BY
theorem base_row : ∀ k : Fin 32, k.val ≠ 0 → BY.val / 256 ^ k.val % 256 = 102 := by decide +kernel
theorem base_row0 : BY.val / 256 ^ 0 % 256 = 88 := by decide +kernel
end
section
attribute [local semireducible] BP
theorem BP_y1 : BP.y = BY := rfl
end
theorem BP_y : (BP.mul 1).y = BY := by rw [Pt.mul_one]; exact BP_y1
theorem LL_mul : BP.mul LL = Pt.nil := by
  have e : LL = LL' := LL_eq.trans rfl
  rw [e]; exact BP_order
theorem pbn_nil : pbn Pt.nil = 1 := by decide +kernel
set_option maxHeartbeats 8000000 in
theorem known6  (w : World) (hpg : PG w) : Calls Tryd.prog 14 #[] w (fun rr w' => rr = .returned (.bool true) ∧ Below w.heap.size w w') := by
  obtain ⟨z1, hz1⟩ : ∃ z : L4 PP, z = ptMul BE 1 256 := ⟨_, rfl⟩
  have rz1 : RepS (Pt.mul BP 1) z1 := by rw [hz1]; exact RepS.mul BE_rep (by omega)
  obtain ⟨z2, hz2⟩ : ∃ z : Nat, z = (Pt.mul BP 1).y.val := ⟨_, rfl⟩
  obtain ⟨z3, hz3⟩ : ∃ z : L4 PP, z = ptMul BE LL 256 := ⟨_, rfl⟩
  have rz3 : RepS (Pt.mul BP LL) z3 := by rw [hz3]; exact RepS.mul BE_rep LL_lt
  obtain ⟨z4, hz4⟩ : ∃ z : Nat, z = pbn Pt.nil := ⟨_, rfl⟩
  have lz4 : z4 < 115792089237316195423570985008687907853269984665640564039457584007913129639936 := by rw [hz4]; exact pbn_lt _
  have hx0 : z2 / 256 ^ 0 % 256 = 88 := by rw [hz2, BP_y]; exact base_row0
  have hnil : z4 = 1 := by rw [hz4]; exact pbn_nil
  refine calls_st (vs := []) 31 Tryd.func14 rfl Tryd.ntmps14 rfl (fun a W H => ?_)
  replace H : St 31 w a W [] [] := H
  refine wp_seq_k (fun K1 hK1 => ?_)
  refine rg_plain ?_
  refine pl_does (does_assign rfl rfl) rfl rfl rfl rfl H ?_
  clear H a W
  intro a W H
  refine pl_end ?_
  refine hK1 _ _ ?_
  clear hK1
  refine wp_seq_k (fun K2 hK2 => ?_)
  refine rg_plain ?_
  refine pl_new (news_of rfl al_ptZ) rfl rfl rfl rfl H ?_
  clear H a W
  intro g1 a W H
  refine pl_end ?_
  refine hK2 _ _ ?_
  clear hK2
  refine wp_seq_k (fun K3 hK3 => ?_)
  refine rg_plain ?_
  refine pl_does (does_build rfl rfl bd_key1) rfl rfl rfl rfl H ?_
  clear H a W
  intro a W H
  refine pl_does (does_call rfl ⟨_, Tryd.func29, by kernel_rfl⟩ rfl (fun W hb => base_pt hz1 W (hpg.ext hb))) rfl rfl rfl rfl H ?_
  clear H a W
  intro a W H
  refine pl_does (does_call rfl ⟨_, Tryd.func18, by kernel_rfl⟩ rfl (fun W hb => ptY_nm rz1 hz2 W (hpg.ext hb))) rfl rfl rfl rfl H ?_
  clear H a W
  intro a W H
  refine pl_new (news_of rfl al_key0) rfl rfl rfl rfl H ?_
  clear H a W
  intro g2 a W H
  refine pl_store rfl rfl rfl (k := 0) rfl (info_ks _) (by simp only [sv_size, ev_size, ks_size, fx_size, dv_size, ds_size, tv_size, cv_size] <;> rfl) (ks_one _) rfl rfl H ?_
  clear H a W
  intro a W H
  refine pl_end ?_
  replace H : St 31 w a W [(2, .pointer (some ⟨g2, 0, none⟩)), (1, .pointer (some ⟨g1, 0, none⟩)), (0, .bool false)] [(g2, 23, ks z2), (g1, 29, sv PZ)] := H.pick [0, 4, 5] [0, 1] rfl
  refine hK3 _ _ ?_
  clear hK3
  refine wp_seq_k (fun K4 hK4 => ?_)
  refine wp_seq_k (fun K5 hK5 => ?_)
  refine rg_plain ?_
  refine pl_does (does_assign rfl rfl) rfl rfl rfl rfl H ?_
  clear H a W
  intro a W H
  refine pl_end ?_
  refine hK5 _ _ ?_
  clear hK5
  refine wp_block ?_
  replace H : St 31 w a W [(3, .int .i64 ((1 : Nat) : Int)), (2, .pointer (some ⟨g2, 0, none⟩)), (1, .pointer (some ⟨g1, 0, none⟩))] [(g2, 23, ks z2), (g1, 29, sv PZ)] := H.pick [0, 1, 2] [0, 1] rfl
  refine wp_rounds 32 (fun k a W => 1 ≤ k ∧ St 31 w a W [(3, .int .i64 ((k : Nat) : Int)), (2, .pointer (some ⟨g2, 0, none⟩)), (1, .pointer (some ⟨g1, 0, none⟩))] [(g2, 23, ks z2), (g1, 29, sv PZ)]) (k0 := 1) ⟨by omega, H⟩ (by omega) ?_
  clear H a W
  rintro k a W hk ⟨hk1, H⟩
  by_cases hk2 : k < 32
  · have hx : z2 / 256 ^ k % 256 = 102 := by rw [hz2, BP_y]; exact base_row ⟨k, hk2⟩ (by show k ≠ 0; omega)
    refine wp_seq_k (fun K6 hK6 => ?_)
    refine wp_seq_k (fun K7 hK7 => ?_)
    refine rg_plain ?_
    refine pl_does (does_move rfl rfl) rfl rfl rfl rfl H ?_
    clear H a W
    intro a W H
    refine pl_does (does_binOp rfl rfl rfl (i_lss_yes (m := 32) hk2 _ _)) rfl rfl rfl rfl H ?_
    clear H a W
    intro a W H
    refine pl_end ?_
    refine hK7 _ _ ?_
    clear hK7
    refine wp_cond_true (H.ev rfl) ?_
    refine wp_skip ?_
    refine hK6 _ _ ?_
    clear hK6
    refine wp_seq_k (fun K8 hK8 => ?_)
    refine wp_block ?_
    refine wp_seq_k (fun K9 hK9 => ?_)
    refine rg_plain ?_
    refine pl_does (does_move rfl rfl) rfl rfl rfl rfl H ?_
    clear H a W
    intro a W H
    refine pl_does (does_indexAddr rfl rfl rfl (ia_keyn (j := k) hk2)) rfl rfl rfl rfl H ?_
    clear H a W
    intro a W H
    refine pl_does (does_loadAt (v := .int .u8 ((102 : Nat) : Int)) rfl rfl (k := 0) rfl (ld_keyn hk2 hx)) rfl rfl rfl rfl H ?_
    clear H a W
    intro a W H
    refine pl_does (does_binOp rfl rfl rfl (b_neq (x := 102) (y := 102) (b := false) (by decide) _ _)) rfl rfl rfl rfl H ?_
    clear H a W
    intro a W H
    refine pl_end ?_
    refine hK9 _ _ ?_
    clear hK9
    refine wp_cond_false (H.ev rfl) ?_
    refine wp_skip ?_
    refine blk_normal ?_
    refine hK8 _ _ ?_
    clear hK8
    refine rg_plain ?_
    refine pl_does (does_move rfl rfl) rfl rfl rfl rfl H ?_
    clear H a W
    intro a W H
    refine pl_does (does_binOp rfl rfl rfl (i_inc (by omega) _ _)) rfl rfl rfl rfl H ?_
    clear H a W
    intro a W H
    replace H : St 31 w a W [(10, .int .i64 ((k + 1 : Nat) : Int)), (9, .int .i64 ((k : Nat) : Int)), (14, .bool false), (13, .int .u8 ((102 : Nat) : Int)), (12, .pointer (some ⟨g2, k, none⟩)), (11, .int .i64 ((k : Nat) : Int)), (8, .bool true), (7, .int .i64 ((k : Nat) : Int)), (2, .pointer (some ⟨g2, 0, none⟩)), (1, .pointer (some ⟨g1, 0, none⟩))] [(g2, 23, ks z2), (g1, 29, sv PZ)] := H.pick [0, 1, 2, 3, 4, 5, 6, 7, 9, 10] [0, 1] rfl
    refine pl_does (does_assign rfl rfl) rfl rfl rfl rfl H ?_
    clear H a W
    intro a W H
    refine pl_end ?_
    refine ⟨k + 1, by omega, by omega, by omega, ?_⟩
    show St 31 w a W [(3, .int .i64 ((k + 1 : Nat) : Int)), (2, .pointer (some ⟨g2, 0, none⟩)), (1, .pointer (some ⟨g1, 0, none⟩))] [(g2, 23, ks z2), (g1, 29, sv PZ)]
    exact H.pick [0, 9, 10] [0, 1] rfl
  · obtain rfl : k = 32 := by omega
    refine wp_seq_k (fun K10 hK10 => ?_)
    refine wp_seq_k (fun K11 hK11 => ?_)
    refine rg_plain ?_
    refine pl_does (does_move rfl rfl) rfl rfl rfl rfl H ?_
    clear H a W
    intro a W H
    refine pl_does (does_binOp rfl rfl rfl (i_lss_no (m := 32) (by omega) _ _)) rfl rfl rfl rfl H ?_
    clear H a W
    intro a W H
    refine pl_end ?_
    replace H : St 31 w a W [(8, .bool false), (3, .int .i64 ((32 : Nat) : Int)), (2, .pointer (some ⟨g2, 0, none⟩)), (1, .pointer (some ⟨g1, 0, none⟩))] [(g2, 23, ks z2), (g1, 29, sv PZ)] := H.pick [0, 2, 3, 4] [0, 1] rfl
    refine hK11 _ _ ?_
    clear hK11
    refine wp_cond_false (H.ev rfl) ?_
    refine wp_exit ?_
    repeat (with_reducible refine then_exit ?_)
    refine blk_exit ?_
    refine hK4 _ _ ?_
    clear hK4
    refine wp_seq_k (fun K12 hK12 => ?_)
    refine drawnS [.val 15 (.pointer (some ⟨g2, 0, none⟩)) [] [], .val 16 (.int .u8 ((88 : Nat) : Int)) [0] [0], .val 17 (.bool true) [1] [], .val 18 (.bool true) [2] [], .val 19 (.agg (ds LL)) [3] [], .val 20 (.agg (ks LL)) [4, 3] [], .val 21 (.agg (sv z3)) [5, 3] [], .val 22 (.agg (sv PZ)) [3] [1], .val 23 (.bool true) [6, 7, 3] [], .val 24 (.bool true) [3, 8] [], .val 25 (.bool true) [9] [], .val 26 (.agg (sv PZ)) [10] [1], .val 27 (.agg (ks z4)) [11, 10] [], .val 28 (.agg (ks 1)) [10] [], .val 29 (.bool true) [12, 13, 10] [], .val 30 (.bool true) [10, 14] [], .val 0 (.bool true) [15] []] [0, 1, 2, 4, 8, 24, 40, 8, 200, 264, 768, 1024, 3072, 1024, 13312, 17408, 65535] (by kernel_rfl) (by kernel_rfl) (by kernel_rfl) H ⟨⟨does_indexAddr rfl rfl rfl (ia_keyn (j := 0) (by omega)), wanted_none rfl⟩, ⟨does_loadAt (v := .int .u8 ((88 : Nat) : Int)) rfl rfl (k := 0) rfl (ld_keyn (j := 0) (by omega) hx0), wanted_none rfl⟩, ⟨does_binOp rfl rfl rfl (b_eql (x := 88) (y := 88) (b := true) (by decide) _ _), wanted_none rfl⟩, ⟨does_move rfl rfl, wanted_none rfl⟩, ⟨does_call rfl ⟨_, Tryd.func30, by kernel_rfl⟩ rfl (fun W hb => rorder_any W), wanted_some rfl rfl rfl rfl rfl⟩, ⟨does_call rfl ⟨_, Tryd.func17, by kernel_rfl⟩ rfl (fun W hb => rbytes_any LL W LL_lt), wanted_some rfl rfl rfl rfl rfl⟩, ⟨does_call rfl ⟨_, Tryd.func29, by kernel_rfl⟩ rfl (fun W hb => base_pt hz3 W (hpg.ext hb)), wanted_some rfl rfl rfl rfl rfl⟩, ⟨does_load rfl rfl (k := 0) rfl Tryd.underlying29 rfl (info_pt _), wanted_some rfl rfl rfl rfl rfl⟩, ⟨does_call rfl ⟨_, Tryd.func25, by kernel_rfl⟩ rfl (fun W hb => equal_pt rz3 PZ_rep (decide_eq_true LL_mul) W (hpg.ext hb)), wanted_some rfl rfl rfl rfl rfl⟩, ⟨does_pick rfl rfl (fun _ => rfl) (fun hb => by cases hb), wanted_none rfl⟩, ⟨does_move rfl rfl, wanted_none rfl⟩, ⟨does_load rfl rfl (k := 0) rfl Tryd.underlying29 rfl (info_pt _), wanted_some rfl rfl rfl rfl rfl⟩, ⟨does_call rfl ⟨_, Tryd.func13, by kernel_rfl⟩ rfl (fun W hb => bytes_pt PZ_rep hz4 W (hpg.ext hb)), wanted_some rfl rfl rfl rfl rfl⟩, ⟨does_build rfl rfl bd_key1, wanted_some rfl rfl rfl rfl rfl⟩, ⟨does_binOp rfl rfl rfl (eq_key_same hnil _ _), wanted_some rfl rfl rfl rfl rfl⟩, ⟨does_pick rfl rfl (fun _ => rfl) (fun hb => by cases hb), wanted_none rfl⟩, ⟨does_assign rfl rfl, wanted_none rfl⟩, trivial⟩ ?_
    clear H a W
    intro G3 a W H
    replace H : St 31 w a W [(15, .pointer (some ⟨g2, 0, none⟩)), (16, .int .u8 ((88 : Nat) : Int)), (17, .bool true), (18, .bool true), (19, .agg (ds LL)), (20, .agg (ks LL)), (21, .agg (sv z3)), (22, .agg (sv PZ)), (23, .bool true), (24, .bool true), (25, .bool true), (26, .agg (sv PZ)), (27, .agg (ks z4)), (28, .agg (ks 1)), (29, .bool true), (30, .bool true), (0, .bool true), (8, .bool false), (3, .int .i64 ((32 : Nat) : Int)), (2, .pointer (some ⟨g2, 0, none⟩)), (1, .pointer (some ⟨g1, 0, none⟩))] [(g2, 23, ks z2), (g1, 29, sv PZ)] := H
    replace H : St 31 w a W [(0, .bool true)] [] := H.pick [16] [] rfl
    refine hK12 _ _ ?_
    clear hK12
    refine wp_ret ?_
    repeat (first | (with_reducible refine then_ret ?_) | (with_reducible refine blk_ret ?_))
    refine end_tmp (p := 0) rfl rfl H (fun hb => ?_)
    exact ⟨rfl, hb⟩
end Go.Proofs.YtcijaoihcckofaaDoor
namespace Go.Proofs.YtcijaoihcckofaaDoor
set_option linter.unusedVariables false
set_option linter.unusedSimpArgs false
open Go Go.RowKit
theorem info_u8 : (Tryd.prog.info? 5).map (fun i => (i.zero, i.size, i.bytes)) = some (some (.int .u8 0), 1, 1) := by kernel_rfl
theorem bs_new1 (w : World) (t : TypeId) (x : UInt8) : BS (w.alloc (.cells #[.int .u8 (x.toNat : Int)] t)) (w.heap.size + 1) (some ⟨w.heap.size, 0, none⟩) 1 1 [x] :=
  BS.ofBlk (l := [x]) (Blk.new w t #[.int .u8 (x.toNat : Int)]) 1 rfl _ (by omega)
theorem bs_newv (w : World) (t : TypeId) (v : Int) (x : UInt8) (hv : v = (x.toNat : Int)) : BS (w.alloc (.cells #[.int .u8 v] t)) (w.heap.size + 1) (some ⟨w.heap.size, 0, none⟩) 1 1 [x] := by subst hv; exact bs_new1 w t x
theorem bs_newv2 (w : World) (t : TypeId) (u v : Int) (x y : UInt8) (hu : u = (x.toNat : Int)) (hv : v = (y.toNat : Int)) : BS (w.alloc (.cells #[.int .u8 u, .int .u8 v] t)) (w.heap.size + 1) (some ⟨w.heap.size, 0, none⟩) 2 2 [x, y] := by
  subst hu
  subst hv
  exact BS.ofBlk (l := [x, y]) (Blk.new w t #[.int .u8 (x.toNat : Int), .int .u8 (y.toNat : Int)]) 2 rfl _ (by omega)
/-- n bytes of a number, the lowest first. -/
def kbl (N n : Nat) : List UInt8 := (List.range n).map fun i => UInt8.ofNat (N / 256 ^ i % 256)
theorem kbl_len (N n : Nat) : (kbl N n).length = n := by simp [kbl]
theorem kbl_get (N n : Nat) {i : Nat} (h : i < n) : (kbl N n)[i]? = some (UInt8.ofNat (N / 256 ^ i % 256)) := by simp [kbl, h]
theorem kbl_step (N n : Nat) : kbl N (n + 1) = kbl N n ++ [UInt8.ofNat (N / 256 ^ n % 256)] := by simp [kbl, List.range_succ]
theorem u8_nat {x : Nat} (h : x < 256) : (UInt8.ofNat x).toNat = x := by simp [Nat.mod_eq_of_lt h]
/-- The first j of m bits, the highest first. -/
def hbl (N m j : Nat) : List UInt8 := (List.range j).map fun t => UInt8.ofNat (N / 2 ^ (m - 1 - t) % 2)
theorem hbl_len (N m j : Nat) : (hbl N m j).length = j := by simp [hbl]
theorem hbl_get (N m j : Nat) {i : Nat} (h : i < j) : (hbl N m j)[i]? = some (UInt8.ofNat (N / 2 ^ (m - 1 - i) % 2)) := by simp [hbl, h]
theorem hbl_step (N m j : Nat) : hbl N m (j + 1) = hbl N m j ++ [UInt8.ofNat (N / 2 ^ (m - 1 - j) % 2)] := by simp [hbl, List.range_succ]
theorem bit_of_byte (N i k : Nat) (hk : k < 8) : N / 256 ^ i % 256 / 2 ^ k % 2 = N / 2 ^ (8 * i + k) % 2 := by
  have h1 : N / 2 ^ (8 * i + k) = N / 256 ^ i / 2 ^ k := by
    rw [show (256 : Nat) = 2 ^ 8 by decide, ← Nat.pow_mul, Nat.div_div_eq_div_mul, ← Nat.pow_add]
  rw [h1]
  generalize N / 256 ^ i = x
  have h := dig_mod 2 x 8 k (by omega)
  rw [if_pos hk] at h
  exact h
set_option maxRecDepth 100000 in
set_option maxHeartbeats 1000000 in
theorem high_any (A : Option Addr) (n c B N : Nat) (w : World) (hl : BS w B A n c (kbl N n)) (hB : B ≤ w.heap.size) (hn : n ≤ 100) :
    Calls Tryd.prog 85 #[.slice A n c] w fun e w' => ∃ v, e = .returned v ∧ OwnB w' w.heap.size 5 v (hbl N (8 * n) (8 * n)) ∧ Below w.heap.size w w' := by
  go_enter Tryd.func85, Tryd.ntmps85
  go_wp2_with (fail)
  go_loopw [3, 4] (fun v i wr => ∃ r j : Nat, r + j = n ∧ i = .int .i64 ((r : Int) - 1) ∧ OwnB wr w.heap.size 5 v (hbl N (8 * n) (8 * j)) ∧ Below w.heap.size w wr) (fun _ i _ => (intOf i + 1).toNat)
  case atStart => exact ⟨n, 0, by omega, rfl, OwnB.nil _ _ _, Below.refl _ _⟩
  case round =>
    obtain ⟨r, j, hrj, rfl, hown, hb⟩ := hrel
    cases r with
    | succ r =>
      have e1 : ((r + 1 : Nat) : Int) - 1 = (r : Int) := by omega
      rw [e1]
      clear e1
      have HOWN := Lib.hid hown
      have HB := Lib.hid hb
      clear hown hb
      go_wp2_with (fail)
      try rw [decide_eq_true (show (0 : Int) ≤ (r : Int) by omega)]
      go_loopw [3, 5] (fun v i wq => ∃ s q : Nat, s + q = 8 ∧ i = .int .i64 ((s : Int) - 1) ∧ OwnB wq w.heap.size 5 v (hbl N (8 * n) (8 * j + q)) ∧ Below w.heap.size w wq) (fun _ i _ => (intOf i + 1).toNat)
      case atStart => exact ⟨8, 0, by omega, rfl, HOWN.out, HB.out⟩
      case round =>
        obtain ⟨s, q, hsq, rfl, hown, hb⟩ := hrel
        clear HOWN HB
        cases s with
        | succ s =>
          have e1 : ((s + 1 : Nat) : Int) - 1 = (s : Int) := by omega
          rw [e1]
          clear e1
          obtain ⟨b, o, x, rfl, hb', hx, hc⟩ := (hl.below (hb.mono hB)).at' (k := r) (by omega)
          rw [kbl_get N n (by omega)] at hx
          injection hx with hx
          have hbit := bit_of_byte N r s (by omega)
          have hstep := hbl_step N (8 * n) (8 * j + q)
          have hidx : 8 * n - 1 - (8 * j + q) = 8 * r + s := by omega
          rw [hidx, ← hbit] at hstep
          have hxl : N / 256 ^ r % 256 < 256 := Nat.mod_lt _ (by omega)
          have hxn : x.toNat = N / 256 ^ r % 256 := by rw [← hx, u8_nat hxl]
          rw [hxn] at hc
          have hb2 : N / 256 ^ r % 256 / 2 ^ s % 2 < 256 := by omega
          have hnw : ((N / 256 ^ r % 256 : Nat) : Int) / 2 ^ s % 2 = ((UInt8.ofNat (N / 256 ^ r % 256 / 2 ^ s % 2)).toNat : Int) := by
            rw [u8_nat hb2, Int.natCast_emod, Int.natCast_ediv, Int.natCast_pow]
            rfl
          obtain ⟨A9, n9, c9, rfl, hbs9, hlo9⟩ := hown.form
          have hbig : (hbl N (8 * n) (8 * j + q)).length + 1 ≤ 140737488355328 := by rw [hbl_len]; omega
          obtain ⟨z, hz⟩ : ∃ z, z = UInt8.ofNat (N / 256 ^ r % 256 / 2 ^ s % 2) := ⟨_, rfl⟩
          rw [← hz] at hstep hnw
          have HSTEP := Lib.hid hstep
          have HNW := Lib.hid hnw
          have HBG := Lib.hid hbig
          clear hbit hstep hidx hxn hb2 hnw hbs9 hbig hx hz
          generalize N / 256 ^ r % 256 = p at *
          have b3 : (s : Int) < 65 := by omega
          go_wp2_with (at_builtin; refine wpList_app_own rfl (.tmp 17) (.tmp 26) 87 rfl 5 Tryd.underlying87 info_u8 w.heap.size (.slice A9 n9 c9) (hbl N (8 * n) (8 * j + q)) rfl (by exact hown.alloc _) (wr.heap.size + 1) 1 1 (some ⟨wr.heap.size, 0, none⟩) [z] rfl (by exact bs_newv wr 5 _ _ HNW.out) HBG.out (by have := hb.size; simp; omega) ?_; intro v1 w1 hown1 hg1 hat1)
          have hb1 := (hb.alloc hb.size _).grown hg1 (hb.alloc hb.size _).size hlo9
          refine ⟨⟨s, q + 1, by omega, rfl, ?_, hb1⟩, by simp [intOf] <;> omega⟩
          rw [show 8 * j + (q + 1) = 8 * j + q + 1 by omega, HSTEP.out]
          exact hown1
        | zero =>
          obtain rfl : q = 8 := by omega
          go_wp2_with (fail)
          go_roundw
          case rel => exact ⟨r, j + 1, by omega, rfl, by rw [show 8 * (j + 1) = 8 * j + 8 by omega]; exact hown, hb⟩
          case measure => simp [intOf] <;> omega
    | zero =>
      obtain rfl : j = n := by omega
      go_wp2_with (fail)
      go_ret
      exact ⟨_, rfl, hown, hb⟩
end Go.Proofs.YtcijaoihcckofaaDoor
namespace Go.Proofs.YtcijaoihcckofaaDoor
set_option linter.unusedVariables false
set_option linter.unusedSimpArgs false
open Go Go.RowKit
/-- What is left behind j of m bits. -/
def gl (N m j : Nat) : Nat := N / 2 ^ (m - j) % LL
theorem gl_lt (N m j : Nat) : gl N m j < LL := Nat.mod_lt _ (by rw [LL_eq]; omega)
theorem gl_zero {N m : Nat} (h : N < 2 ^ m) : gl N m 0 = 0 := by
  unfold gl
  rw [Nat.sub_zero, Nat.div_eq_of_lt h, Nat.zero_mod]
theorem gl_end (N m : Nat) : gl N m m = N % LL := by
  unfold gl
  rw [Nat.sub_self, Nat.pow_zero, Nat.div_one]
theorem gl_step (N m j : Nat) (hj : j < m) : (2 * gl N m j + N / 2 ^ (m - 1 - j) % 2) % LL = gl N m (j + 1) := by
  unfold gl
  have h1 : m - (j + 1) = m - 1 - j := by omega
  have h2 : m - j = m - 1 - j + 1 := by omega
  have h3 : N / 2 ^ (m - 1 - j) = 2 * (N / 2 ^ (m - 1 - j + 1)) + N / 2 ^ (m - 1 - j) % 2 := by
    rw [Nat.pow_succ, ← Nat.div_div_eq_div_mul]
    omega
  rw [h1, h2]
  conv => rhs; rw [h3]
  rw [Nat.add_mod, Nat.mul_mod, Nat.mod_mod, ← Nat.mul_mod, ← Nat.add_mod]
set_option maxRecDepth 100000 in
set_option maxHeartbeats 2000000 in
theorem rbits_any (A : Option Addr) (m c B N : Nat) (w : World) (hl : BS w B A m c (hbl N m m)) (hB : B ≤ w.heap.size) (hm : m ≤ 1000) (hN : N < 2 ^ m) :
    Calls Tryd.prog 84 #[.slice A m c] w (NumPost (N % LL) w) := by
  have hfr := ((Fr.start w).any (ds 0) 33 16 (ds_size 0) (g := w.heap.size) rfl).row (ds 0) 33 (g := w.heap.size + 1) (by simp)
  rw [ds_zero] at hfr
  have HFR := Lib.hid hfr
  have hz := gl_zero hN
  have HZ := Lib.hid hz
  clear hfr hz hN
  go_enter Tryd.func84, Tryd.ntmps84
  go_wp2_with (fail)
  refine (rorder_any _).mono ?_
  rintro e v1 ⟨rfl, hb⟩
  have hf := HFR.out.ext hb
  have hf2 := hf.row (ds 0) 33 (g := v1.heap.size) rfl
  have hzo : w.heap.size + 1 < v1.heap.size := by have := (hf.get (g := w.heap.size + 1) (t := 33) (cs := #[.int .u64 0, .int .u64 0, .int .u64 0, .int .u64 0, .int .u64 0, .int .u64 0, .int .u64 0, .int .u64 0, .int .u64 0, .int .u64 0, .int .u64 0, .int .u64 0, .int .u64 0, .int .u64 0, .int .u64 0, .int .u64 0]) (by simp)).lt; omega
  have ka := hf2.get (g := v1.heap.size) (t := 33) (cs := ds 0) (by simp)
  have hf3 := hf2.setRowHead (by simp <;> omega) (by simp <;> omega) (ds LL) (by omega)
  rw [ds_zero] at hf3 ka
  have hso : (#[.int .u64 0, .int .u64 0, .int .u64 0, .int .u64 0, .int .u64 0, .int .u64 0, .int .u64 0, .int .u64 0, .int .u64 0, .int .u64 0, .int .u64 0, .int .u64 0, .int .u64 0, .int .u64 0, .int .u64 0, .int .u64 0] : Array Value).size = (ds LL).size := by rw [ds_size]; rfl
  have KA := Lib.hid ka
  have HSO := Lib.hid hso
  have HF3 := Lib.hid hf3
  clear hb hf hf2 ka hso hf3 HFR
  go_wp2_with (first | (refine wpList_store_row rfl 33 (.tmp 4) (.tmp 9) rfl (v1.heap.size) (ds LL) rfl rfl 33 _ KA.out (info_ds _) HSO.out (ds_one _) ?_))
  clear KA HSO
  go_loopw [5] (fun i wr => ∃ j : Nat, j ≤ m ∧ i = .int .i64 j ∧ Fr w wr [(w.heap.size + 1, 33, ds (gl N m j)), (v1.heap.size, 33, ds LL)] [(w.heap.size, 33, 16)]) (fun i _ => m - (intOf i).toNat)
  case atStart => exact ⟨0, by omega, rfl, by rw [HZ.out, ds_zero]; exact HF3.out.sub (by simp) (by simp)⟩
  case round =>
    obtain ⟨j, hj, rfl, hF⟩ := hrel
    clear HF3
    by_cases hlt : j < m
    · obtain ⟨b, o, x, rfl, hb', hx, hc⟩ := (hl.below (hF.below.mono hB)).at' hlt
      rw [hbl_get N m m hlt] at hx
      injection hx with hx
      have hb2 : N / 2 ^ (m - 1 - j) % 2 < 2 := Nat.mod_lt _ (by omega)
      have hxn : x.toNat = N / 2 ^ (m - 1 - j) % 2 := by rw [← hx, u8_nat (by omega)]
      rw [hxn] at hc
      have hst := gl_step N m j hlt
      have hgl := gl_lt N m j
      have HST := Lib.hid hst
      have HGL := Lib.hid hgl
      have HF := Lib.hid hF
      clear hF hst hgl hx hxn
      generalize N / 2 ^ (m - 1 - j) % 2 = d at *
      generalize gl N m j = r at *
      have hq : 2 * r + d < 65536 ^ 16 := by have := HGL.out; rw [LL_eq] at this; rw [d16]; omega
      have hr16 : r < 65536 ^ 16 := by omega
      have HQ := Lib.hid hq
      have HR16 := Lib.hid hr16
      clear hq hr16
      go_wp2_with (fail)
      try rw [decide_eq_true (show (j : Int) < (m : Int) by omega)]
      have hs0 := @scale_start 65536 r 2 d (by omega)
      have HS0 := Lib.hid hs0
      clear hs0
      go_loopw [7, 6] (fun i c' wq => ∃ k v cc : Nat, k ≤ 16 ∧ i = .int .i64 k ∧ c' = .int .u64 cc ∧ ScaleAt 65536 2 r d k v cc ∧ Fr w wq [(w.heap.size + 1, 33, ds v), (v1.heap.size, 33, ds LL)] [(w.heap.size, 33, 16)]) (fun i _ _ => 16 - (intOf i).toNat)
      case atStart => exact ⟨0, r, d, by omega, rfl, rfl, HS0.out, HF.out⟩
      case round =>
        obtain ⟨k, v, cc, hk, rfl, rfl, hS, hF⟩ := hrel
        clear HF HS0
        by_cases hkt : k < 16
        · have hV := hF.get (g := w.heap.size + 1) (t := 33) (cs := ds v) (by simp)
          have cv : wr.cell? ⟨w.heap.size + 1, k, none⟩ = some (.int .u64 ((v / 65536 ^ k % 65536 : Nat) : Int)) := by rw [hV.cell, ds_get _ hkt]
          have hf := hV.frozen k
          have hcc := hS.2.2
          have hx : v / 65536 ^ k % 65536 < 65536 := Nat.mod_lt _ (by omega)
          have hst := @scale_step 65536 2 r d k v cc (by omega) (by omega) hS
          have hpt := @ds_put v k ((2 * (v / 65536 ^ k % 65536) + cc) % 65536) hkt (Nat.mod_lt _ (by omega))
          have HST2 := Lib.hid hst
          have HPT := Lib.hid hpt
          have HF := Lib.hid hF
          clear hst hpt hS hF hV
          generalize v / 65536 ^ k % 65536 = y at *
          go_wp2
          go_roundw
          case rel =>
            have e1 : (2 * (y : Int) + cc) % 65536 = (((2 * y + cc) % 65536 : Nat) : Int) := by omega
            have e2 : (2 * (y : Int) + cc) / 65536 = (((2 * y + cc) / 65536 : Nat) : Int) := by omega
            rw [e1, e2]
            refine ⟨k + 1, _, _, by omega, by go_num, rfl, HST2.out, ?_⟩
            rw [← HPT.out]
            exact HF.out.setHead (by simp <;> omega) (by simp <;> omega) _ _ (by omega)
          case measure => simp [intOf] <;> omega
        · obtain rfl : k = 16 := by omega
          obtain rfl := scale_end hS HR16.out (by omega) HQ.out
          obtain ⟨q, hq⟩ : ∃ q, q = 2 * r + d := ⟨_, rfl⟩
          have hst := HST.out
          have hql : q < 2 * LL := by have := HGL.out; omega
          have hqb := HQ.out
          rw [← hq] at hF hst hqb
          rw [d16] at hqb
          have kq := hF.get (g := w.heap.size + 1) (t := 33) (cs := ds q) (by simp)
          have kl := hF.get (g := v1.heap.size) (t := 33) (cs := ds LL) (by simp)
          have hless := fun W => rless_any q LL W hqb LL_lt
          have HF := Lib.hid hF
          have HGS := Lib.hid hst
          have HQL := Lib.hid hql
          clear hS hF hst hql HST hq
          go_wp2_with (first | (refine wpList_load_row rfl 33 (.tmp 3) rfl (w.heap.size + 1) rfl 33 (ds q) (0, 0) _ kq Tryd.underlying33 rfl (info_ds _) ?_) | (refine wpList_load_row rfl 33 (.tmp 4) rfl (v1.heap.size) rfl 33 (ds LL) (0, 0) _ kl Tryd.underlying33 rfl (info_ds _) ?_))
          by_cases hc2 : q < LL
          · rw [decide_eq_true hc2] at hless
            have hg := HGS.out
            rw [Nat.mod_eq_of_lt hc2] at hg
            have HG := Lib.hid hg
            refine (hless _).mono ?_
            clear hless
            rintro e v2 ⟨rfl, hb⟩
            have hf := HF.out.ext hb
            have HF4 := Lib.hid hf
            clear hb hf kq kl hg
            go_wp2_with (fail)
            go_roundw
            case rel => exact ⟨j + 1, by omega, by go_num, by rw [← HG.out]; exact HF4.out⟩
            case measure => simp [intOf] <;> omega
          · rw [decide_eq_false hc2] at hless
            have hg := HGS.out
            rw [Nat.mod_eq_sub_mod (by omega), Nat.mod_eq_of_lt (by have := HQL.out; omega)] at hg
            have HG := Lib.hid hg
            refine (hless _).mono ?_
            clear hless
            rintro e v2 ⟨rfl, hb⟩
            have hf := HF.out.ext hb
            have kq2 := hf.get (g := w.heap.size + 1) (t := 33) (cs := ds q) (by simp)
            have kl2 := hf.get (g := v1.heap.size) (t := 33) (cs := ds LL) (by simp)
            have HF4 := Lib.hid hf
            clear hb hf kq kl hg
            go_wp2_with (first | (refine wpList_load_row rfl 33 (.tmp 3) rfl (w.heap.size + 1) rfl 33 (ds q) (0, 0) _ kq2 Tryd.underlying33 rfl (info_ds _) ?_) | (refine wpList_load_row rfl 33 (.tmp 4) rfl (v1.heap.size) rfl 33 (ds LL) (0, 0) _ kl2 Tryd.underlying33 rfl (info_ds _) ?_))
            refine (rminus_any q LL _ hqb (by omega)).mono ?_
            rintro e v3 ⟨rfl, hb⟩
            rw [HG.out]
            have hf := HF4.out.ext hb
            have kq3 := hf.get (g := w.heap.size + 1) (t := 33) (cs := ds q) (by simp)
            have hf5 := hf.setRowHead (by simp <;> omega) (by simp <;> omega) (ds (gl N m (j + 1))) (by omega)
            have hso : (ds q).size = (ds (gl N m (j + 1))).size := by rw [ds_size, ds_size]
            have HF5 := Lib.hid hf5
            have HSO := Lib.hid hso
            clear hb hf kq2 kl2 hf5 hso
            go_wp2_with (first | (refine wpList_store_row rfl 33 (.tmp 3) (.tmp 43) rfl (w.heap.size + 1) (ds (gl N m (j + 1))) rfl rfl 33 _ kq3 (info_ds _) HSO.out (ds_one _) ?_))
            go_roundw
            case rel => exact ⟨j + 1, by omega, by go_num, HF5.out⟩
            case measure => simp [intOf] <;> omega
    · obtain rfl : j = m := by omega
      rw [gl_end] at hF
      generalize N % LL = z at *
      have kT := hF.get (g := w.heap.size + 1) (t := 33) (cs := ds z) (by simp)
      obtain ⟨old, hold, kR⟩ := hF.old (g := w.heap.size) (t := 33) (n := 16) (by simp)
      have kS := kR.setRow_same (ds z)
      have hB2 := below_setRow hF.below (Nat.le_refl _) (ds z)
      have hold' : old.size = (ds z).size := by rw [hold, ds_size]
      have HS := Lib.hid kS
      have HB2 := Lib.hid hB2
      have HO := Lib.hid hold'
      clear hF kS hB2 hold hold'
      go_wp2_with (first | (refine wpList_load_row rfl 33 (.tmp 3) rfl (w.heap.size + 1) rfl 33 (ds z) (0, 0) _ kT Tryd.underlying33 rfl (info_ds z) ?_) | (refine wpList_store_row rfl 33 (.tmp 2) (.tmp 44) rfl (w.heap.size) (ds z) rfl rfl 33 old kR (info_ds z) HO.out (ds_one _) ?_))
      exact bodyPost_ret (results_cell_row rfl _ _ (w.heap.size) 33 (ds z) (0, 0) _ rfl HS.out Tryd.underlying33 rfl (info_ds z)) rfl ⟨rfl, HB2.out⟩
set_option maxRecDepth 100000 in
set_option maxHeartbeats 1000000 in
theorem rreduce_any (A : Option Addr) (n c B N : Nat) (w : World) (hl : BS w B A n c (kbl N n)) (hB : B ≤ w.heap.size) (hn : n ≤ 100) (hN : N < 256 ^ n) :
    Calls Tryd.prog 66 #[.slice A n c] w (KeyPost (N % LL) w) := by
  have hfr := (Fr.start w).any (ks 0) 23 32 (ks_size 0) (g := w.heap.size) rfl
  rw [ks_zero] at hfr
  have HFR := Lib.hid hfr
  have hz : N % LL < LL := Nat.mod_lt _ (by rw [LL_eq]; omega)
  have h2 : N < 2 ^ (8 * n) := by rw [Nat.pow_mul]; exact hN
  have HZ := Lib.hid hz
  have H2 := Lib.hid h2
  clear hfr hz h2 hN
  go_enter Tryd.func66, Tryd.ntmps66
  go_wp2_with (fail)
  refine (high_any A n c B N _ (hl.alloc hB _) (by simp; omega) hn).mono ?_
  rintro e v1 ⟨v, rfl, hown, hb⟩
  obtain ⟨A9, n9, c9, rfl, hbs9, hlo9⟩ := hown.form
  have hln := hbs9.len
  rw [hbl_len] at hln
  subst hln
  have hf := HFR.out.ext hb
  have HF := Lib.hid hf
  clear hb hf HFR hown hlo9
  go_wp2_with (fail)
  refine (rbits_any A9 (8 * n) c9 _ N _ hbs9 (Nat.le_refl _) (by omega) H2.out).mono ?_
  rintro e v2 ⟨rfl, hb⟩
  have hf := HF.out.ext hb
  have HF2 := Lib.hid hf
  clear hb hf hbs9
  generalize N % LL = z at *
  go_wp2_with (fail)
  refine (rbytes_any z _ (by have := HZ.out; have := LL_lt; omega)).mono ?_
  rintro e v3 ⟨rfl, hb⟩
  have hf := HF2.out.ext hb
  obtain ⟨old, hold, kR⟩ := hf.old (g := w.heap.size) (t := 23) (n := 32) (by simp)
  have kS := kR.setRow_same (ks z)
  have hB2 := below_setRow hf.below (Nat.le_refl _) (ks z)
  have hold' : old.size = (ks z).size := by rw [hold, ks_size]
  have HS := Lib.hid kS
  have HB2 := Lib.hid hB2
  have HO := Lib.hid hold'
  clear hb hf kS hB2 hold hold'
  go_wp2_with (first | (refine wpList_store_row rfl 23 (.tmp 2) (.tmp 6) rfl (w.heap.size) (ks z) rfl rfl 23 old kR (info_ks z) HO.out (ks_one _) ?_))
  exact key_end (g := w.heap.size) rfl rfl rfl HS.out HB2.out
end Go.Proofs.YtcijaoihcckofaaDoor
