/- The document's layer 11: the start's words, found by roots. -/
import Derived.Test.YthjechjffhhiiaaDoorBb
namespace Go.Proofs.YthjechjffhhiiaaDoor
set_option linter.unusedVariables false
set_option linter.unusedSimpArgs false
set_option maxRecDepth 100000
open Go Go.RowKit

/-! Purely. -/
def prB (i : Nat) : Nat := [2, 3, 5, 7, 11, 13, 17, 19].getD i 0
def sqB (i : Nat) : Nat := [1, 1, 2, 2, 3, 3, 4, 4].getD i 0
/-- Does the next bit belong to the root's part? -/
def bitB (p q t : Nat) : Bool := Nat.blt (2 * q * t + t * t / 4294967296) ((p - q * q) * 4294967296) || (Nat.beq (2 * q * t + t * t / 4294967296) ((p - q * q) * 4294967296) && Nat.beq (t * t % 4294967296) 0)
/-- The root's part behind n bits. -/
def fK (p q : Nat) : Nat → Nat
  | 0 => 0
  | n + 1 => bif bitB p q (fK p q n + 2 ^ (31 - n)) then fK p q n + 2 ^ (31 - n) else fK p q n
theorem fK_le (p q : Nat) : ∀ n, n ≤ 32 → fK p q n + 2 ^ (32 - n) ≤ 4294967296
  | 0, _ => by
    show 0 + 2 ^ 32 ≤ 4294967296
    decide
  | n + 1, h => by
    have ih := fK_le p q n (by omega)
    have e : 2 ^ (32 - n) = 2 ^ (31 - n) * 2 := by rw [show 32 - n = 31 - n + 1 by omega, Nat.pow_succ]
    rw [e] at ih
    rw [show 32 - (n + 1) = 31 - n by omega]
    show (bif bitB p q (fK p q n + 2 ^ (31 - n)) then fK p q n + 2 ^ (31 - n) else fK p q n) + _ ≤ _
    cases bitB p q (fK p q n + 2 ^ (31 - n)) with
    | true => simp only [cond_true]; omega
    | false => simp only [cond_false]; omega
theorem start_all : ∀ i, i < 8 → UInt32.ofNat (fK (prB i) (sqB i) 32) = ivB i := by decide +kernel
theorem pr_all : ∀ i, i < 8 → prB i ≤ 19 ∧ sqB i ≤ 4 ∧ sqB i * sqB i ≤ prB i ∧ prB i < (sqB i + 1) * (sqB i + 1) ∧ ∀ k, k < 4 → k < sqB i → (k + 1) * (k + 1) ≤ prB i := by decide
theorem bit_a {p q t s lo R : Nat} (hs : 2 * q * t + t * t / 4294967296 = s) (hR : (p - q * q) * 4294967296 = R) (hl : t * t % 4294967296 = lo) (h : s < R) : bitB p q t = true := by
  unfold bitB
  rw [hs, hR, hl, show Nat.blt s R = true from Nat.ble_eq_true_of_le h]
  rfl
theorem bit_b {p q t s lo R : Nat} (hs : 2 * q * t + t * t / 4294967296 = s) (hR : (p - q * q) * 4294967296 = R) (hl : t * t % 4294967296 = lo) (h : ¬ s < R) (h2 : s = R) (h3 : lo = 0) : bitB p q t = true := by
  unfold bitB
  rw [hs, hR, hl, h2, h3]
  simp
theorem bit_c {p q t s lo R : Nat} (hs : 2 * q * t + t * t / 4294967296 = s) (hR : (p - q * q) * 4294967296 = R) (hl : t * t % 4294967296 = lo) (h : ¬ s < R) (h2 : ¬ (s = R ∧ lo = 0)) : bitB p q t = false := by
  unfold bitB
  rw [hs, hR, hl]
  have e1 : Nat.blt s R = false := by
    cases e : Nat.blt s R with
    | false => rfl
    | true => exact absurd (Nat.le_of_ble_eq_true e) h
  rw [e1]
  by_cases h3 : s = R
  · have h4 : ¬ lo = 0 := fun h5 => h2 ⟨h3, h5⟩
    have e2 : Nat.beq lo 0 = false := by
      cases lo with
      | zero => exact absurd rfl h4
      | succ n => rfl
    rw [e2]
    simp
  · have e2 : Nat.beq s R = false := by
      cases e : Nat.beq s R with
      | false => rfl
      | true => exact absurd (Nat.eq_of_beq_eq_true e) h3
    rw [e2]
    rfl
theorem fK_yes {p q n t : Nat} (ht : fK p q n + 2 ^ (31 - n) = t) (h : bitB p q t = true) : fK p q (n + 1) = t := by
  show (bif bitB p q (fK p q n + 2 ^ (31 - n)) then fK p q n + 2 ^ (31 - n) else fK p q n) = _
  rw [ht, h]
  rfl
theorem fK_no {p q n t f : Nat} (hf : fK p q n = f) (ht : fK p q n + 2 ^ (31 - n) = t) (h : bitB p q t = false) : fK p q (n + 1) = f := by
  show (bif bitB p q (fK p q n + 2 ^ (31 - n)) then fK p q n + 2 ^ (31 - n) else fK p q n) = _
  rw [ht, h, cond_false, hf]
/-! Numbers of 64 bits. -/
def un (x : Nat) : Value := .int .u64 (x : Int)
theorem un_add {x y : Nat} (h : x + y < 18446744073709551616) (p q : Operand) (W : World) : (do eqGuard .add 52 p q (un x) (un y); binOp .add 52 (un x) (un y) : Sem Value).run Tryd.prog W = .ok (un (x + y)) W := by
  have e : IntKind.u64.wrap ((x : Int) + (y : Int)) = ((x + y : Nat) : Int) := IntWalk.u64_in _ (by omega)
  unfold un
  go_simp
theorem un_sub {x y : Nat} (h : y ≤ x) (hx : x < 18446744073709551616) (p q : Operand) (W : World) : (do eqGuard .sub 52 p q (un x) (un y); binOp .sub 52 (un x) (un y) : Sem Value).run Tryd.prog W = .ok (un (x - y)) W := by
  have e : IntKind.u64.wrap ((x : Int) - (y : Int)) = ((x - y : Nat) : Int) := by
    rw [show (x : Int) - (y : Int) = ((x - y : Nat) : Int) by omega]
    exact IntWalk.u64_in _ (by omega)
  unfold un
  go_simp
theorem un_mul {x y : Nat} (h : x * y < 18446744073709551616) (p q : Operand) (W : World) : (do eqGuard .mul 52 p q (un x) (un y); binOp .mul 52 (un x) (un y) : Sem Value).run Tryd.prog W = .ok (un (x * y)) W := by
  have e : IntKind.u64.wrap ((x : Int) * (y : Int)) = ((x * y : Nat) : Int) := by
    rw [show (x : Int) * (y : Int) = ((x * y : Nat) : Int) by push_cast; rfl]
    exact IntWalk.u64_in _ (by omega)
  unfold un
  go_simp
theorem un_rem {x m : Nat} (h : 0 < m) (p q : Operand) (W : World) : (do eqGuard .rem 52 p q (un x) (un m); binOp .rem 52 (un x) (un m) : Sem Value).run Tryd.prog W = .ok (un (x % m)) W := by
  have h0 : ¬ m = 0 := by omega
  unfold un
  go_simp
  exact Int.tmod_eq_emod_of_nonneg (by omega)
theorem un_shl {x s y : Nat} (e : x * 2 ^ s = y) (hs : s < 64) (h : y < 18446744073709551616) (p q : Operand) (W : World) : (do eqGuard .shl 52 p q (un x) (.int .u64 (s : Int)); binOp .shl 52 (un x) (.int .u64 (s : Int)) : Sem Value).run Tryd.prog W = .ok (un y) W := by
  have h1 : (0 : Int) ≤ (s : Int) := by omega
  have h2 : (s : Int) < 64 := by omega
  have e2 : IntKind.u64.wrap ((x : Int) * 2 ^ s) = ((y : Nat) : Int) := by
    rw [show (x : Int) * 2 ^ s = (y : Int) by rw [← e]; push_cast; rfl]
    exact IntWalk.u64_in _ (by omega)
  unfold un
  go_simp
theorem un_shr {x s y : Nat} (e : x / 2 ^ s = y) (hs : s < 64) (p q : Operand) (W : World) : (do eqGuard .shr 52 p q (un x) (.int .u64 (s : Int)); binOp .shr 52 (un x) (.int .u64 (s : Int)) : Sem Value).run Tryd.prog W = .ok (un y) W := by
  have h1 : (0 : Int) ≤ (s : Int) := by omega
  have h2 : (s : Int) < 64 := by omega
  have e2 : (x : Int) / 2 ^ s = ((y : Nat) : Int) := by rw [← e]; push_cast; rfl
  unfold un
  go_simp
theorem un_leq {x m : Nat} {b : Bool} (h : decide (x ≤ m) = b) (p q : Operand) (W : World) : (do eqGuard .leq 52 p q (un x) (un m); binOp .leq 52 (un x) (un m) : Sem Value).run Tryd.prog W = .ok (.bool b) W := by
  have e : decide ((x : Int) ≤ (m : Int)) = b := by
    rw [← h]
    exact decide_eq_decide.2 (by omega)
  unfold un
  go_simp
theorem un_lss {x m : Nat} {b : Bool} (h : decide (x < m) = b) (p q : Operand) (W : World) : (do eqGuard .lss 52 p q (un x) (un m); binOp .lss 52 (un x) (un m) : Sem Value).run Tryd.prog W = .ok (.bool b) W := by
  have e : decide ((x : Int) < (m : Int)) = b := by
    rw [← h]
    exact decide_eq_decide.2 (by omega)
  unfold un
  go_simp
theorem un_eql {x m : Nat} {b : Bool} (h : decide (x = m) = b) (p q : Operand) (W : World) : (do eqGuard .eql 52 p q (un x) (un m); binOp .eql 52 (un x) (un m) : Sem Value).run Tryd.prog W = .ok (.bool b) W := by
  have e : decide ((x : Int) = (m : Int)) = b := by
    rw [← h]
    exact decide_eq_decide.2 (by omega)
  unfold un
  go_simp
  exact e
theorem cv_nw (x : Nat) (W : World) : (convert 52 45 (un x)).run Tryd.prog W = .ok (wc (UInt32.ofNat x)) W := by
  have e : IntKind.u32.wrap (x : Int) = ((UInt32.ofNat x).toNat : Int) := by
    rw [IntKind.wrap_u32', UInt32.toNat_ofNat']
    omega
  unfold wc un
  go_simp
/-! Whole numbers; a count that goes down. -/
def dnI (m n : Nat) : Int := (m : Int) - (n : Int)
theorem dn_nat {m n : Nat} (h : n ≤ m) : dnI m n = ((m - n : Nat) : Int) := by
  unfold dnI
  omega
theorem dn_0 (m : Nat) : dnI m 0 = (m : Int) := by
  unfold dnI
  omega
theorem z_geq {k m : Int} {b : Bool} (h : decide (k ≥ m) = b) (p q : Operand) (W : World) : (do eqGuard .geq 3 p q (.int .i64 k) (.int .i64 m); binOp .geq 3 (.int .i64 k) (.int .i64 m) : Sem Value).run Tryd.prog W = .ok (.bool b) W := by
  go_simp
theorem z_lss {k m : Int} {b : Bool} (h : decide (k < m) = b) (p q : Operand) (W : World) : (do eqGuard .lss 3 p q (.int .i64 k) (.int .i64 m); binOp .lss 3 (.int .i64 k) (.int .i64 m) : Sem Value).run Tryd.prog W = .ok (.bool b) W := by
  go_simp
theorem z_dec {m n : Nat} (h : n ≤ m) (hm : m < 1000000) (p q : Operand) (W : World) : (do eqGuard .sub 3 p q (.int .i64 ((m - n : Nat) : Int)) (.int .i64 1); binOp .sub 3 (.int .i64 ((m - n : Nat) : Int)) (.int .i64 1) : Sem Value).run Tryd.prog W = .ok (.int .i64 (dnI m (n + 1))) W := by
  have e : IntKind.i64.wrap (((m - n : Nat) : Int) - 1) = dnI m (n + 1) := by
    unfold dnI
    rw [IntWalk.i64_in _ (by omega)]
    omega
  go_simp
theorem dn_31 : Value.int .i64 31 = .int .i64 (dnI 31 0) := rfl
theorem fK_0 (p q : Nat) : Value.int .u64 0 = un (fK p q 0) := rfl
/-! The primes. -/
def prV : Array Value := #[un 2, un 3, un 5, un 7, un 11, un 13, un 17, un 19]
theorem prV_get : ∀ i, i < 8 → prV[i]? = some (un (prB i)) := fun i hi => by
  obtain rfl | rfl | rfl | rfl | rfl | rfl | rfl | rfl : i = 0 ∨ i = 1 ∨ i = 2 ∨ i = 3 ∨ i = 4 ∨ i = 5 ∨ i = 6 ∨ i = 7 := by omega
  all_goals rfl
theorem run_primes (W : World) : (Instr.buildSlice 56 8 #[(0, .int .u64 2), (1, .int .u64 3), (2, .int .u64 5), (3, .int .u64 7), (4, .int .u64 11), (5, .int .u64 13), (6, .int .u64 17), (7, .int .u64 19)]).run Tryd.prog W = .ok (.slice (some ⟨W.heap.size, 0, none⟩) 8 8) (W.alloc (.cells prV 52)) := by kernel_rfl
theorem made_primes {o : Oper} {n : Nat} {w0 : World} {e : Env} {h : Hep} (ho : o.op = .buildSlice 56 8 #[(0, .const (.int .u64 2)), (1, .const (.int .u64 3)), (2, .const (.int .u64 5)), (3, .const (.int .u64 7)), (4, .const (.int .u64 11)), (5, .const (.int .u64 13)), (6, .const (.int .u64 17)), (7, .const (.int .u64 19))]) :
    ∀ a w, St n w0 a w e h → (execOp a.eval o).run Tryd.prog w = .ok (.value (.slice (some ⟨w.heap.size, 0, none⟩) 8 8)) (w.alloc (.cells prV 52)) := fun a w _ => by
  have hc : ∀ v, a.eval (.const v) = v := fun _ => rfl
  simp [execOp, ho, hc, run_primes, Result.andThen]
theorem ia_u64s {j n c o : Nat} (hj : j < n) {g : Nat} (W : World) : (Instr.indexAt 56 (.slice (some ⟨g, o, none⟩) n c) (.int .i64 (j : Int))).run Tryd.prog W = .ok (.pointer (some ⟨g, o + j, none⟩)) W := by
  have h1 : (0 : Int) ≤ (j : Int) := by omega
  have h2 : (j : Int) < (n : Int) := by omega
  go_simp
theorem ld_prime {g i x : Nat} {t : TypeId} (hi : i < 8) (hx : prB i = x) (W : World) (h : Blk W g t prV) : (Instr.loadAt 52 (.pointer (some ⟨g, 0 + i, none⟩))).run Tryd.prog W = .ok (un x) W := by
  have hc := h.cell i
  rw [prV_get i hi, hx] at hc
  rw [Nat.zero_add]
  unfold un at hc ⊢
  go_simp
attribute [local irreducible] wv wc bvs bv dnI prB sqB fK prV
theorem un_addE {x y r : Nat} (e : x + y = r) (h : r < 18446744073709551616) (p q : Operand) (W : World) : (do eqGuard .add 52 p q (un x) (un y); binOp .add 52 (un x) (un y) : Sem Value).run Tryd.prog W = .ok (un r) W := by
  subst e
  exact un_add h p q W
set_option maxHeartbeats 4000000 in
theorem rstart_any (i : Nat) (hi : i < 8) (w : World) : Calls Tryd.prog 18 #[.int .i64 ((i : Nat) : Int)] w (fun rr w' => rr = .returned (wc (ivB i)) ∧ Below w.heap.size w w') := by
  refine calls_st (vs := [.int .i64 ((i : Nat) : Int)]) 81 Tryd.func18 rfl Tryd.ntmps18 rfl (fun a W H => ?_)
  replace H : St 81 w a W [(0, .int .i64 ((i : Nat) : Int))] [] := H
  refine sqR H gs0 fun Z_ z_ => rS 1 rfl <| rN0 z_ ?_
  try clear H a W
  intro a W H
  refine sqR H gs0 fun Z_ z_ => rM (F := fun g => .slice (some ⟨g, 0, none⟩) 8 8) rfl (made_primes rfl) fun g1 => rS 1 rfl <| rK [1, 0] [] [] <| rN0 z_ ?_
  try clear H a W
  intro a W H
  refine wp_seq_k (fun K3 hK3 => ?_)
  refine sqR H gs0 fun Z_ z_ => rS 1 rfl <| rV rfl (does_binOp rfl rfl rfl (z_lss (k := ((i : Nat) : Int)) (m := 0) (decide_eq_false (by omega)) _ _)) <| rS 3 rfl <| rV rfl (does_len Tryd.underlying56 rfl rfl) <| rV rfl (does_binOp rfl rfl rfl (z_geq (k := ((i : Nat) : Int)) (m := ((8 : Nat) : Int)) (decide_eq_false (by omega)) _ _)) <| rS 1 rfl <| rK [1, 0, 0, 0, 0, 0, 0, 0] [] [] <| rN0 z_ ?_
  try clear H a W
  intro a W H
  refine wp_cond_false (H.ev rfl) ?_
  refine wp_skip ?_
  refine hK3 _ _ ?_
  clear hK3
  refine sqR H gs0 fun Z_ z_ => rS 1 rfl <| rK [1, 0] [] [] <| rN0 z_ ?_
  try clear H a W
  intro a W H
  refine wp_seq_k (fun K6 hK6 => ?_)
  obtain ⟨p, hp⟩ : ∃ p, prB i = p := ⟨_, rfl⟩
  obtain ⟨q, hq⟩ : ∃ q, sqB i = q := ⟨_, rfl⟩
  obtain ⟨hp1, hq1, hq2, hq3, hq4⟩ := pr_all i hi
  rw [hp] at hp1 hq2 hq3 hq4
  rw [hq] at hq1 hq2 hq3 hq4
  have hq5 : (q + 1) * (q + 1) ≤ 25 := Nat.le_trans (Nat.mul_le_mul (show q + 1 ≤ 5 by omega) (show q + 1 ≤ 5 by omega)) (by decide)
  refine wp_block ?_
  replace H : St 81 w a W [(4, un 0), (3, .slice (some ⟨g1, 0, none⟩) 8 8), (2, .int .u32 0), (0, .int .i64 ((i : Nat) : Int))] [(g1, 52, prV)] := H.pick [0, 1, 2, 3] [0] rfl
  refine wp_rounds q (fun k a W => St 81 w a W [(4, un k), (3, .slice (some ⟨g1, 0, none⟩) 8 8), (2, .int .u32 0), (0, .int .i64 ((i : Nat) : Int))] [(g1, 52, prV)]) (k0 := 0) H (by omega) ?_
  try clear H a W
  intro k a W hk H
  by_cases hk2 : k < q
  · have hk3 := hq4 k (by omega) hk2
    refine wp_seq_k (fun K7 hK7 => ?_)
    refine sqR H gs0 fun Z_ z_ => rS 1 rfl <| rV rfl (does_binOp rfl rfl rfl (un_add (x := k) (y := 1) (by omega) _ _)) <| rS 1 rfl <| rV rfl (does_binOp rfl rfl rfl (un_add (x := k) (y := 1) (by omega) _ _)) <| rV rfl (does_binOp rfl rfl rfl (un_mul (x := (k + 1)) (y := (k + 1)) (by omega) _ _)) <| rS 2 rfl <| rV rfl (does_indexAddr rfl rfl rfl (ia_u64s (j := i) (by omega))) <| rV rfl (does_loadAt (v := un p) rfl rfl (k := 0) rfl (ld_prime hi hp)) <| rV rfl (does_binOp rfl rfl rfl (un_leq (x := ((k + 1) * (k + 1))) (m := p) (decide_eq_true (by omega)) _ _)) <| rN0 z_ ?_
    try clear H a W
    intro a W H
    refine wp_cond_true (H.ev rfl) ?_
    refine wp_skip ?_
    refine hK7 _ _ ?_
    clear hK7
    refine wp_block ?_
    refine rgP H gs0 (rS 1 rfl <| rV rfl (does_binOp rfl rfl rfl (un_add (x := k) (y := 1) (by omega) _ _)) <| rK [1, 1, 1, 1, 1, 1, 1, 1, 1, 1, 1, 1, 0] [] [] <| rS 1 rfl <| rZ0 ?_)
    try clear H a W
    intro a W H
    refine blk_normal ?_
    refine ⟨k + 1, by omega, by omega, ?_⟩
    show St 81 w a W [(4, un (k + 1)), (3, .slice (some ⟨g1, 0, none⟩) 8 8), (2, .int .u32 0), (0, .int .i64 ((i : Nat) : Int))] [(g1, 52, prV)]
    exact H.pick [0, 13, 14, 15] [0] rfl
  · obtain rfl : q = k := by omega
    refine wp_seq_k (fun K9 hK9 => ?_)
    refine sqR H gs0 fun Z_ z_ => rS 1 rfl <| rV rfl (does_binOp rfl rfl rfl (un_add (x := q) (y := 1) (by omega) _ _)) <| rS 1 rfl <| rV rfl (does_binOp rfl rfl rfl (un_add (x := q) (y := 1) (by omega) _ _)) <| rV rfl (does_binOp rfl rfl rfl (un_mul (x := (q + 1)) (y := (q + 1)) (by omega) _ _)) <| rS 2 rfl <| rV rfl (does_indexAddr rfl rfl rfl (ia_u64s (j := i) (by omega))) <| rV rfl (does_loadAt (v := un p) rfl rfl (k := 0) rfl (ld_prime hi hp)) <| rV rfl (does_binOp rfl rfl rfl (un_leq (x := ((q + 1) * (q + 1))) (m := p) (decide_eq_false (by omega)) _ _)) <| rK [1, 0, 0, 0, 0, 0, 0, 0, 0, 0] [] [] <| rN0 z_ ?_
    try clear H a W
    intro a W H
    refine wp_cond_false (H.ev rfl) ?_
    refine wp_exit ?_
    repeat (with_reducible refine then_exit ?_)
    refine blk_exit ?_
    obtain ⟨r, hr⟩ : ∃ r, p - q * q = r := ⟨_, rfl⟩
    have hr1 : r ≤ 19 := by omega
    refine hK6 _ _ ?_
    clear hK6
    refine sqR H gs0 fun Z_ z_ => rS 2 rfl <| rV rfl (does_indexAddr rfl rfl rfl (ia_u64s (j := i) (by omega))) <| rV rfl (does_loadAt (v := un p) rfl rfl (k := 0) rfl (ld_prime hi hp)) <| rS 2 rfl <| rV rfl (does_binOp rfl rfl rfl (un_mul (x := q) (y := q) (by omega) _ _)) <| rV rfl (does_binOp rfl rfl rfl (un_sub (x := p) (y := (q * q)) (by omega) (by omega) _ _)) <| rS 1 rfl <| rK [1, 0, 0, 0, 0, 0, 0, 0, 0, 0, 1, 0, 1, 0] [] [] <| rN0 z_ ?_
    try clear H a W
    intro a W H
    refine sqR H gs0 fun Z_ z_ => rS 1 rfl <| rN0 z_ ?_
    try clear H a W
    intro a W H
    refine wp_seq_k (fun K13 hK13 => ?_)
    refine sqR H gs0 fun Z_ z_ => rS 1 rfl <| rN0 z_ ?_
    try clear H a W
    intro a W H
    refine wp_block ?_
    rw [hr, dn_31, fK_0 p q] at H
    replace H : St 81 w a W [(7, .int .i64 (dnI 31 0)), (6, un (fK p q 0)), (5, un r), (4, un q)] [(g1, 52, prV)] := H.pick [0, 1, 2, 3] [0] rfl
    refine wp_rounds 32 (fun k a W => St 81 w a W [(7, .int .i64 (dnI 31 k)), (6, un (fK p q k)), (5, un r), (4, un q)] [(g1, 52, prV)]) (k0 := 0) H (by omega) ?_
    try clear H a W
    intro k a W hk H
    by_cases hk2 : k < 32
    · rw [dn_nat (show k ≤ 31 by omega)] at H
      obtain ⟨f, hf⟩ : ∃ f, fK p q k = f := ⟨_, rfl⟩
      obtain ⟨b, hb1⟩ : ∃ b, 2 ^ (31 - k) = b := ⟨_, rfl⟩
      have hfb := fK_le p q k (by omega)
      rw [show 32 - k = 31 - k + 1 by omega, Nat.pow_succ, hf, hb1] at hfb
      rw [hf] at H
      obtain ⟨t, ht⟩ : ∃ t, f + b = t := ⟨_, rfl⟩
      have ht0 : fK p q k + 2 ^ (31 - k) = t := by rw [hf, hb1, ht]
      have hb2 : 1 ≤ b := by rw [← hb1]; exact Nat.one_le_two_pow
      have ht1 : t ≤ 4294967295 := by omega
      have ht2 : t * t ≤ 4294967295 * 4294967295 := Nat.mul_le_mul ht1 ht1
      have ht3 : 2 * q * t ≤ 8 * 4294967295 := Nat.mul_le_mul (by omega) ht1
      obtain ⟨R, hR⟩ : ∃ R, r * 2 ^ 32 = R := ⟨_, rfl⟩
      have hR1 : R ≤ 81604378624 := by rw [← hR]; omega
      refine wp_seq_k (fun K15 hK15 => ?_)
      refine sqR H gs0 fun Z_ z_ => rS 1 rfl <| rV rfl (does_binOp rfl rfl rfl (z_geq (k := ((31 - k : Nat) : Int)) (m := 0) (decide_eq_true (by omega)) _ _)) <| rN0 z_ ?_
      try clear H a W
      intro a W H
      refine wp_cond_true (H.ev rfl) ?_
      refine wp_skip ?_
      refine hK15 _ _ ?_
      clear hK15
      refine wp_seq_k (fun K17 hK17 => ?_)
      refine wp_block ?_
      refine sqR H gs0 fun Z_ z_ => rS 2 rfl <| rV rfl (does_convert rfl rfl (cv_iu (by omega))) <| rV rfl (does_binOp rfl rfl rfl (un_shl (x := 1) (s := 31 - k) (by rw [Nat.one_mul]; exact hb1) (by omega) (by omega) _ _)) <| rV rfl (does_binOp rfl rfl rfl (un_addE ht (by omega) _ _)) <| rS 1 rfl <| rN0 z_ ?_
      try clear H a W
      intro a W H
      refine sqR H gs0 fun Z_ z_ => rS 2 rfl <| rV rfl (does_binOp rfl rfl rfl (un_mul (x := t) (y := t) (by omega) _ _)) <| rV rfl (does_binOp rfl rfl rfl (un_shr (x := (t * t)) (s := 32) rfl (by omega) _ _)) <| rS 2 rfl <| rV rfl (does_binOp rfl rfl rfl (un_mul (x := t) (y := t) (by omega) _ _)) <| rV rfl (does_binOp rfl rfl rfl (un_rem (x := (t * t)) (m := 4294967296) (by omega) _ _)) <| rS 2 rfl <| rN0 z_ ?_
      try clear H a W
      intro a W H
      obtain ⟨hi_, hhi⟩ : ∃ x, t * t / 4294967296 = x := ⟨_, rfl⟩
      obtain ⟨lo, hlo⟩ : ∃ x, t * t % 4294967296 = x := ⟨_, rfl⟩
      rw [hhi, hlo] at H
      have hhi1 : hi_ ≤ 4294967295 := by omega
      refine sqR H gs0 fun Z_ z_ => rS 1 rfl <| rV rfl (does_binOp rfl rfl rfl (un_mul (x := 2) (y := q) (by omega) _ _)) <| rS 1 rfl <| rV rfl (does_binOp rfl rfl rfl (un_mul (x := (2 * q)) (y := t) (by omega) _ _)) <| rS 1 rfl <| rV rfl (does_binOp rfl rfl rfl (un_add (x := ((2 * q) * t)) (y := hi_) (by omega) _ _)) <| rS 1 rfl <| rN0 z_ ?_
      try clear H a W
      intro a W H
      obtain ⟨z, hz⟩ : ∃ x, 2 * q * t + hi_ = x := ⟨_, rfl⟩
      have hz0 : 2 * q * t + t * t / 4294967296 = z := by rw [hhi, hz]
      have hR0 : (p - q * q) * 4294967296 = R := by rw [hr]; exact hR
      rw [hz] at H
      rcases (show z < R ∨ (¬ z < R ∧ z = R ∧ lo = 0) ∨ (¬ z < R ∧ z = R ∧ ¬ lo = 0) ∨ (¬ z < R ∧ ¬ z = R) by omega) with h5 | h5 | h5 | h5
      · have hn : fK p q (k + 1) = t := fK_yes ht0 (bit_a hz0 hR0 hlo h5)
        refine sqR H gs0 fun Z_ z_ => rS 2 rfl <| rV rfl (does_binOp rfl rfl rfl (un_shl (x := r) (s := 32) hR (by omega) (by omega) _ _)) <| rV rfl (does_binOp rfl rfl rfl (un_lss (x := z) (m := R) (decide_eq_true (by omega)) _ _)) <| rS 10 rfl <| rN0 z_ ?_
        try clear H a W
        intro a W H
        refine wp_cond_true (H.ev rfl) ?_
        refine rgP H gs0 (rS 1 rfl <| rK [1, 1, 1, 1, 1, 1, 1, 1, 1, 1, 1, 1, 1, 1, 1, 1, 1, 1, 1, 1, 1, 1, 1, 1, 1, 1, 1, 1, 1, 1, 1, 1, 1, 1, 1, 1, 1, 1, 1, 1, 1, 0] [] [] <| rS 1 rfl <| rZ0 ?_)
        try clear H a W
        intro a W H
        refine blk_normal ?_
        refine hK17 _ _ ?_
        clear hK17
        refine rgP H gs0 (rS 1 rfl <| rV rfl (does_binOp rfl rfl rfl (z_dec (m := 31) (n := k) (by omega) (by omega) _ _)) <| rK [1, 1, 1, 1, 1, 1, 1, 1, 1, 1, 1, 1, 1, 1, 1, 1, 1, 1, 1, 1, 1, 1, 1, 1, 1, 1, 1, 1, 1, 1, 1, 1, 1, 1, 1, 1, 1, 1, 1, 1, 1, 1, 1, 0] [] [] <| rS 1 rfl <| rZ0 ?_)
        try clear H a W
        intro a W H
        refine ⟨k + 1, by omega, by omega, ?_⟩
        show St 81 w a W [(7, .int .i64 (dnI 31 (k + 1))), (6, un (fK p q (k + 1))), (5, un r), (4, un q)] [(g1, 52, prV)]
        rw [hn]
        exact H.pick [0, 3, 44, 45] [0] rfl
      · have hn : fK p q (k + 1) = t := fK_yes ht0 (bit_b hz0 hR0 hlo h5.1 h5.2.1 h5.2.2)
        refine sqR H gs0 fun Z_ z_ => rS 2 rfl <| rV rfl (does_binOp rfl rfl rfl (un_shl (x := r) (s := 32) hR (by omega) (by omega) _ _)) <| rV rfl (does_binOp rfl rfl rfl (un_lss (x := z) (m := R) (decide_eq_false (by omega)) _ _)) <| rS 3 rfl <| rV rfl (does_binOp rfl rfl rfl (un_shl (x := r) (s := 32) hR (by omega) (by omega) _ _)) <| rV rfl (does_binOp rfl rfl rfl (un_eql (x := z) (m := R) (decide_eq_true (by omega)) _ _)) <| rS 2 rfl <| rV rfl (does_binOp rfl rfl rfl (un_eql (x := lo) (m := 0) (decide_eq_true (by omega)) _ _)) <| rS 2 rfl <| rN0 z_ ?_
        try clear H a W
        intro a W H
        refine wp_cond_true (H.ev rfl) ?_
        refine rgP H gs0 (rS 1 rfl <| rK [1, 1, 1, 1, 1, 1, 1, 1, 1, 1, 1, 1, 1, 1, 1, 1, 1, 1, 1, 1, 1, 1, 1, 1, 1, 1, 1, 1, 1, 1, 1, 1, 1, 1, 1, 1, 1, 1, 1, 1, 1, 0] [] [] <| rS 1 rfl <| rZ0 ?_)
        try clear H a W
        intro a W H
        refine blk_normal ?_
        refine hK17 _ _ ?_
        clear hK17
        refine rgP H gs0 (rS 1 rfl <| rV rfl (does_binOp rfl rfl rfl (z_dec (m := 31) (n := k) (by omega) (by omega) _ _)) <| rK [1, 1, 1, 1, 1, 1, 1, 1, 1, 1, 1, 1, 1, 1, 1, 1, 1, 1, 1, 1, 1, 1, 1, 1, 1, 1, 1, 1, 1, 1, 1, 1, 1, 1, 1, 1, 1, 1, 1, 1, 1, 1, 1, 0] [] [] <| rS 1 rfl <| rZ0 ?_)
        try clear H a W
        intro a W H
        refine ⟨k + 1, by omega, by omega, ?_⟩
        show St 81 w a W [(7, .int .i64 (dnI 31 (k + 1))), (6, un (fK p q (k + 1))), (5, un r), (4, un q)] [(g1, 52, prV)]
        rw [hn]
        exact H.pick [0, 3, 44, 45] [0] rfl
      · have hn : fK p q (k + 1) = f := fK_no hf ht0 (bit_c hz0 hR0 hlo h5.1 (fun h6 => h5.2.2 h6.2))
        refine sqR H gs0 fun Z_ z_ => rS 2 rfl <| rV rfl (does_binOp rfl rfl rfl (un_shl (x := r) (s := 32) hR (by omega) (by omega) _ _)) <| rV rfl (does_binOp rfl rfl rfl (un_lss (x := z) (m := R) (decide_eq_false (by omega)) _ _)) <| rS 3 rfl <| rV rfl (does_binOp rfl rfl rfl (un_shl (x := r) (s := 32) hR (by omega) (by omega) _ _)) <| rV rfl (does_binOp rfl rfl rfl (un_eql (x := z) (m := R) (decide_eq_true (by omega)) _ _)) <| rS 2 rfl <| rV rfl (does_binOp rfl rfl rfl (un_eql (x := lo) (m := 0) (decide_eq_false (by omega)) _ _)) <| rS 2 rfl <| rN0 z_ ?_
        try clear H a W
        intro a W H
        refine wp_cond_false (H.ev rfl) ?_
        refine wp_skip ?_
        refine blk_normal ?_
        refine hK17 _ _ ?_
        clear hK17
        refine rgP H gs0 (rS 1 rfl <| rV rfl (does_binOp rfl rfl rfl (z_dec (m := 31) (n := k) (by omega) (by omega) _ _)) <| rK [1, 1, 1, 1, 1, 1, 1, 1, 1, 1, 1, 1, 1, 1, 1, 1, 1, 1, 1, 1, 1, 1, 1, 1, 1, 1, 1, 1, 1, 1, 1, 1, 1, 1, 1, 1, 1, 1, 1, 1, 1, 0] [] [] <| rS 1 rfl <| rZ0 ?_)
        try clear H a W
        intro a W H
        refine ⟨k + 1, by omega, by omega, ?_⟩
        show St 81 w a W [(7, .int .i64 (dnI 31 (k + 1))), (6, un (fK p q (k + 1))), (5, un r), (4, un q)] [(g1, 52, prV)]
        rw [hn]
        exact H.pick [0, 42, 43, 44] [0] rfl
      · have hn : fK p q (k + 1) = f := fK_no hf ht0 (bit_c hz0 hR0 hlo h5.1 (fun h6 => h5.2 h6.1))
        refine sqR H gs0 fun Z_ z_ => rS 2 rfl <| rV rfl (does_binOp rfl rfl rfl (un_shl (x := r) (s := 32) hR (by omega) (by omega) _ _)) <| rV rfl (does_binOp rfl rfl rfl (un_lss (x := z) (m := R) (decide_eq_false (by omega)) _ _)) <| rS 3 rfl <| rV rfl (does_binOp rfl rfl rfl (un_shl (x := r) (s := 32) hR (by omega) (by omega) _ _)) <| rV rfl (does_binOp rfl rfl rfl (un_eql (x := z) (m := R) (decide_eq_false (by omega)) _ _)) <| rS 5 rfl <| rN0 z_ ?_
        try clear H a W
        intro a W H
        refine wp_cond_false (H.ev rfl) ?_
        refine wp_skip ?_
        refine blk_normal ?_
        refine hK17 _ _ ?_
        clear hK17
        refine rgP H gs0 (rS 1 rfl <| rV rfl (does_binOp rfl rfl rfl (z_dec (m := 31) (n := k) (by omega) (by omega) _ _)) <| rK [1, 1, 1, 1, 1, 1, 1, 1, 1, 1, 1, 1, 1, 1, 1, 1, 1, 1, 1, 1, 1, 1, 1, 1, 1, 1, 1, 1, 1, 1, 1, 1, 1, 1, 1, 1, 1, 1, 1, 1, 1, 0] [] [] <| rS 1 rfl <| rZ0 ?_)
        try clear H a W
        intro a W H
        refine ⟨k + 1, by omega, by omega, ?_⟩
        show St 81 w a W [(7, .int .i64 (dnI 31 (k + 1))), (6, un (fK p q (k + 1))), (5, un r), (4, un q)] [(g1, 52, prV)]
        rw [hn]
        exact H.pick [0, 42, 43, 44] [0] rfl
    · obtain rfl : 32 = k := by omega
      refine wp_seq_k (fun K25 hK25 => ?_)
      refine sqR H gs0 fun Z_ z_ => rS 1 rfl <| rV rfl (does_binOp rfl rfl rfl (z_geq (k := dnI 31 32) (m := 0) (decide_eq_false (by unfold dnI; omega)) _ _)) <| rK [1, 0] [] [] <| rN0 z_ ?_
      try clear H a W
      intro a W H
      refine wp_cond_false (H.ev rfl) ?_
      refine wp_exit ?_
      repeat (with_reducible refine then_exit ?_)
      refine blk_exit ?_
      refine hK13 _ _ ?_
      clear hK13
      refine sqR H gs0 fun Z_ z_ => rS 1 rfl <| rV rfl (does_convert rfl rfl (cv_nw _)) <| rS 1 rfl <| rK [1, 0, 0, 0, 0, 0, 0, 0] [] [] <| rN0 z_ ?_
      try clear H a W
      intro a W H
      refine wp_ret ?_
      repeat (first | (with_reducible refine then_ret ?_) | (with_reducible refine blk_ret ?_))
      refine end_tmp (p := 2) rfl rfl H (fun hb => ?_)
      exact ⟨by rw [← hp, ← hq, start_all i hi], hb⟩
set_option maxHeartbeats 4000000 in
theorem rstart_less {x : Int} (hx : x < 0) (w : World) : Calls Tryd.prog 18 #[.int .i64 x] w (fun rr w' => rr = .returned (.int .u32 0) ∧ Below w.heap.size w w') := by
  refine calls_st (vs := [.int .i64 x]) 81 Tryd.func18 rfl Tryd.ntmps18 rfl (fun a W H => ?_)
  replace H : St 81 w a W [(0, .int .i64 x)] [] := H
  refine sqR H gs0 fun Z_ z_ => rS 1 rfl <| rN0 z_ ?_
  try clear H a W
  intro a W H
  refine sqR H gs0 fun Z_ z_ => rM (F := fun g => .slice (some ⟨g, 0, none⟩) 8 8) rfl (made_primes rfl) fun g1 => rS 1 rfl <| rK [1, 0] [0] [] <| rN0 z_ ?_
  try clear H a W
  intro a W H
  refine wp_seq_k (fun K3 hK3 => ?_)
  refine sqR H gs0 fun Z_ z_ => rS 1 rfl <| rV rfl (does_binOp rfl rfl rfl (z_lss (k := x) (m := 0) (decide_eq_true (by omega)) _ _)) <| rS 6 rfl <| rK [1, 0, 0, 0, 0, 0, 0, 0] [] [] <| rN0 z_ ?_
  try clear H a W
  intro a W H
  refine wp_cond_true (H.ev rfl) ?_
  refine sqR H gs0 fun Z_ z_ => rK [1, 1, 0] [] [] <| rS 1 rfl <| rK [1, 0] [] [] <| rN0 z_ ?_
  try clear H a W
  intro a W H
  refine wp_ret ?_
  repeat (first | (with_reducible refine then_ret ?_) | (with_reducible refine blk_ret ?_))
  refine end_tmp (p := 2) rfl rfl H (fun hb => ?_)
  exact ⟨rfl, hb⟩
set_option maxHeartbeats 4000000 in
theorem rstart_more {x : Int} (hx : 8 ≤ x) (w : World) : Calls Tryd.prog 18 #[.int .i64 x] w (fun rr w' => rr = .returned (.int .u32 0) ∧ Below w.heap.size w w') := by
  refine calls_st (vs := [.int .i64 x]) 81 Tryd.func18 rfl Tryd.ntmps18 rfl (fun a W H => ?_)
  replace H : St 81 w a W [(0, .int .i64 x)] [] := H
  refine sqR H gs0 fun Z_ z_ => rS 1 rfl <| rN0 z_ ?_
  try clear H a W
  intro a W H
  refine sqR H gs0 fun Z_ z_ => rM (F := fun g => .slice (some ⟨g, 0, none⟩) 8 8) rfl (made_primes rfl) fun g1 => rS 1 rfl <| rK [1, 0] [0] [] <| rN0 z_ ?_
  try clear H a W
  intro a W H
  refine wp_seq_k (fun K3 hK3 => ?_)
  refine sqR H gs0 fun Z_ z_ => rS 1 rfl <| rV rfl (does_binOp rfl rfl rfl (z_lss (k := x) (m := 0) (decide_eq_false (by omega)) _ _)) <| rS 3 rfl <| rV rfl (does_len Tryd.underlying56 rfl rfl) <| rV rfl (does_binOp rfl rfl rfl (z_geq (k := x) (m := ((8 : Nat) : Int)) (decide_eq_true (by omega)) _ _)) <| rS 1 rfl <| rK [1, 0, 0, 0, 0, 0, 0, 0] [] [] <| rN0 z_ ?_
  try clear H a W
  intro a W H
  refine wp_cond_true (H.ev rfl) ?_
  refine sqR H gs0 fun Z_ z_ => rK [1, 1, 0] [] [] <| rS 1 rfl <| rK [1, 0] [] [] <| rN0 z_ ?_
  try clear H a W
  intro a W H
  refine wp_ret ?_
  repeat (first | (with_reducible refine then_ret ?_) | (with_reducible refine blk_ret ?_))
  refine end_tmp (p := 2) rfl rfl H (fun hb => ?_)
  exact ⟨rfl, hb⟩
end Go.Proofs.YthjechjffhhiiaaDoor
