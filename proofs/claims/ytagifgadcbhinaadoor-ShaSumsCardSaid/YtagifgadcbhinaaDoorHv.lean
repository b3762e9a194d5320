/- math/bits.Div64, as the pure words have it. -/
import Derived.Test.YtagifgadcbhinaaDoorHd
namespace Go.Proofs.YtagifgadcbhinaaDoor
set_option linter.unusedVariables false
set_option linter.unusedSimpArgs false
open Go Go.RowKit

theorem add_nat (a b : Nat) : IntKind.u64.wrap ((a : Int) + (b : Int)) = (((a + b) % 18446744073709551616 : Nat) : Int) := by
  rw [show (a : Int) + (b : Int) = ((a + b : Nat) : Int) by push_cast; rfl, IntKind.wrap_u64]
  omega
theorem mul_nat (a b : Nat) : IntKind.u64.wrap ((a : Int) * (b : Int)) = ((a * b % 18446744073709551616 : Nat) : Int) := by
  rw [show (a : Int) * (b : Int) = ((a * b : Nat) : Int) by push_cast; rfl, IntKind.wrap_u64]
  omega
theorem sub_nat (a b : Nat) (hb : b ≤ 18446744073709551616) : IntKind.u64.wrap ((a : Int) - (b : Int)) = ((subW a b : Nat) : Int) := by
  unfold subW
  rw [IntKind.wrap_u64]
  omega
theorem subW_lt (a b : Nat) : subW a b < 18446744073709551616 := Nat.mod_lt _ (by omega)
theorem mask_nat (a : Nat) (ha : a < 18446744073709551616) : bits .and .u64 (a : Int) 4294967295 = ((a % 4294967296 : Nat) : Int) := Mul64.maskN a ha
theorem tdiv_nat (a b : Nat) : (a : Int).tdiv (b : Int) = ((a / b : Nat) : Int) := by
  rw [Int.tdiv_eq_ediv_of_nonneg (by omega)]
  push_cast
  rfl
def DivPost (q : Nat) (w : World) (e : Ending) (w' : World) : Prop := ∃ r : Int, e = .returned (.tuple #[.int .u64 (q : Int), .int .u64 r]) ∧ Below w.heap.size w w'
theorem corr_step (y1 y0 u k q r : Nat) : corr y1 y0 u (k + 1) q r =
    if 4294967296 ≤ q ∨ (4294967296 * r % 18446744073709551616 + u) % 18446744073709551616 < q * y0 % 18446744073709551616 then
      (if 4294967296 ≤ (r + y1) % 18446744073709551616 then some (q - 1) else corr y1 y0 u k (q - 1) ((r + y1) % 18446744073709551616))
    else some q := rfl
set_option maxRecDepth 100000 in
set_option maxHeartbeats 1000000 in
theorem div64_zero (lo y : Nat) (w : World) (hl : lo < 18446744073709551616) (hy : y < 18446744073709551616) (h0 : 0 < y) :
    Calls Tryd.prog 31 #[.int .u64 0, .int .u64 lo, .int .u64 y] w (DivPost (lo / y) w) := by
  have b1 : ((y : Int) == 0) = false := by simp; omega
  have b2 : decide ((y : Int) ≤ 0) = false := by simp; omega
  obtain ⟨q, hq⟩ : ∃ q, q = lo / y := ⟨_, rfl⟩
  have ht := tdiv_nat lo y
  rw [← hq] at ht
  have hql : q < 18446744073709551616 := by rw [hq]; exact div_lt hl
  have hwq : IntKind.u64.wrap (q : Int) = (q : Int) := by rw [IntKind.wrap_u64]; omega
  rw [← hq]
  clear hq
  go_enter Tryd.func31, Tryd.ntmps31
  go_wp2
  refine wp_region_held_drew (S := fun W => W = w.drew) (by kernel_rfl) ?_ (fun hHeld => ?_)
  · exact rfl
  refine wpAnyH_take (i := 0) (v := ?_) rfl (by kernel_rfl) (by kernel_rfl) (by kernel_rfl) (fun _ _ _ h => h) (Or.inl ⟨by rfl, ?_⟩) hHeld ?_
  rotate_left
  · (intro W hSw; (try dsimp only at hSw); (try simp only [List.getElem_toArray, List.getElem_cons_succ, List.getElem_cons_zero]); go_simp; try with_reducible rfl)
  try simp only [Act.put, List.getElem_toArray, List.getElem_cons_succ, List.getElem_cons_zero, List.setIfInBounds_toArray, List.set_cons_zero, List.set_cons_succ]
  refine wpAnyH_take (i := 1) (v := ?_) rfl (by kernel_rfl) (by kernel_rfl) (by kernel_rfl) (fun _ _ _ h => h) (Or.inl ⟨by rfl, ?_⟩) hHeld ?_
  rotate_left
  · (intro W hSw; (try dsimp only at hSw); (try simp only [List.getElem_toArray, List.getElem_cons_succ, List.getElem_cons_zero]); go_simp; try with_reducible rfl)
  try simp only [Act.put, List.getElem_toArray, List.getElem_cons_succ, List.getElem_cons_zero, List.setIfInBounds_toArray, List.set_cons_zero, List.set_cons_succ]
  refine wpAnyH_take (i := 2) (v := ?_) rfl (by kernel_rfl) (by kernel_rfl) (by kernel_rfl) (fun _ _ _ h => h) (Or.inl ⟨by rfl, ?_⟩) hHeld ?_
  rotate_left
  · (intro W hSw; (try dsimp only at hSw); (try simp only [List.getElem_toArray, List.getElem_cons_succ, List.getElem_cons_zero]); go_simp; try with_reducible rfl)
  try simp only [Act.put, List.getElem_toArray, List.getElem_cons_succ, List.getElem_cons_zero, List.setIfInBounds_toArray, List.set_cons_zero, List.set_cons_succ]
  refine wpAnyH_take (i := 3) (v := ?_) rfl (by kernel_rfl) (by kernel_rfl) (by kernel_rfl) (fun _ _ _ h => h) (Or.inl ⟨by rfl, ?_⟩) hHeld ?_
  rotate_left
  · (intro W hSw; (try dsimp only at hSw); (try simp only [List.getElem_toArray, List.getElem_cons_succ, List.getElem_cons_zero]); go_simp; try with_reducible rfl)
  try simp only [Act.put, List.getElem_toArray, List.getElem_cons_succ, List.getElem_cons_zero, List.setIfInBounds_toArray, List.set_cons_zero, List.set_cons_succ]
  refine wpAnyH_take (i := 4) (v := ?_) rfl (by kernel_rfl) (by kernel_rfl) (by kernel_rfl) (fun _ _ _ h => h) (Or.inl ⟨by rfl, ?_⟩) hHeld ?_
  rotate_left
  · (intro W hSw; (try dsimp only at hSw); (try simp only [List.getElem_toArray, List.getElem_cons_succ, List.getElem_cons_zero]); go_simp; try with_reducible rfl)
  try simp only [Act.put, List.getElem_toArray, List.getElem_cons_succ, List.getElem_cons_zero, List.setIfInBounds_toArray, List.set_cons_zero, List.set_cons_succ]
  refine wpAnyH_take (i := 5) (v := ?_) rfl (by kernel_rfl) (by kernel_rfl) (by kernel_rfl) (fun _ _ _ h => h) (Or.inl ⟨by rfl, ?_⟩) hHeld ?_
  rotate_left
  · (intro W hSw; (try dsimp only at hSw); (try simp only [List.getElem_toArray, List.getElem_cons_succ, List.getElem_cons_zero]); go_simp; try with_reducible rfl)
  try simp only [Act.put, List.getElem_toArray, List.getElem_cons_succ, List.getElem_cons_zero, List.setIfInBounds_toArray, List.set_cons_zero, List.set_cons_succ]
  refine wpAnyH_ready (rs := [6]) (by kernel_rfl) (by simp) (AllReadyH.cons rfl (fun K hK => ?_) AllReadyH.nil)
  have h0 := hHeld
  clear hHeld
  try simp only [List.getElem_toArray, List.getElem_cons_succ, List.getElem_cons_zero]
  go_simp
  refine hK.out _ _ (rfl) (fun hHeld => ?_)
  clear hK K h0
  try simp only [Act.put, List.getElem_toArray, List.getElem_cons_succ, List.getElem_cons_zero, List.setIfInBounds_toArray, List.set_cons_zero, List.set_cons_succ]
  refine wpAnyH_ready (rs := [7]) (by kernel_rfl) (by simp) (AllReadyH.cons rfl (fun K hK => ?_) AllReadyH.nil)
  have h0 := hHeld
  clear hHeld
  try simp only [List.getElem_toArray, List.getElem_cons_succ, List.getElem_cons_zero]
  go_simp
  refine hK.out _ _ (rfl) (fun hHeld => ?_)
  clear hK K h0
  try simp only [Act.put, List.getElem_toArray, List.getElem_cons_succ, List.getElem_cons_zero, List.setIfInBounds_toArray, List.set_cons_zero, List.set_cons_succ]
  refine wpAnyH_done (by kernel_rfl) ?_ _
  go_wp2
  go_ret2
  exact ⟨_, rfl, (Below.refl _ _).drew⟩
set_option maxRecDepth 100000 in
set_option maxHeartbeats 2000000 in
theorem div64_more (hi lo y s Q : Nat) (w : World) (hhi : hi < 18446744073709551616) (hl : lo < 18446744073709551616) (hy : y < 18446744073709551616) (h0 : 0 < hi) (h1 : hi < y) (hs : s = 64 - lenN y) (hs2 : s < 64)
    (un32 un1 un0 y2 y1 y0 q1 un21 : Nat) (e_y2 : y2 = y * 2 ^ s % 18446744073709551616) (e_y1 : y1 = y2 / 4294967296) (e_y0 : y0 = y2 % 4294967296)
    (e_un32 : un32 = hi * 2 ^ s % 18446744073709551616 ||| lo / 2 ^ (64 - s)) (e_un1 : un1 = lo * 2 ^ s % 18446744073709551616 / 4294967296) (e_un0 : un0 = lo * 2 ^ s % 18446744073709551616 % 4294967296)
    (h_y1 : y1 ≠ 0) (h_q1 : corr y1 y0 un1 9 (un32 / y1) (subW un32 (un32 / y1 * y1 % 18446744073709551616)) = some q1)
    (e_un21 : un21 = subW ((un32 * 4294967296 % 18446744073709551616 + un1) % 18446744073709551616) (q1 * y2 % 18446744073709551616)) (h_q0 : corr y1 y0 un0 9 (un21 / y1) (subW un21 (un21 / y1 * y1 % 18446744073709551616)) = some Q) (F : Nat) (e_F : F = (q1 * 4294967296 % 18446744073709551616 + Q) % 18446744073709551616) :
    Calls Tryd.prog 31 #[.int .u64 hi, .int .u64 lo, .int .u64 y] w (DivPost F w) := by
  have b1 : ((y : Int) == 0) = false := by simp; omega
  have b3 : ((hi : Int) == 0) = false := by simp; omega
  have c3 : ¬ y ≤ hi := by omega
  have c4 : ¬ hi = 0 := by omega
  have hs3 : 64 - s < 65 := by omega
  have HCL := Lib.hid (fun W => lead_any y s W hy hs)
  clear hs
  have e1 := shl_nat y s
  rw [← e_y2] at e1
  have l_y2 : y2 < 18446744073709551616 := by rw [e_y2]; exact Nat.mod_lt _ (by omega)
  have e2 : (y2 : Int) / 4294967296 = (y1 : Int) := by omega
  have e3 := mask_nat y2 l_y2
  rw [← e_y0] at e3
  have l_y1 : y1 < 4294967296 := by omega
  have l_y0 : y0 < 4294967296 := by omega
  obtain ⟨hA, e_hA⟩ : ∃ m, m = hi * 2 ^ s % 18446744073709551616 := ⟨_, rfl⟩
  have e4 := shl_nat hi s
  rw [← e_hA] at e4 e_un32
  have l_hA : hA < 18446744073709551616 := by rw [e_hA]; exact Nat.mod_lt _ (by omega)
  obtain ⟨hB, e_hB⟩ : ∃ m, m = lo / 2 ^ (64 - s) := ⟨_, rfl⟩
  have e5 := shr_nat lo (64 - s)
  rw [← e_hB] at e5 e_un32
  have l_hB : hB < 18446744073709551616 := by rw [e_hB]; exact div_lt hl
  have e6 := u64_or_nat hA hB l_hA l_hB
  rw [← e_un32] at e6
  have l_un32 : un32 < 18446744073709551616 := by rw [e_un32]; exact Nat.or_lt_two_pow (n := 64) (by omega) (by omega)
  obtain ⟨un10, e_un10⟩ : ∃ m, m = lo * 2 ^ s % 18446744073709551616 := ⟨_, rfl⟩
  have e7 := shl_nat lo s
  rw [← e_un10] at e7 e_un1 e_un0
  have l_un10 : un10 < 18446744073709551616 := by rw [e_un10]; exact Nat.mod_lt _ (by omega)
  have e8 : (un10 : Int) / 4294967296 = (un1 : Int) := by omega
  have e9 := mask_nat un10 l_un10
  rw [← e_un0] at e9
  have l_un1 : un1 < 4294967296 := by omega
  have l_un0 : un0 < 4294967296 := by omega
  obtain ⟨qa, e_qa⟩ : ∃ m, m = un32 / y1 := ⟨_, rfl⟩
  have e10 := tdiv_nat un32 y1
  rw [← e_qa] at e10 h_q1
  have l_qa : qa < 18446744073709551616 := by rw [e_qa]; exact div_lt l_un32
  have e11 : IntKind.u64.wrap (qa : Int) = (qa : Int) := by rw [IntKind.wrap_u64]; omega
  obtain ⟨ma, e_ma⟩ : ∃ m, m = qa * y1 % 18446744073709551616 := ⟨_, rfl⟩
  have e12 := mul_nat qa y1
  rw [← e_ma] at e12 h_q1
  have l_ma : ma < 18446744073709551616 := by rw [e_ma]; exact Nat.mod_lt _ (by omega)
  obtain ⟨ra, e_ra⟩ : ∃ m, m = subW un32 ma := ⟨_, rfl⟩
  have e13 := sub_nat un32 ma (by omega)
  rw [← e_ra] at e13 h_q1
  have l_ra : ra < 18446744073709551616 := by rw [e_ra]; exact subW_lt _ _
  have H1 := Lib.hid h_q1
  have H0 := Lib.hid h_q0
  have HU := Lib.hid e_un21
  have EF := Lib.hid e_F
  clear e_F h_q1 h_q0 e_un21 e_ra e_ma e_qa e_un1 e_un0 e_un10 e_hB e_hA e_un32 e_y2 e_y1 e_y0
  go_enter Tryd.func31, Tryd.ntmps31
  go_wp2_with (fail)
  refine (HCL.out _).mono ?_
  rintro e w' ⟨rfl, rfl⟩
  go_upto_block 0 with (fail)
  go_cut [15] (fun sa wz => sa = .int .u64 (q1 : Nat) ∧ q1 < 18446744073709551616 ∧ wz = w)
  case first =>
    go_wp2_with (fail)
    go_loop [15, 16] (fun x z => ∃ q r k : Nat, x = .int .u64 (q : Nat) ∧ z = .int .u64 (r : Nat) ∧ q < 18446744073709551616 ∧ r < 18446744073709551616 ∧ Hid (corr y1 y0 un1 k q r = some q1)) (fun x _ => (intOf x).toNat)
    case atStart => exact ⟨_, _, 9, rfl, rfl, l_qa, l_ra, H1⟩
    case round =>
      obtain ⟨q, r, k, rfl, rfl, hq, hr, hc⟩ := hrel
      cases k with
      | zero => cases hc.out
      | succ k =>
        have hc2 := hc.out
        rw [corr_step] at hc2
        clear hc
        obtain ⟨m1, e_m1⟩ : ∃ m, m = q * y0 % 18446744073709551616 := ⟨_, rfl⟩
        have f1 := mul_nat q y0
        rw [← e_m1] at f1 hc2
        obtain ⟨m2, e_m2⟩ : ∃ m, m = 4294967296 * r % 18446744073709551616 := ⟨_, rfl⟩
        have f2 : IntKind.u64.wrap (4294967296 * (r : Int)) = (m2 : Int) := by rw [e_m2]; exact mul_nat 4294967296 r
        rw [← e_m2] at hc2
        obtain ⟨m3, e_m3⟩ : ∃ m, m = (m2 + un1) % 18446744073709551616 := ⟨_, rfl⟩
        have f3 := add_nat m2 un1
        rw [← e_m3] at f3 hc2
        obtain ⟨r2, e_r2⟩ : ∃ m, m = (r + y1) % 18446744073709551616 := ⟨_, rfl⟩
        have f4 := add_nat r y1
        rw [← e_r2] at f4 hc2
        have l_r2 : r2 < 18446744073709551616 := by rw [e_r2]; exact Nat.mod_lt _ (by omega)
        have l_m1 : m1 < 18446744073709551616 := by rw [e_m1]; exact Nat.mod_lt _ (by omega)
        have l_m2 : m2 < 18446744073709551616 := by rw [e_m2]; exact Nat.mod_lt _ (by omega)
        have l_m3 : m3 < 18446744073709551616 := by rw [e_m3]; exact Nat.mod_lt _ (by omega)
        have q1p : 4294967296 ≤ q ∨ m3 < m1 → 0 < q := by
          intro h
          rcases Nat.eq_zero_or_pos q with h9 | h9
          · rw [h9, Nat.zero_mul, Nat.zero_mod] at e_m1; omega
          · exact h9
        clear e_m1 e_m2 e_m3 e_r2
        obtain ⟨qm, e_qm⟩ : ∃ m, m = q - 1 := ⟨_, rfl⟩
        rw [← e_qm] at hc2
        by_cases hA1 : 4294967296 ≤ q
        · have bA : decide ((4294967296 : Int) ≤ (q : Int)) = true := by simp; omega
          have f5 : IntKind.u64.wrap ((q : Int) - 1) = (qm : Int) := by rw [IntKind.wrap_u64]; omega
          have l_qm : qm < 18446744073709551616 ∧ qm < q := by omega
          rw [if_pos (by first | exact Or.inl hA1 | exact Or.inr hB1)] at hc2
          clear e_qm q1p
          by_cases hR : 4294967296 ≤ r2
          · have bR : decide ((4294967296 : Int) ≤ (r2 : Int)) = true := by simp; omega
            rw [if_pos hR] at hc2
            injection hc2 with hc3
            subst hc3
            clear hR
            go_wp2_with (fail)
            go_meet
            exact ⟨rfl, by omega, rfl⟩
          · have bR : decide ((4294967296 : Int) ≤ (r2 : Int)) = false := by simp; omega
            rw [if_neg hR] at hc2
            have HC := Lib.hid hc2
            clear hc2
            go_wp2_with (fail)
            go_round
            case rel => exact ⟨qm, r2, k, rfl, rfl, by omega, l_r2, HC⟩
            case measure => simp [intOf]; omega
        · have bA : decide ((4294967296 : Int) ≤ (q : Int)) = false := by simp; omega
          by_cases hB1 : m3 < m1
          · have bB : decide (m3 < m1) = true := decide_eq_true hB1
            have f5 : IntKind.u64.wrap ((q : Int) - 1) = (qm : Int) := by rw [IntKind.wrap_u64]; omega
            have l_qm : qm < 18446744073709551616 ∧ qm < q := by omega
            rw [if_pos (by first | exact Or.inl hA1 | exact Or.inr hB1)] at hc2
            clear e_qm q1p
            by_cases hR : 4294967296 ≤ r2
            · have bR : decide ((4294967296 : Int) ≤ (r2 : Int)) = true := by simp; omega
              rw [if_pos hR] at hc2
              injection hc2 with hc3
              subst hc3
              clear hR
              go_wp2_with (fail)
              go_meet
              exact ⟨rfl, by omega, rfl⟩
            · have bR : decide ((4294967296 : Int) ≤ (r2 : Int)) = false := by simp; omega
              rw [if_neg hR] at hc2
              have HC := Lib.hid hc2
              clear hc2
              go_wp2_with (fail)
              go_round
              case rel => exact ⟨qm, r2, k, rfl, rfl, by omega, l_r2, HC⟩
              case measure => simp [intOf]; omega
          · have bB : decide (m3 < m1) = false := decide_eq_false hB1
            rw [if_neg (by omega)] at hc2
            injection hc2 with hc3
            subst hc3
            clear e_qm q1p
            go_wp2_with (fail)
            go_meet
            exact ⟨rfl, hq, rfl⟩
  case rest =>
    obtain ⟨rfl, l_q1, rfl⟩ := hcut
    have hU := HU.out
    obtain ⟨g1, e_g1⟩ : ∃ m, m = un32 * 4294967296 % 18446744073709551616 := ⟨_, rfl⟩
    have k1 := mul_nat un32 4294967296
    rw [← e_g1] at k1 hU
    have l_g1 : g1 < 18446744073709551616 := by rw [e_g1]; first | exact Nat.mod_lt _ (by omega) | exact subW_lt _ _
    obtain ⟨g2, e_g2⟩ : ∃ m, m = (g1 + un1) % 18446744073709551616 := ⟨_, rfl⟩
    have k2 := add_nat g1 un1
    rw [← e_g2] at k2 hU
    have l_g2 : g2 < 18446744073709551616 := by rw [e_g2]; first | exact Nat.mod_lt _ (by omega) | exact subW_lt _ _
    obtain ⟨g3, e_g3⟩ : ∃ m, m = q1 * y2 % 18446744073709551616 := ⟨_, rfl⟩
    have k3 := mul_nat q1 y2
    rw [← e_g3] at k3 hU
    have l_g3 : g3 < 18446744073709551616 := by rw [e_g3]; first | exact Nat.mod_lt _ (by omega) | exact subW_lt _ _
    have k4 := sub_nat g2 g3 (by omega)
    rw [← hU] at k4
    have l_un21 : un21 < 18446744073709551616 := by rw [hU]; exact subW_lt _ _
    have h0 := H0.out
    obtain ⟨qb, e_qb⟩ : ∃ m, m = un21 / y1 := ⟨_, rfl⟩
    have k5 := tdiv_nat un21 y1
    rw [← e_qb] at k5 h0
    have l_qb : qb < 18446744073709551616 := by rw [e_qb]; exact div_lt l_un21
    have k6 : IntKind.u64.wrap (qb : Int) = (qb : Int) := by rw [IntKind.wrap_u64]; omega
    obtain ⟨mb, e_mb⟩ : ∃ m, m = qb * y1 % 18446744073709551616 := ⟨_, rfl⟩
    have k7 := mul_nat qb y1
    rw [← e_mb] at k7 h0
    have l_mb : mb < 18446744073709551616 := by rw [e_mb]; first | exact Nat.mod_lt _ (by omega) | exact subW_lt _ _
    obtain ⟨rb, e_rb⟩ : ∃ m, m = subW un21 mb := ⟨_, rfl⟩
    have k8 := sub_nat un21 mb (by omega)
    rw [← e_rb] at k8 h0
    have l_rb : rb < 18446744073709551616 := by rw [e_rb]; exact subW_lt _ _
    have k9 : IntKind.u64.wrap ((un32 : Int) * 4294967296) = (g1 : Int) := k1
    have HB := Lib.hid h0
    clear h0 hU e_rb e_mb e_qb e_g1 e_g2 e_g3 H1 H0 HU
    go_upto_block 2 with (fail)
    go_cut [18] (fun sa wz => sa = .int .u64 (Q : Nat) ∧ Q < 18446744073709551616 ∧ wz = wc)
    case first =>
      go_wp2_with (fail)
      go_loop [18, 16] (fun x z => ∃ q r k : Nat, x = .int .u64 (q : Nat) ∧ z = .int .u64 (r : Nat) ∧ q < 18446744073709551616 ∧ r < 18446744073709551616 ∧ Hid (corr y1 y0 un0 k q r = some Q)) (fun x _ => (intOf x).toNat)
      case atStart => exact ⟨_, _, 9, rfl, rfl, l_qb, l_rb, HB⟩
      case round =>
        obtain ⟨q, r, k, rfl, rfl, hq, hr, hc⟩ := hrel
        cases k with
        | zero => cases hc.out
        | succ k =>
          have hc2 := hc.out
          rw [corr_step] at hc2
          clear hc
          obtain ⟨m1, e_m1⟩ : ∃ m, m = q * y0 % 18446744073709551616 := ⟨_, rfl⟩
          have f1 := mul_nat q y0
          rw [← e_m1] at f1 hc2
          obtain ⟨m2, e_m2⟩ : ∃ m, m = 4294967296 * r % 18446744073709551616 := ⟨_, rfl⟩
          have f2 : IntKind.u64.wrap (4294967296 * (r : Int)) = (m2 : Int) := by rw [e_m2]; exact mul_nat 4294967296 r
          rw [← e_m2] at hc2
          obtain ⟨m3, e_m3⟩ : ∃ m, m = (m2 + un0) % 18446744073709551616 := ⟨_, rfl⟩
          have f3 := add_nat m2 un0
          rw [← e_m3] at f3 hc2
          obtain ⟨r2, e_r2⟩ : ∃ m, m = (r + y1) % 18446744073709551616 := ⟨_, rfl⟩
          have f4 := add_nat r y1
          rw [← e_r2] at f4 hc2
          have l_r2 : r2 < 18446744073709551616 := by rw [e_r2]; exact Nat.mod_lt _ (by omega)
          have l_m1 : m1 < 18446744073709551616 := by rw [e_m1]; exact Nat.mod_lt _ (by omega)
          have l_m2 : m2 < 18446744073709551616 := by rw [e_m2]; exact Nat.mod_lt _ (by omega)
          have l_m3 : m3 < 18446744073709551616 := by rw [e_m3]; exact Nat.mod_lt _ (by omega)
          have q1p : 4294967296 ≤ q ∨ m3 < m1 → 0 < q := by
            intro h
            rcases Nat.eq_zero_or_pos q with h9 | h9
            · rw [h9, Nat.zero_mul, Nat.zero_mod] at e_m1; omega
            · exact h9
          clear e_m1 e_m2 e_m3 e_r2
          obtain ⟨qm, e_qm⟩ : ∃ m, m = q - 1 := ⟨_, rfl⟩
          rw [← e_qm] at hc2
          by_cases hA1 : 4294967296 ≤ q
          · have bA : decide ((4294967296 : Int) ≤ (q : Int)) = true := by simp; omega
            have f5 : IntKind.u64.wrap ((q : Int) - 1) = (qm : Int) := by rw [IntKind.wrap_u64]; omega
            have l_qm : qm < 18446744073709551616 ∧ qm < q := by omega
            rw [if_pos (by first | exact Or.inl hA1 | exact Or.inr hB1)] at hc2
            clear e_qm q1p
            by_cases hR : 4294967296 ≤ r2
            · have bR : decide ((4294967296 : Int) ≤ (r2 : Int)) = true := by simp; omega
              rw [if_pos hR] at hc2
              injection hc2 with hc3
              subst hc3
              clear hR
              go_wp2_with (fail)
              go_meet
              exact ⟨rfl, by omega, rfl⟩
            · have bR : decide ((4294967296 : Int) ≤ (r2 : Int)) = false := by simp; omega
              rw [if_neg hR] at hc2
              have HC := Lib.hid hc2
              clear hc2
              go_wp2_with (fail)
              go_round
              case rel => exact ⟨qm, r2, k, rfl, rfl, by omega, l_r2, HC⟩
              case measure => simp [intOf]; omega
          · have bA : decide ((4294967296 : Int) ≤ (q : Int)) = false := by simp; omega
            by_cases hB1 : m3 < m1
            · have bB : decide (m3 < m1) = true := decide_eq_true hB1
              have f5 : IntKind.u64.wrap ((q : Int) - 1) = (qm : Int) := by rw [IntKind.wrap_u64]; omega
              have l_qm : qm < 18446744073709551616 ∧ qm < q := by omega
              rw [if_pos (by first | exact Or.inl hA1 | exact Or.inr hB1)] at hc2
              clear e_qm q1p
              by_cases hR : 4294967296 ≤ r2
              · have bR : decide ((4294967296 : Int) ≤ (r2 : Int)) = true := by simp; omega
                rw [if_pos hR] at hc2
                injection hc2 with hc3
                subst hc3
                clear hR
                go_wp2_with (fail)
                go_meet
                exact ⟨rfl, by omega, rfl⟩
              · have bR : decide ((4294967296 : Int) ≤ (r2 : Int)) = false := by simp; omega
                rw [if_neg hR] at hc2
                have HC := Lib.hid hc2
                clear hc2
                go_wp2_with (fail)
                go_round
                case rel => exact ⟨qm, r2, k, rfl, rfl, by omega, l_r2, HC⟩
                case measure => simp [intOf]; omega
            · have bB : decide (m3 < m1) = false := decide_eq_false hB1
              rw [if_neg (by omega)] at hc2
              injection hc2 with hc3
              subst hc3
              clear e_qm q1p
              go_wp2_with (fail)
              go_meet
              exact ⟨rfl, hq, rfl⟩
    case rest =>
      obtain ⟨rfl, l_Q, rfl⟩ := hcut
      obtain ⟨fa, e_fa⟩ : ∃ m, m = q1 * 4294967296 % 18446744073709551616 := ⟨_, rfl⟩
      have k1 : IntKind.u64.wrap ((q1 : Int) * 4294967296) = (fa : Int) := by rw [e_fa]; exact mul_nat q1 4294967296
      have e_F2 := EF.out
      rw [← e_fa] at e_F2
      have k2 := add_nat fa Q
      rw [← e_F2] at k2
      have l_fa : fa < 18446744073709551616 := by rw [e_fa]; exact Nat.mod_lt _ (by omega)
      clear e_fa e_F2
      have hs4 : s < 65 := by omega
      go_wp2_with (fail)
      go_ret2
      exact ⟨_, rfl, Below.refl _ _⟩
theorem divC_some {k y2 y1 y0 un32 un1 un0 q : Nat} (h : divC k y2 y1 y0 un32 un1 un0 = some q) : y1 ≠ 0 ∧ ∃ q1 un21 Q, corr y1 y0 un1 k (un32 / y1) (subW un32 (un32 / y1 * y1 % 18446744073709551616)) = some q1 ∧
    un21 = subW ((un32 * 4294967296 % 18446744073709551616 + un1) % 18446744073709551616) (q1 * y2 % 18446744073709551616) ∧ corr y1 y0 un0 k (un21 / y1) (subW un21 (un21 / y1 * y1 % 18446744073709551616)) = some Q ∧ q = (q1 * 4294967296 % 18446744073709551616 + Q) % 18446744073709551616 := by
  unfold divC at h
  split at h
  · cases h
  · rename_i hy1
    refine ⟨hy1, ?_⟩
    split at h
    · cases h
    · rename_i q1 hc
      generalize hU : subW ((un32 * 4294967296 % 18446744073709551616 + un1) % 18446744073709551616) (q1 * y2 % 18446744073709551616) = U at h
      split at h
      · cases h
      · rename_i Q hd
        injection h with h
        exact ⟨q1, U, Q, hc, hU.symm, hd, h.symm⟩
theorem div64_any (hi lo y q : Nat) (w : World) (hhi : hi < 18446744073709551616) (hl : lo < 18446744073709551616) (hy : y < 18446744073709551616) (h : divN hi lo y = some q) :
    Calls Tryd.prog 31 #[.int .u64 hi, .int .u64 lo, .int .u64 y] w (DivPost q w) := by
  unfold divN at h
  split at h
  · cases h
  · rename_i h1
    split at h
    · rename_i h0
      subst h0
      injection h with h
      subst h
      exact div64_zero lo y w hl hy (by omega)
    · rename_i h0
      obtain ⟨s, e1⟩ : ∃ s, s = 64 - lenN y := ⟨_, rfl⟩
      rw [← e1] at h
      unfold divS at h
      obtain ⟨y2, e2⟩ : ∃ m, m = y * 2 ^ s % 18446744073709551616 := ⟨_, rfl⟩
      obtain ⟨un32, e5⟩ : ∃ m, m = (hi * 2 ^ s % 18446744073709551616 ||| lo / 2 ^ (64 - s)) := ⟨_, rfl⟩
      obtain ⟨un1, e6⟩ : ∃ m, m = lo * 2 ^ s % 18446744073709551616 / 4294967296 := ⟨_, rfl⟩
      obtain ⟨un0, e7⟩ : ∃ m, m = lo * 2 ^ s % 18446744073709551616 % 4294967296 := ⟨_, rfl⟩
      rw [← e2, ← e5, ← e6, ← e7] at h
      obtain ⟨e8, q1, un21, Q, e9, e10, e11, e12⟩ := divC_some h
      have hs : s < 64 := by
        rcases Nat.eq_zero_or_pos (lenN y) with h5 | h5
        · exfalso
          rw [h5] at e1
          rw [e1] at e2
          apply e8
          rw [e2, Nat.mul_mod_left]
        · omega
      exact div64_more hi lo y s Q w hhi hl hy (by omega) (by omega) e1 hs un32 un1 un0 y2 _ _ q1 un21 e2 rfl rfl e5 e6 e7 e8 e9 e10 e11 q e12
end Go.Proofs.YtagifgadcbhinaaDoor
