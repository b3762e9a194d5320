/- The document's product of long numbers. -/
import Derived.Test.YtagifgadcbhinaaDoorHm
namespace Go.Proofs.YtagifgadcbhinaaDoor
set_option linter.unusedVariables false
set_option linter.unusedSimpArgs false
open Go Go.RowKit

/-- A call that answers a long number of n digits, in a block of its own. -/
def LongPost (n v : Nat) (w : World) (e : Ending) (w' : World) : Prop := ∃ l : List Nat, e = .returned (.slice (some ⟨w.heap.size, 0, none⟩) n n) ∧ l.length = n ∧ Dig l ∧ dv l = v ∧ Blk w' w.heap.size 35 (us l) ∧ Below w.heap.size w w'
theorem us_zr (n : Nat) : us (List.replicate n 0) = us (List.replicate n 0) := rfl
def Ox (a b : List Nat) (w wr : World) (l : List Nat) : Prop := Fr w wr [(w.heap.size, 35, us l)] []
set_option maxRecDepth 100000 in
set_option maxHeartbeats 4000000 in
theorem rtimes_any (la lb : List Nat) (A A2 : Option Addr) (na ca nb cb B : Nat) (w : World) (ha : US w B A na ca la) (hb : US w B A2 nb cb lb) (hB : B ≤ w.heap.size) (da : Dig la) (db : Dig lb) (hna : na ≤ 100) (hnb : nb ≤ 100) (hp : 0 < na) (hp2 : 0 < nb) :
    Calls Tryd.prog 23 #[.slice A na ca, .slice A2 nb cb] w (LongPost (na + nb) (dv la * dv lb) w) := by
  have hlen := ha.len
  have hlen2 := hb.len
  obtain ⟨b1, o1, e1, hb1, hc1⟩ := ha.at_ hp
  obtain ⟨b2, o2, e2, hb2, hc2⟩ := hb.at_ hp2
  subst e1
  subst e2
  have HA := Lib.hid hc1
  have HB := Lib.hid hc2
  have DB := Lib.hid db
  have DA := Lib.hid da
  obtain ⟨N, hN⟩ : ∃ N, N = na + nb := ⟨_, rfl⟩
  rw [← hN]
  have hNi : (N : Int) = (na : Int) + (nb : Int) := by omega
  have hrs := row_start N la lb
  have HRS := Lib.hid hrs
  have f0 := (Fr.start w).row (us (List.replicate N 0)) 35 (g := w.heap.size) rfl
  have F0 := Lib.hid f0
  have hbw1 : b1 < w.heap.size := by omega
  have hbw2 : b2 < w.heap.size := by omega
  have hmk := fun W => run_mku (P := Tryd.prog) 58 35 Tryd.underlying58 info_u64 N (by omega) W
  rw [hNi] at hmk
  have HN := Lib.hid hN
  have HL := Lib.hid hlen
  have HL2 := Lib.hid hlen2
  clear ha hb hc1 hc2 db hrs f0 hlen hlen2 hN hNi
  go_enter Tryd.func23, Tryd.ntmps23
  go_wp2_with (fail)
  clear hmk
  go_loopw [6] (fun i wr => ∃ (j : Nat) (l : List Nat), j ≤ na ∧ i = .int .i64 j ∧ RowAt N la lb j l ∧ Fr w wr [(w.heap.size, 35, us l)] []) (fun i _ => na - (intOf i).toNat)
  case atStart => exact ⟨0, _, by omega, rfl, HRS.out, F0.out⟩
  case round =>
    obtain ⟨j, l, hj, rfl, hC, hF⟩ := hrel
    clear F0 HRS
    by_cases hlt : j < na
    · obtain ⟨V, hV⟩ : ∃ V, V = dv (la.take j) * dv lb := ⟨_, rfl⟩
      obtain ⟨x, hx⟩ : ∃ x, x = la.getD j 0 := ⟨_, rfl⟩
      have hin1 := row_in (x := x) hC
      rw [← hV] at hin1
      have hxl : x < 4294967296 := by rw [hx]; exact DA.out j
      have cx : w.cell? ⟨b1, o1 + j, none⟩ = some (.int .u64 (x : Int)) := HA.out j x (by rw [hx, List.getD, List.getElem?_eq_getElem (by rw [HL.out]; exact hlt)]; rfl)
      have CX := Lib.hid cx
      have HV := Lib.hid hV
      have HX := Lib.hid hx
      have HIN := Lib.hid hin1
      have HF := Lib.hid hF
      clear hin1 hV hC hF hx cx
      go_wp2_with (fail)
      try rw [decide_eq_true (show (j : Int) < (na : Int) by omega)]
      go_loopw [8, 7] (fun i c wq => ∃ (k : Nat) (l : List Nat) (cc : Nat), k ≤ nb ∧ i = .int .i64 k ∧ c = .int .u64 (cc : Int) ∧ RowIn N x lb V j k l cc ∧ Fr w wq [(w.heap.size, 35, us l)] []) (fun i _ _ => nb - (intOf i).toNat)
      case atStart => exact ⟨0, _, 0, by omega, rfl, rfl, HIN.out, HF.out⟩
      case round =>
        obtain ⟨k, m, cc, hk, rfl, rfl, hC, hF⟩ := hrel
        clear HF HIN
        by_cases hkt : k < nb
        · have hml := hC.1
          obtain ⟨y, hy⟩ : ∃ y, y = lb.getD k 0 := ⟨_, rfl⟩
          obtain ⟨d, hd⟩ : ∃ d, d = m.getD (j + k) 0 := ⟨_, rfl⟩
          have hyl : y < 4294967296 := by rw [hy]; exact DB.out k
          have hdl : d < 4294967296 := by rw [hd]; exact hC.2.1 _
          have hcl := hC.2.2.2.1
          have cxw : wr.cell? ⟨b1, o1 + j, none⟩ = some (.int .u64 (x : Int)) := (hF.below.cell hbw1).trans CX.out
          have cyw : wr.cell? ⟨b2, o2 + k, none⟩ = some (.int .u64 (y : Int)) := (hF.below.cell hbw2).trans (HB.out k y (by rw [hy, List.getD, List.getElem?_eq_getElem (by rw [HL2.out]; exact hkt)]; rfl))
          have hD := hF.get (g := w.heap.size) (t := 35) (cs := us m) (by simp)
          have cdw : wr.cell? ⟨w.heap.size, j + k, none⟩ = some (.int .u64 (d : Int)) := by rw [hD.cell, us_at (x := d) (by rw [hd, List.getD, List.getElem?_eq_getElem (by rw [hml, HN.out]; omega)]; rfl)]
          have hf := hD.frozen (j + k)
          obtain ⟨t, ht⟩ : ∃ t, t = x * y + d + cc := ⟨_, rfl⟩
          obtain ⟨htl, hst⟩ := row_step (t := t) (by rw [HN.out]; omega) (by rw [HL2.out]; exact hkt) hxl DB.out hC (by rw [ht, hy, hd])
          have hse := us_set m (j + k) (t % 4294967296)
          have f2 := hF.setHead (by simp) (by simp) (j + k) (.int .u64 ((t % 4294967296 : Nat) : Int)) (by omega)
          rw [hse, show ((t % 4294967296 : Nat) : Int) = (t : Int) % 4294967296 from Int.natCast_emod t 4294967296] at f2
          have hxy := Nat.mul_le_mul (show x ≤ 4294967295 by omega) (show y ≤ 4294967295 by omega)
          obtain ⟨p, hp⟩ : ∃ p, p = x * y := ⟨_, rfl⟩
          rw [← hp] at ht hxy
          have s1 : IntKind.u64.wrap ((x : Int) * (y : Int)) = (p : Int) := by rw [← Int.natCast_mul, ← hp, IntKind.wrap_u64]; omega
          have s2 : IntKind.u64.wrap ((p : Int) + (d : Int)) = ((p + d : Nat) : Int) := by rw [IntKind.wrap_u64]; omega
          have s3 : IntKind.u64.wrap (((p + d : Nat) : Int) + (cc : Int)) = (t : Int) := by rw [IntKind.wrap_u64]; omega
          obtain ⟨pd, hpd⟩ : ∃ pd, pd = p + d := ⟨_, rfl⟩
          rw [← hpd] at s2 s3
          have HST := Lib.hid hst
          have F2 := Lib.hid f2
          have HF := Lib.hid hF
          have b0 : IntKind.i64.wrap ((j : Int) + (k : Int)) = ((j + k : Nat) : Int) := by rw [IntKind.wrap_i64]; omega
          have bjk : j + k < N := by rw [HN.out]; omega
          obtain ⟨jk, hjk⟩ : ∃ q, q = j + k := ⟨_, rfl⟩
          rw [← hjk] at b0 bjk cdw hf
          have hst := HST.out
          have f2 := F2.out
          rw [← hjk] at f2 hst
          clear HST F2
          have HST := Lib.hid hst
          have F2 := Lib.hid f2
          clear hst f2 hF hC hD hse ht hp hpd hxy hd hy hyl hdl hcl hml hjk
          go_wp2_with (fail)
          refine wp_region_held_drew (S := fun W => W.cell? ⟨b1, o1 + j, none⟩ = some (.int .u64 (x : Int)) ∧ W.cell? ⟨b2, o2 + k, none⟩ = some (.int .u64 (y : Int)) ∧ W.cell? ⟨w.heap.size, jk, none⟩ = some (.int .u64 (d : Int))) (by kernel_rfl) ?_ (fun hHeld => ?_)
          · exact ⟨cxw, cyw, cdw⟩
          refine wpAnyH_take (i := 0) (v := ?_) rfl (by kernel_rfl) (by kernel_rfl) (by kernel_rfl) (fun _ _ _ h => h) (Or.inl ⟨by rfl, ?_⟩) hHeld ?_
          rotate_left
          · (intro W hSw; (try dsimp only at hSw); (try simp only [List.getElem_toArray, List.getElem_cons_succ, List.getElem_cons_zero]); go_simp; try with_reducible rfl)
          try simp only [Act.put, List.getElem_toArray, List.getElem_cons_succ, List.getElem_cons_zero, List.setIfInBounds_toArray, List.set_cons_zero, List.set_cons_succ]
          refine wpAnyH_take (i := 1) (v := ?_) rfl (by kernel_rfl) (by kernel_rfl) (by kernel_rfl) (fun _ _ _ h => h) (Or.inl ⟨by rfl, ?_⟩) hHeld ?_
          rotate_left
          · (intro W hSw; (try dsimp only at hSw); (try simp only [List.getElem_toArray, List.getElem_cons_succ, List.getElem_cons_zero]); go_simp; try with_reducible rfl)
          try simp only [Act.put, List.getElem_toArray, List.getElem_cons_succ, List.getElem_cons_zero, List.setIfInBounds_toArray, List.set_cons_zero, List.set_cons_succ]
          refine wpAnyH_take (i := 2) (v := ?_) rfl (by kernel_rfl) (by kernel_rfl) (by kernel_rfl) (fun _ _ _ h => h) (Or.inl ⟨by rfl, ?_⟩) hHeld ?_
          rotate_left
          · (intro W hSw; (try dsimp only at hSw); (try simp only [List.getElem_toArray, List.getElem_cons_succ, List.getElem_cons_zero]); go_simp; try with_reducible rfl)
          try simp only [Act.put, List.getElem_toArray, List.getElem_cons_succ, List.getElem_cons_zero, List.setIfInBounds_toArray, List.set_cons_zero, List.set_cons_succ]
          refine wpAnyH_take (i := 3) (v := ?_) rfl (by kernel_rfl) (by kernel_rfl) (by kernel_rfl) (fun _ _ _ h => h) (Or.inl ⟨by rfl, ?_⟩) hHeld ?_
          rotate_left
          · (intro W hSw; (try dsimp only at hSw); (try simp only [List.getElem_toArray, List.getElem_cons_succ, List.getElem_cons_zero]); go_simp; try with_reducible rfl)
          try simp only [Act.put, List.getElem_toArray, List.getElem_cons_succ, List.getElem_cons_zero, List.setIfInBounds_toArray, List.set_cons_zero, List.set_cons_succ]
          refine wpAnyH_take (i := 4) (v := ?_) rfl (by kernel_rfl) (by kernel_rfl) (by kernel_rfl) (fun _ _ _ h => h) (Or.inl ⟨by rfl, ?_⟩) hHeld ?_
          rotate_left
          · (intro W hSw; (try dsimp only at hSw); (try simp only [List.getElem_toArray, List.getElem_cons_succ, List.getElem_cons_zero]); go_simp; try with_reducible rfl)
          try simp only [Act.put, List.getElem_toArray, List.getElem_cons_succ, List.getElem_cons_zero, List.setIfInBounds_toArray, List.set_cons_zero, List.set_cons_succ]
          refine wpAnyH_take (i := 5) (v := ?_) rfl (by kernel_rfl) (by kernel_rfl) (by kernel_rfl) (fun _ _ _ h => h) (Or.inl ⟨by rfl, ?_⟩) hHeld ?_
          rotate_left
          · (intro W hSw; (try dsimp only at hSw); (try simp only [List.getElem_toArray, List.getElem_cons_succ, List.getElem_cons_zero]); go_simp; try with_reducible rfl)
          try simp only [Act.put, List.getElem_toArray, List.getElem_cons_succ, List.getElem_cons_zero, List.setIfInBounds_toArray, List.set_cons_zero, List.set_cons_succ]
          refine wpAnyH_take (i := 6) (v := ?_) rfl (by kernel_rfl) (by kernel_rfl) (by kernel_rfl) (fun _ _ _ h => h) (Or.inl ⟨by rfl, ?_⟩) hHeld ?_
          rotate_left
          · (intro W hSw; (try dsimp only at hSw); (try simp only [List.getElem_toArray, List.getElem_cons_succ, List.getElem_cons_zero]); go_simp; try with_reducible rfl)
          try simp only [Act.put, List.getElem_toArray, List.getElem_cons_succ, List.getElem_cons_zero, List.setIfInBounds_toArray, List.set_cons_zero, List.set_cons_succ]
          refine wpAnyH_take (i := 7) (v := ?_) rfl (by kernel_rfl) (by kernel_rfl) (by kernel_rfl) (fun _ _ _ h => h) (Or.inl ⟨by rfl, ?_⟩) hHeld ?_
          rotate_left
          · (intro W hSw; (try dsimp only at hSw); (try simp only [List.getElem_toArray, List.getElem_cons_succ, List.getElem_cons_zero]); go_simp; try with_reducible rfl)
          try simp only [Act.put, List.getElem_toArray, List.getElem_cons_succ, List.getElem_cons_zero, List.setIfInBounds_toArray, List.set_cons_zero, List.set_cons_succ]
          refine wpAnyH_take (i := 8) (v := ?_) rfl (by kernel_rfl) (by kernel_rfl) (by kernel_rfl) (fun _ _ _ h => h) (Or.inl ⟨by rfl, ?_⟩) hHeld ?_
          rotate_left
          · (intro W hSw; (try dsimp only at hSw); (try simp only [List.getElem_toArray, List.getElem_cons_succ, List.getElem_cons_zero]); go_simp; try with_reducible rfl)
          try simp only [Act.put, List.getElem_toArray, List.getElem_cons_succ, List.getElem_cons_zero, List.setIfInBounds_toArray, List.set_cons_zero, List.set_cons_succ]
          refine wpAnyH_take (i := 9) (v := ?_) rfl (by kernel_rfl) (by kernel_rfl) (by kernel_rfl) (fun _ _ _ h => h) (Or.inl ⟨by rfl, ?_⟩) hHeld ?_
          rotate_left
          · (intro W hSw; (try dsimp only at hSw); (try simp only [List.getElem_toArray, List.getElem_cons_succ, List.getElem_cons_zero]); go_simp; try with_reducible rfl)
          try simp only [Act.put, List.getElem_toArray, List.getElem_cons_succ, List.getElem_cons_zero, List.setIfInBounds_toArray, List.set_cons_zero, List.set_cons_succ]
          refine wpAnyH_take (i := 10) (v := ?_) rfl (by kernel_rfl) (by kernel_rfl) (by kernel_rfl) (fun _ _ _ h => h) (Or.inl ⟨by rfl, ?_⟩) hHeld ?_
          rotate_left
          · (intro W hSw; (try dsimp only at hSw); (try simp only [List.getElem_toArray, List.getElem_cons_succ, List.getElem_cons_zero]); go_simp; try with_reducible rfl)
          try simp only [Act.put, List.getElem_toArray, List.getElem_cons_succ, List.getElem_cons_zero, List.setIfInBounds_toArray, List.set_cons_zero, List.set_cons_succ]
          refine wpAnyH_take (i := 11) (v := ?_) rfl (by kernel_rfl) (by kernel_rfl) (by kernel_rfl) (fun _ _ _ h => h) (Or.inl ⟨by rfl, ?_⟩) hHeld ?_
          rotate_left
          · (intro W hSw; (try dsimp only at hSw); (try simp only [List.getElem_toArray, List.getElem_cons_succ, List.getElem_cons_zero]); go_simp; try with_reducible rfl)
          try simp only [Act.put, List.getElem_toArray, List.getElem_cons_succ, List.getElem_cons_zero, List.setIfInBounds_toArray, List.set_cons_zero, List.set_cons_succ]
          refine wpAnyH_take (i := 12) (v := ?_) rfl (by kernel_rfl) (by kernel_rfl) (by kernel_rfl) (fun _ _ _ h => h) (Or.inl ⟨by rfl, ?_⟩) hHeld ?_
          rotate_left
          · (intro W hSw; (try dsimp only at hSw); (try simp only [List.getElem_toArray, List.getElem_cons_succ, List.getElem_cons_zero]); go_simp; try with_reducible rfl)
          try simp only [Act.put, List.getElem_toArray, List.getElem_cons_succ, List.getElem_cons_zero, List.setIfInBounds_toArray, List.set_cons_zero, List.set_cons_succ]
          refine wpAnyH_take (i := 13) (v := ?_) rfl (by kernel_rfl) (by kernel_rfl) (by kernel_rfl) (fun _ _ _ h => h) (Or.inl ⟨by rfl, ?_⟩) hHeld ?_
          rotate_left
          · (intro W hSw; (try dsimp only at hSw); (try simp only [List.getElem_toArray, List.getElem_cons_succ, List.getElem_cons_zero]); go_simp; try with_reducible rfl)
          try simp only [Act.put, List.getElem_toArray, List.getElem_cons_succ, List.getElem_cons_zero, List.setIfInBounds_toArray, List.set_cons_zero, List.set_cons_succ]
          refine wpAnyH_take (i := 14) (v := ?_) rfl (by kernel_rfl) (by kernel_rfl) (by kernel_rfl) (fun _ _ _ h => h) (Or.inl ⟨by rfl, ?_⟩) hHeld ?_
          rotate_left
          · (intro W hSw; (try dsimp only at hSw); (try simp only [List.getElem_toArray, List.getElem_cons_succ, List.getElem_cons_zero]); go_simp; try with_reducible rfl)
          try simp only [Act.put, List.getElem_toArray, List.getElem_cons_succ, List.getElem_cons_zero, List.setIfInBounds_toArray, List.set_cons_zero, List.set_cons_succ]
          refine wpAnyH_take (i := 15) (v := ?_) rfl (by kernel_rfl) (by kernel_rfl) (by kernel_rfl) (fun _ _ _ h => h) (Or.inl ⟨by rfl, ?_⟩) hHeld ?_
          rotate_left
          · (intro W hSw; (try dsimp only at hSw); (try simp only [List.getElem_toArray, List.getElem_cons_succ, List.getElem_cons_zero]); go_simp; try with_reducible rfl)
          try simp only [Act.put, List.getElem_toArray, List.getElem_cons_succ, List.getElem_cons_zero, List.setIfInBounds_toArray, List.set_cons_zero, List.set_cons_succ]
          refine wpAnyH_take (i := 16) (v := ?_) rfl (by kernel_rfl) (by kernel_rfl) (by kernel_rfl) (fun _ _ _ h => h) (Or.inl ⟨by rfl, ?_⟩) hHeld ?_
          rotate_left
          · (intro W hSw; (try dsimp only at hSw); (try simp only [List.getElem_toArray, List.getElem_cons_succ, List.getElem_cons_zero]); go_simp; try with_reducible rfl)
          try simp only [Act.put, List.getElem_toArray, List.getElem_cons_succ, List.getElem_cons_zero, List.setIfInBounds_toArray, List.set_cons_zero, List.set_cons_succ]
          refine wpAnyH_take (i := 17) (v := ?_) rfl (by kernel_rfl) (by kernel_rfl) (by kernel_rfl) (fun _ _ _ h => h) (Or.inl ⟨by rfl, ?_⟩) hHeld ?_
          rotate_left
          · (intro W hSw; (try dsimp only at hSw); (try simp only [List.getElem_toArray, List.getElem_cons_succ, List.getElem_cons_zero]); go_simp; try with_reducible rfl)
          try simp only [Act.put, List.getElem_toArray, List.getElem_cons_succ, List.getElem_cons_zero, List.setIfInBounds_toArray, List.set_cons_zero, List.set_cons_succ]
          refine wpAnyH_take (i := 18) (v := ?_) rfl (by kernel_rfl) (by kernel_rfl) (by kernel_rfl) (fun _ _ _ h => h) (Or.inl ⟨by rfl, ?_⟩) hHeld ?_
          rotate_left
          · (intro W hSw; (try dsimp only at hSw); (try simp only [List.getElem_toArray, List.getElem_cons_succ, List.getElem_cons_zero]); go_simp; try with_reducible rfl)
          try simp only [Act.put, List.getElem_toArray, List.getElem_cons_succ, List.getElem_cons_zero, List.setIfInBounds_toArray, List.set_cons_zero, List.set_cons_succ]
          refine wpAnyH_done (by kernel_rfl) ?_ _
          go_wp2_with (fail)
          go_roundw
          case rel =>
            refine ⟨k + 1, _, _, by omega, by go_num, ?_, HST.out, ?_⟩
            · rfl
            · exact F2.out.drew
          case measure => simp [intOf] <;> omega
        · obtain rfl : k = nb := by omega
          have hml := hC.1
          have hD := hF.get (g := w.heap.size) (t := 35) (cs := us m) (by simp)
          have hf := hD.frozen (j + k)
          obtain ⟨d, hd⟩ : ∃ d, d = m.getD (j + k) 0 := ⟨_, rfl⟩
          have cdw : wr.cell? ⟨w.heap.size, j + k, none⟩ = some (.int .u64 (d : Int)) := by rw [hD.cell, us_at (x := d) (by rw [hd, List.getD, List.getElem?_eq_getElem (by rw [hml, HN.out]; omega)]; rfl)]
          have hre := row_end_ (n := N) (a := la) (b := lb) (i := j) (l := m) (c := cc) (by rw [HL2.out, HN.out]; omega) (by rw [HL.out]; exact hlt) (by rw [HL2.out, ← HX.out, ← HV.out]; exact hC)
          rw [HL2.out] at hre
          have f2 := hF.setHead (by simp) (by simp) (j + k) (.int .u64 (cc : Int)) (by omega)
          rw [us_set] at f2
          have b0 : IntKind.i64.wrap ((j : Int) + (k : Int)) = ((j + k : Nat) : Int) := by rw [IntKind.wrap_i64]; omega
          have bjk : j + k < N := by rw [HN.out]; omega
          obtain ⟨jk, hjk⟩ : ∃ q, q = j + k := ⟨_, rfl⟩
          rw [← hjk] at b0 bjk hf cdw f2 hre
          have HRE := Lib.hid hre
          have F2 := Lib.hid f2
          clear hre f2 hF hC hD hml hjk hd
          go_wp2_with (fail)
          go_roundw
          case rel =>
            refine ⟨j + 1, _, by omega, by go_num, HRE.out, ?_⟩
            exact F2.out
          case measure => simp [intOf] <;> omega
    · obtain rfl : j = na := by omega
      have hall := row_all (a := la) (b := lb) (by rw [HL.out]; exact hC)
      have kd := hF.get (g := w.heap.size) (t := 35) (cs := us l) (by simp)
      have hbl := hF.below
      have HALL := Lib.hid hall
      have KD := Lib.hid kd
      have HBL := Lib.hid hbl
      clear hall kd hbl hF hC
      go_wp2_with (fail)
      go_ret
      exact ⟨l, rfl, HALL.out.1, HALL.out.2.1, HALL.out.2.2, KD.out, HBL.out⟩
end Go.Proofs.YtagifgadcbhinaaDoor
