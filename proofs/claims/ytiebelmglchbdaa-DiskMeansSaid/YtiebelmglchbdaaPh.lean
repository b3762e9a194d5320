/- Package disk (layer 14): its methods, whatever a disk is (PO). -/
import Derived.Test.YtiebelmglchbdaaPg
namespace Go.Proofs.Ytiebelmglchbdaa
set_option linter.unusedVariables false
set_option linter.unusedSimpArgs false
set_option maxRecDepth 100000
open Go Go.RowKit

section
variable {p : Nat} {D : Dk} {r hh : Hep}
theorem PO.ok (h : PO p D r) : D.ok := by obtain ⟨X, _, hX⟩ := h; exact hX.dk
theorem PO.nb (h : PO p D r) : 0 < D.B.length ∧ D.B.length ≤ 8192 := by obtain ⟨X, _, hX⟩ := h; exact hX.nb
theorem PO.nl (h : PO p D r) : D.L.length ≤ 10000 := by obtain ⟨X, _, hX⟩ := h; exact hX.nl
theorem po_new (n : Nat) (hn : 1 ≤ n ∧ n ≤ 8192) (w0 w : World) (K : Kn w0 w hh) : Calls Try.prog 12 #[.int .i64 ((n : Nat) : Int)] w (fun rr w' => ∃ i : Nat × Hep, rr = .returned (.tuple #[.pointer (some ⟨i.1, 0, none⟩), .int .i64 0]) ∧ PO i.1 (dNew n) i.2 ∧ Kn w0 w' (i.2 ++ hh)) := new_yes n hn w0 w K
theorem po_blocks (h : PO p D r) (w0 w : World) (K : Kn w0 w (r ++ hh)) : Calls Try.prog 31 #[.pointer (some ⟨p, 0, none⟩)] w (fun rr w' => rr = .returned (.int .i64 ((D.B.length : Nat) : Int)) ∧ Kn w0 w' (r ++ hh)) := by
  obtain ⟨X, rfl, hX⟩ := h
  exact blocks_x hX w0 w K
theorem po_dead (h : PO p D r) (w0 w : World) (K : Kn w0 w (r ++ hh)) : Calls Try.prog 22 #[.pointer (some ⟨p, 0, none⟩)] w (fun rr w' => rr = .returned (.bool D.dead) ∧ Kn w0 w' (r ++ hh)) := by
  obtain ⟨X, rfl, hX⟩ := h
  exact dead_x hX w0 w K
theorem po_unsynced (h : PO p D r) (w0 w : World) (K : Kn w0 w (r ++ hh)) : Calls Try.prog 21 #[.pointer (some ⟨p, 0, none⟩)] w (fun rr w' => rr = .returned (.int .i64 ((D.L.length : Nat) : Int)) ∧ Kn w0 w' (r ++ hh)) := by
  obtain ⟨X, rfl, hX⟩ := h
  exact unsynced_x hX w0 w K
theorem po_read (h : PO p D r) (n : Nat) (hn : n < D.B.length) (w0 w : World) (K : Kn w0 w (r ++ hh)) : Calls Try.prog 18 #[.pointer (some ⟨p, 0, none⟩), .int .i64 ((n : Nat) : Int)] w (fun rr w' => ∃ g : Nat, rr = .returned (.tuple #[.slice (some ⟨g, 0, none⟩) 512 512, .int .i64 0]) ∧ True ∧ Kn w0 w' ((g, .ty 77, bvs (readB D n)) :: (r ++ hh))) := by
  obtain ⟨X, rfl, hX⟩ := h
  refine (read_yes n hn hX w0 w K).mono ?_
  rintro rr w' ⟨g, e, K⟩
  exact ⟨g, e, trivial, K⟩
theorem po_read_no (h : PO p D r) (n : Int) (hn : ¬ (0 ≤ n ∧ n < (D.B.length : Int))) (w0 w : World) (K : Kn w0 w (r ++ hh)) : Calls Try.prog 18 #[.pointer (some ⟨p, 0, none⟩), .int .i64 n] w (fun rr w' => rr = .returned (.tuple #[.slice none 0 0, .int .i64 2]) ∧ Kn w0 w' (r ++ hh)) := by
  obtain ⟨X, rfl, hX⟩ := h
  exact read_no n (decide_eq_false hn) hX w0 w K
theorem po_fuse (h : PO p D r) (n : Int) (hn : -9223372036854775808 ≤ n ∧ n < 9223372036854775808) (w0 w : World) (K : Kn w0 w (r ++ hh)) : Calls Try.prog 26 #[.pointer (some ⟨p, 0, none⟩), .int .i64 n] w (fun rr w' => ∃ r', rr = .returned (.int .i64 (dFuse D n).2) ∧ PO p (dFuse D n).1 r' ∧ Kn w0 w' (r' ++ hh)) := by
  obtain ⟨X, rfl, hX⟩ := h
  unfold dFuse
  by_cases h0 : n < 0
  · rw [if_pos h0]
    refine (fuse_no n (decide_eq_true h0) hX w0 w K).mono ?_
    rintro rr w' ⟨e, K⟩
    exact ⟨_, e, ⟨X, rfl, hX⟩, K⟩
  · rw [if_neg h0]
    exact fuse_yes n (by omega) hn.2 hX w0 w K
theorem po_sync (h : PO p D r) (w0 w : World) (K : Kn w0 w (r ++ hh)) : Calls Try.prog 27 #[.pointer (some ⟨p, 0, none⟩)] w (fun rr w' => ∃ r', rr = .returned (.int .i64 (dSync D).2) ∧ PO p (dSync D).1 r' ∧ Kn w0 w' (r' ++ hh)) := by
  obtain ⟨X, rfl, hX⟩ := h
  cases hd : D.dead with
  | false => exact sync_live hd hX w0 w K
  | true =>
    have e : dSync D = (D, 14) := by
      have e1 : dStep D = (D, 14) := by unfold dStep; rw [if_pos hd]
      unfold dSync
      rw [e1, if_neg (by decide : ¬ (14 : Int) = 0)]
    rw [e]
    refine (sync_dead hd hX w0 w K).mono ?_
    rintro rr w' ⟨e, K⟩
    exact ⟨_, e, ⟨X, rfl, hX⟩, K⟩
theorem po_crash (w0 : World) {Ap : Option Addr} {np cp : Nat} {picks : List Int} (h : PO p D r) (hP : PK w0 hh Ap np picks) (hnp : np < 9223372036854775808) (w : World) (K : Kn w0 w (r ++ hh)) : Calls Try.prog 23 #[.pointer (some ⟨p, 0, none⟩), .slice Ap np cp] w (fun rr w' => ∃ r', rr = .returned (.int .i64 0) ∧ PO p (dCrash D picks) r' ∧ Kn w0 w' (r' ++ hh)) := by
  obtain ⟨X, rfl, hX⟩ := h
  exact crash_x w0 hP hnp hX w K
theorem po_write (h : PO p D r) {gb cb : Nat} {b : List UInt8} (n : Int) (hbl : b.length < 9223372036854775808) (hb : (gb, .ty 5, bvs b) ∈ hh) (hl : D.L.length < 10000) (w0 w : World) (K : Kn w0 w (r ++ hh)) : Calls Try.prog 28 #[.pointer (some ⟨p, 0, none⟩), .int .i64 n, .slice (some ⟨gb, 0, none⟩) b.length cb] w (fun rr w' => ∃ r', rr = .returned (.int .i64 (dWrite D n b).2) ∧ PO p (dWrite D n b).1 r' ∧ Kn w0 w' (r' ++ hh)) := by
  obtain ⟨X, rfl, hX⟩ := h
  have same : ∀ {rr : Ending} {w' : World}, rr = .returned (.int .i64 2) ∧ Kn w0 w' (X.rows p D ++ hh) → ∃ r', rr = .returned (.int .i64 2) ∧ PO p D r' ∧ Kn w0 w' (r' ++ hh) := fun ⟨e, K⟩ => ⟨_, e, ⟨X, rfl, hX⟩, K⟩
  unfold dWrite
  by_cases hn : hasB D n
  · by_cases h5 : b.length = 512
    · rw [if_pos ⟨hn, h5⟩]
      unfold hasB at hn
      obtain ⟨m, rfl⟩ := Int.eq_ofNat_of_zero_le hn.1
      have hm : m < D.B.length := by omega
      rw [h5]
      cases hd : D.dead with
      | true =>
        have e1 : dStep D = (D, 14) := by unfold dStep; rw [if_pos hd]
        rw [e1, if_pos rfl]
        refine (write_dead m hm hd hX w0 w K).mono ?_
        rintro rr w' ⟨e, K⟩
        exact ⟨_, e, ⟨X, rfl, hX⟩, K⟩
      | false =>
        have e1 : (dStep D).2 ≠ 14 := by
          unfold dStep
          rw [if_neg (by rw [hd]; decide)]
          split
          · exact (by decide : (17 : Int) ≠ 14)
          · exact (by decide : (0 : Int) ≠ 14)
        rw [if_neg e1]
        obtain ⟨hB, _⟩ := step_same D
        have e2 : ({ (dStep D).1 with L := D.L ++ [((m : Int).toNat, b)] } : Dk) = Dk.mk D.B (D.L ++ [(m, b)]) (dStep D).1.fuse (dStep D).1.dead := by
          rw [Int.toNat_natCast]
          cases hq : dStep D with
          | mk a c =>
            rw [hq] at hB
            cases a
            simp only at hB
            rw [hB]
        rw [e2]
        exact write_yes m hm h5 hb hd hl hX w0 w K
    · rw [if_neg fun h => h5 h.2]
      unfold hasB at hn
      obtain ⟨m, rfl⟩ := Int.eq_ofNat_of_zero_le hn.1
      exact (write_no2 hbl m (by omega) (decide_eq_true (by omega)) hX w0 w K).mono fun rr w' h => same h
  · rw [if_neg fun h => hn h.1]
    exact (write_no1 hbl n (decide_eq_false hn) hX w0 w K).mono fun rr w' h => same h
theorem po_edit (h : PO p D r) (n k : Int) (x : UInt8) (w0 w : World) (K : Kn w0 w (r ++ hh)) : Calls Try.prog 30 #[.pointer (some ⟨p, 0, none⟩), .int .i64 n, .int .i64 k, bv x] w (fun rr w' => ∃ r', rr = .returned (.int .i64 (dEdit D n k x).2) ∧ PO p (dEdit D n k x).1 r' ∧ Kn w0 w' (r' ++ hh)) := by
  obtain ⟨X, rfl, hX⟩ := h
  have same : ∀ {rr : Ending} {w' : World}, rr = .returned (.int .i64 2) ∧ Kn w0 w' (X.rows p D ++ hh) → ∃ r', rr = .returned (.int .i64 2) ∧ PO p D r' ∧ Kn w0 w' (r' ++ hh) := fun ⟨e, K⟩ => ⟨_, e, ⟨X, rfl, hX⟩, K⟩
  by_cases hn : hasB D n
  · by_cases h0 : 0 ≤ k
    · by_cases h5 : k < 512
      · unfold hasB at hn
        obtain ⟨m, rfl⟩ := Int.eq_ofNat_of_zero_le hn.1
        obtain ⟨j, rfl⟩ := Int.eq_ofNat_of_zero_le h0
        have hm : m < D.B.length := by omega
        have hj : j < 512 := by omega
        rw [dEdit_yes hm hj]
        rcases hX.od with ⟨e1, _, e3, _⟩ | ⟨g, cap, cur, e1, e2, h1, h2, h3, h4⟩
        · exact edit_nil m j x hm hj e1 e3 hX w0 w K
        · injection e2 with e2 e4 e5
          subst e5
          exact edit_some m j x hm hj e1 e2 h1 h2 h3 h4 hX w0 w K
      · have e : dEdit D n k x = (D, 2) := by unfold dEdit; rw [if_neg fun h => h5 h.2.2]
        rw [e]
        exact (edit_no3 n k x (decide_eq_true hn) (decide_eq_false (by omega)) (decide_eq_true (by omega)) hX w0 w K).mono fun rr w' h => same h
    · have e : dEdit D n k x = (D, 2) := by unfold dEdit; rw [if_neg fun h => h0 h.2.1]
      rw [e]
      exact (edit_no2 n k x (decide_eq_true hn) (decide_eq_true (by omega)) hX w0 w K).mono fun rr w' h => same h
  · have e : dEdit D n k x = (D, 2) := by unfold dEdit; rw [if_neg fun h => hn h.1]
    rw [e]
    exact (edit_no1 n k x (decide_eq_false hn) hX w0 w K).mono fun rr w' h => same h
end
end Go.Proofs.Ytiebelmglchbdaa
