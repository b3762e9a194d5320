/- The document's disk (layer 14): its methods, whatever a disk is (RO); its own row, and the program's. -/
import Derived.Test.YtiebelmglchbdaaRe
import Derived.Test.YtiebelmglchbdaaRg
namespace Go.Proofs.Ytiebelmglchbdaa
set_option linter.unusedVariables false
set_option linter.unusedSimpArgs false
set_option maxRecDepth 100000
open Go Go.RowKit

section
variable {p : Nat} {D : Dk} {r hh : Hep}
theorem RO.ok (h : RO p D r) : D.ok := by obtain ⟨X, _, hX⟩ := h; exact hX.dk
theorem RO.nl (h : RO p D r) : D.L.length ≤ 10000 := by obtain ⟨X, _, hX⟩ := h; exact hX.nl
theorem RO.row (h : RO p D r) : ∃ (gB cB : Nat) (A : Option Addr) (cL : Nat), (p, .ty 67, rdC (.slice (some ⟨gB, 0, none⟩) D.B.length cB) (.slice A D.L.length cL) D.fuse D.dead) ∈ r := by
  obtain ⟨X, rfl, hX⟩ := h
  exact ⟨X.gB, X.capB, X.A, X.capL, List.mem_append_left _ List.mem_cons_self⟩
theorem PO.row (h : PO p D r) : ∃ (vM : Value) (A : Option Addr) (cp : Nat) (vQ : Value) (hf : Bool) (lf : Int), (p, .ty 58, dkC ((D.B.length : Nat) : Int) vM (.slice A D.L.length cp) vQ hf lf D.dead) ∈ r ∧ 0 < D.B.length := by
  obtain ⟨X, rfl, hX⟩ := h
  exact ⟨_, X.A, X.cap, _, _, _, List.mem_append_left _ List.mem_cons_self, hX.nb.1⟩
theorem ro_read (h : RO p D r) (n : Nat) (hn : n < D.B.length) (w0 w : World) (K : Kn w0 w (r ++ hh)) : Calls Try.prog 39 #[.pointer (some ⟨p, 0, none⟩), .int .i64 ((n : Nat) : Int)] w (fun rr w' => ∃ i : Nat × Nat × Array Value, rr = .returned (.tuple #[.slice (some ⟨i.1, 0, none⟩) 512 i.2.1, .int .i64 0]) ∧ US8 i.2.2 512 i.2.1 (readB D n) ∧ Kn w0 w' ((i.1, .ty 5, i.2.2) :: (r ++ hh))) := by
  obtain ⟨X, rfl, hX⟩ := h
  exact rread_yes n hn hX w0 w K
theorem ro_read_no (h : RO p D r) (n : Int) (hn : ¬ (0 ≤ n ∧ n < (D.B.length : Int))) (w0 w : World) (K : Kn w0 w (r ++ hh)) : Calls Try.prog 39 #[.pointer (some ⟨p, 0, none⟩), .int .i64 n] w (fun rr w' => rr = .returned (.tuple #[.slice none 0 0, .int .i64 2]) ∧ Kn w0 w' (r ++ hh)) := by
  obtain ⟨X, rfl, hX⟩ := h
  exact rread_no n (decide_eq_false hn) hX w0 w K
theorem ro_fuse (h : RO p D r) (n : Int) (hn : -9223372036854775808 ≤ n ∧ n < 9223372036854775808) (w0 w : World) (K : Kn w0 w (r ++ hh)) : Calls Try.prog 36 #[.pointer (some ⟨p, 0, none⟩), .int .i64 n] w (fun rr w' => ∃ r', rr = .returned (.int .i64 (dFuse D n).2) ∧ RO p (dFuse D n).1 r' ∧ Kn w0 w' (r' ++ hh)) := by
  obtain ⟨X, rfl, hX⟩ := h
  unfold dFuse
  by_cases h0 : n < 0
  · rw [if_pos h0]
    refine (rfuse_no n (decide_eq_true h0) hX w0 w K).mono ?_
    rintro rr w' ⟨e, K⟩
    exact ⟨_, e, ⟨X, rfl, hX⟩, K⟩
  · rw [if_neg h0]
    exact rfuse_yes n (by omega) hn.2 hX w0 w K
theorem ro_sync (h : RO p D r) (w0 w : World) (K : Kn w0 w (r ++ hh)) : Calls Try.prog 35 #[.pointer (some ⟨p, 0, none⟩)] w (fun rr w' => ∃ r', rr = .returned (.int .i64 (dSync D).2) ∧ RO p (dSync D).1 r' ∧ Kn w0 w' (r' ++ hh)) := by
  obtain ⟨X, rfl, hX⟩ := h
  by_cases hs : (dStep D).2 = 0
  · exact rsync_ok hs hX w0 w K
  · exact rsync_err hs hX w0 w K
theorem ro_crash (w0 : World) {Ap : Option Addr} {np cp : Nat} {picks : List Int} (h : RO p D r) (hP : PK w0 hh Ap np picks) (hnp : np < 9223372036854775808) (w : World) (K : Kn w0 w (r ++ hh)) : Calls Try.prog 37 #[.pointer (some ⟨p, 0, none⟩), .slice Ap np cp] w (fun rr w' => ∃ r', rr = .returned (.tuple #[]) ∧ RO p (dCrash D picks) r' ∧ Kn w0 w' (r' ++ hh)) := by
  obtain ⟨X, rfl, hX⟩ := h
  exact rcrash_x w0 hP hnp hX w K
theorem ro_write (h : RO p D r) {gb : Nat} {b : List UInt8} (n : Int) (hbl : b.length < 9223372036854775808) (hb : (gb, .ty 5, bvs b) ∈ hh) (hl : D.L.length < 10000) (w0 w : World) (K : Kn w0 w (r ++ hh)) : Calls Try.prog 34 #[.pointer (some ⟨p, 0, none⟩), .int .i64 n, .slice (some ⟨gb, 0, none⟩) b.length b.length] w (fun rr w' => ∃ r', rr = .returned (.int .i64 (dWrite D n b).2) ∧ RO p (dWrite D n b).1 r' ∧ Kn w0 w' (r' ++ hh)) := by
  obtain ⟨X, rfl, hX⟩ := h
  have same : ∀ {rr : Ending} {w' : World}, rr = .returned (.int .i64 2) ∧ Kn w0 w' (X.rows p D ++ hh) → ∃ r', rr = .returned (.int .i64 2) ∧ RO p D r' ∧ Kn w0 w' (r' ++ hh) := fun ⟨e, K⟩ => ⟨_, e, ⟨X, rfl, hX⟩, K⟩
  by_cases hn : hasB D n
  · by_cases h5 : b.length = 512
    · unfold hasB at hn
      obtain ⟨m, rfl⟩ := Int.eq_ofNat_of_zero_le hn.1
      rw [h5]
      exact rwrite_yes m (by omega) h5 hb hl hX w0 w K
    · have e : dWrite D n b = (D, 2) := by unfold dWrite; rw [if_neg fun h => h5 h.2]
      rw [e]
      unfold hasB at hn
      obtain ⟨m, rfl⟩ := Int.eq_ofNat_of_zero_le hn.1
      exact (rwrite_no2 hbl m (by omega) (decide_eq_true (by omega)) hX w0 w K).mono fun rr w' h => same h
  · have e : dWrite D n b = (D, 2) := by unfold dWrite; rw [if_neg fun h => hn h.1]
    rw [e]
    exact (rwrite_no1 hbl n (decide_eq_false hn) hX w0 w K).mono fun rr w' h => same h
theorem ro_edit (h : RO p D r) (n k : Int) (x : UInt8) (w0 w : World) (K : Kn w0 w (r ++ hh)) : Calls Try.prog 38 #[.pointer (some ⟨p, 0, none⟩), .int .i64 n, .int .i64 k, bv x] w (fun rr w' => ∃ r', rr = .returned (.int .i64 (dEdit D n k x).2) ∧ RO p (dEdit D n k x).1 r' ∧ Kn w0 w' (r' ++ hh)) := by
  obtain ⟨X, rfl, hX⟩ := h
  have same : ∀ {rr : Ending} {w' : World}, rr = .returned (.int .i64 2) ∧ Kn w0 w' (X.rows p D ++ hh) → ∃ r', rr = .returned (.int .i64 2) ∧ RO p D r' ∧ Kn w0 w' (r' ++ hh) := fun ⟨e, K⟩ => ⟨_, e, ⟨X, rfl, hX⟩, K⟩
  by_cases hn : hasB D n
  · by_cases h0 : 0 ≤ k
    · by_cases h5 : k < 512
      · unfold hasB at hn
        obtain ⟨m, rfl⟩ := Int.eq_ofNat_of_zero_le hn.1
        obtain ⟨j, rfl⟩ := Int.eq_ofNat_of_zero_le h0
        exact redit_yes m j x (by omega) (by omega) hX w0 w K
      · have e : dEdit D n k x = (D, 2) := by unfold dEdit; rw [if_neg fun h => h5 h.2.2]
        rw [e]
        exact (redit_no3 n k x (decide_eq_true hn) (decide_eq_false (by omega)) (decide_eq_true (by omega)) hX w0 w K).mono fun rr w' h => same h
    · have e : dEdit D n k x = (D, 2) := by unfold dEdit; rw [if_neg fun h => h0 h.2.1]
      rw [e]
      exact (redit_no2 n k x (decide_eq_true hn) (decide_eq_true (by omega)) hX w0 w K).mono fun rr w' h => same h
  · have e : dEdit D n k x = (D, 2) := by unfold dEdit; rw [if_neg fun h => hn h.1]
    rw [e]
    exact (redit_no1 n k x (decide_eq_false hn) hX w0 w K).mono fun rr w' h => same h
end
theorem does_oldAt {P : Program} {n : Nat} {w0 : World} {e : Env} {h : Hep} {Q : Exit → Act → World → Prop} {o : Oper} {t : TypeId} {x : Operand} {g f : Nat} {t' : Tid} {cs : Array Value} {v : Value} (ho : o.op = .load t x) (hx : sev e x = some (.pointer (some ⟨g, f, none⟩))) (hb : Blk w0 g t' cs) (hr : ∀ W, Blk W g t' cs → (Instr.loadAt t (.pointer (some ⟨g, f, none⟩))).run P W = .ok v W) : Does P Q n w0 e h o v := does_run fun a w H => by
  have hb2 := hb.below H.below hb.lt
  simp [execOp, ho, H.ev hx, hr w hb2, Result.andThen]
end Go.Proofs.Ytiebelmglchbdaa
