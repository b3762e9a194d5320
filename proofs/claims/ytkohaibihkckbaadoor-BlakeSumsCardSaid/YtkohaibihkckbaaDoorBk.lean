/- The chapter's row: 'known' answers true, by what package blake's Sum answers (hSum). -/
import Derived.Test.YtkohaibihkckbaaDoorBs
import Derived.Lib.SlBytesConst
namespace Go.Proofs.YtkohaibihkckbaaDoor
set_option linter.unusedVariables false
set_option linter.unusedSimpArgs false
open Go Go.RowKit

theorem bs_abcB {W : World} {g B : Nat} (h : W.heap[g]? = some (.cells #[.int .u8 97, .int .u8 98, .int .u8 99] 5 (3, 4))) (hB : g < B) : BS W B (some ⟨g, 0, none⟩) 3 3 [97, 98, 99] :=
  ⟨rfl, Nat.le_refl _, (by intro e; cases e), fun _ => ⟨g, 0, rfl, hB, fun j x hx => by
    rw [Nat.zero_add, cell_of_row W g j _ 5 (3, 4) h]
    rcases j with _ | _ | _ | j
    · injection hx with hx; subst hx; rfl
    · injection hx with hx; subst hx; rfl
    · injection hx with hx; subst hx; rfl
    · simp at hx⟩⟩
theorem rs_abcB {W : World} {g k B : Nat} (h : W.heap[g]? = some (.cells #[.int .u8 97, .int .u8 98, .int .u8 99] 5 (3, 4))) (h2 : Blk W k 22 #[.slice (some ⟨g, 0, none⟩) 3 3]) (hB : g < B) (hB2 : k < B) : RS W B (some ⟨k, 0, none⟩) 1 1 [[97, 98, 99]] :=
  ⟨rfl, fun _ => ⟨k, 0, rfl, hB2, fun j l hl => by
    rcases j with _ | j
    · have e : l = [97, 98, 99] := by simpa using hl.symm
      rw [e]
      exact ⟨_, 3, 3, by rw [h2.cell]; rfl, bs_abcB h hB⟩
    · simp at hl⟩⟩
theorem abc_at : hashB [97, 98, 99] 0 = 80 ∧ hashB [97, 98, 99] 1 = 140 ∧ hashB [97, 98, 99] 2 = 94 ∧ hashB [97, 98, 99] 3 = 140 := by
  have h := known_hash
  simp only [List.cons.injEq] at h
  exact ⟨h.1, h.2.1, h.2.2.1, h.2.2.2.1⟩
theorem zero_key (W : World) : (zeroValue 27).run Tryd.prog W = .ok (.agg (bvs (rb 32 b0s))) W := by kernel_rfl
theorem key_cell (f : Nat → UInt8) {i : Nat} (h : i < 32) {x : UInt8} (hx : f i = x) : (bvs (rb 32 f))[i]? = some (.int .u8 (x.toNat : Int)) := by
  rw [bvs_get, rb_get h, hx]
  rfl
attribute [local irreducible] hashB
set_option maxRecDepth 100000 in
set_option maxHeartbeats 4000000 in
theorem lknown_any (w : World)
    (hSum : ∀ (A : Option Addr) (n c B : Nat) (L : List (List UInt8)) (W : World), Below w.heap.size w W → RS W B A n c L → B ≤ W.heap.size → L.flatten.length ≤ 100000 → L.length ≤ 1000 → Calls Tryd.prog 6 #[.slice A n c] W (fun rr w' => rr = .returned (.agg (bvs (rb 32 (hashB L.flatten)))) ∧ Below W.heap.size W w')) :
    Calls Tryd.prog 5 #[] w (BPost true w) := by
  have f0 := ((Fr.start w).pass (.cells #[.int .u8 97, .int .u8 98, .int .u8 99] 5 (3, 4))).row #[.slice (some ⟨w.heap.size, 0, none⟩) 3 3] 22 (g := w.heap.size + 1) (by simp)
  have hg0 : ((w.alloc (.cells #[.int .u8 97, .int .u8 98, .int .u8 99] 5 (3, 4))).alloc (.cells #[.slice (some ⟨w.heap.size, 0, none⟩) 3 3] 22)).heap[w.heap.size]? = some (.cells #[.int .u8 97, .int .u8 98, .int .u8 99] 5 (3, 4)) :=
    (Below.heap_alloc _ _ w.heap.size (by simp)).trans (heap_alloc_new w _)
  have hrs := rs_abcB (B := w.heap.size + 2) hg0 (f0.get (g := w.heap.size + 1) (t := 22) (cs := #[.slice (some ⟨w.heap.size, 0, none⟩) 3 3]) (by simp)) (by omega) (by omega)
  have kc := fun (w : World) (C : Array Value) (n c : Nat) => Lib.run_convert_bytes_const (P := Tryd.prog) w 22 5 C n c Tryd.underlying22 Tryd.underlying5
  have hsum := hSum (some ⟨w.heap.size + 1, 0, none⟩) 1 1 (w.heap.size + 2) [[97, 98, 99]] _ f0.below hrs (by simp) (by simp) (by simp)
  have hz := zero_key
  have q0 := key_cell (hashB [97, 98, 99]) (i := 0) (by decide) abc_at.1
  have q1 := key_cell (hashB [97, 98, 99]) (i := 1) (by decide) abc_at.2.1
  have q2 := key_cell (hashB [97, 98, 99]) (i := 2) (by decide) abc_at.2.2.1
  have q3 := key_cell (hashB [97, 98, 99]) (i := 3) (by decide) abc_at.2.2.2
  obtain ⟨R, hR⟩ : ∃ R, R = bvs (rb 32 (hashB [97, 98, 99])) := ⟨_, rfl⟩
  obtain ⟨Z, hZ⟩ : ∃ Z, Z = bvs (rb 32 b0s) := ⟨_, rfl⟩
  have hZR : Z.size = R.size := by rw [hZ, hR]; exact size_rb 32 _ _
  have hI : (Tryd.prog.info? 27).map (·.size) = some R.size := by rw [hR]; exact info_key _
  have h1 : R.all (·.oneCell') = true := by rw [hR]; exact bvs_one _
  rw [show ([[97, 98, 99]] : List (List UInt8)).flatten = [97, 98, 99] from rfl, ← hR] at hsum
  rw [← hR] at q0 q1 q2 q3
  rw [← hZ] at hz
  have HSUM := Lib.hid hsum
  have F0 := Lib.hid f0
  clear hsum f0 hrs hg0 hR hZ hSum
  go_enter Tryd.func5, Tryd.ntmps5
  go_wp2_with (fail)
  refine HSUM.out.mono ?_
  rintro e v1 ⟨rfl, hb⟩
  have f1 := F0.out.ext hb
  have hsz := f1.size
  clear kc
  have ka : Blk (v1.alloc (.cells Z 27)) v1.heap.size 27 Z := Blk.new _ _ _
  have kc := ka.setRow_same R
  have hbl := below_setRow (f1.below.alloc hsz (.cells Z 27)) hsz R
  have c0 := (kc.cell 0).trans q0
  have c1 := (kc.cell 1).trans q1
  have c2 := (kc.cell 2).trans q2
  have c3 := (kc.cell 3).trans q3
  have KA := Lib.hid ka
  have HBL := Lib.hid hbl
  have HSZ := Lib.hid hZR
  have HI := Lib.hid hI
  have H1 := Lib.hid h1
  clear hb f1 ka kc hbl F0 q0 q1 q2 q3 HSUM hZR hI h1
  go_wp2_with (first | (refine wpList_store_row rfl 27 (.tmp 1) (.tmp 5) rfl (v1.heap.size) R rfl rfl 27 _ KA.out HI.out HSZ.out H1.out ?_))
  go_ret
  exact ⟨rfl, HBL.out⟩
end Go.Proofs.YtkohaibihkckbaaDoor
