/- The chapter's rows: 'known' answers true. -/
import Derived.Test.YtagifgadcbhinaaDoorHj
import Derived.Lib.SlBytesConst
namespace Go.Proofs.YtagifgadcbhinaaDoor
set_option linter.unusedVariables false
set_option linter.unusedSimpArgs false
open Go Go.RowKit

/-- A call that answers a Boolean, whatever it makes. -/
def BPost (b : Bool) (w : World) (e : Ending) (w' : World) : Prop := e = .returned (.bool b) ∧ Below w.heap.size w w'
theorem abc_at : hashN [97, 98, 99] = 221 :: 175 :: 53 :: 161 :: (hashN [97, 98, 99]).drop 4 := by
  conv => lhs; rw [← List.take_append_drop 4 (hashN [97, 98, 99]), abc]
  rfl
theorem hashN_len (X : List Nat) : (hashN X).length = 64 := rfl
theorem bs_abc {W : World} {g B : Nat} (h : W.heap[g]? = some (.cells #[.int .u8 97, .int .u8 98, .int .u8 99] 5 (3, 4))) (hB : g < B) : BS W B (some ⟨g, 0, none⟩) 3 3 [97, 98, 99] :=
  ⟨rfl, Nat.le_refl _, (by intro e; cases e), fun _ => ⟨g, 0, rfl, hB, fun j x hx => by
    rw [Nat.zero_add, cell_of_row W g j _ 5 (3, 4) h]
    rcases j with _ | _ | _ | j
    · injection hx with hx; subst hx; rfl
    · injection hx with hx; subst hx; rfl
    · injection hx with hx; subst hx; rfl
    · simp at hx⟩⟩
theorem rs_abc {W : World} {g k B : Nat} (h : W.heap[g]? = some (.cells #[.int .u8 97, .int .u8 98, .int .u8 99] 5 (3, 4))) (h2 : Blk W k 22 #[.slice (some ⟨g, 0, none⟩) 3 3]) (hB : g < B) (hB2 : k < B) : RS W B (some ⟨k, 0, none⟩) 1 1 [[97, 98, 99]] :=
  ⟨rfl, fun _ => ⟨k, 0, rfl, hB2, fun j l hl => by
    rcases j with _ | j
    · have e : l = [97, 98, 99] := by simpa using hl.symm
      rw [e]
      exact ⟨_, 3, 3, by rw [h2.cell]; rfl, bs_abc h hB⟩
    · simp at hl⟩⟩
theorem nc8 (x : Nat) : nc .u8 x = .int .u8 (x : Int) := rfl
attribute [local irreducible] hashN hashS z64
set_option maxRecDepth 100000 in
set_option maxHeartbeats 4000000 in
theorem lknown_any (w : World) (hp : PM w) : Calls Tryd.prog 5 #[] w (BPost true w) := by
  have f0 := ((Fr.start w).pass (.cells #[.int .u8 97, .int .u8 98, .int .u8 99] 5 (3, 4))).row #[.slice (some ⟨w.heap.size, 0, none⟩) 3 3] 22 (g := w.heap.size + 1) (by simp)
  have hg0 : ((w.alloc (.cells #[.int .u8 97, .int .u8 98, .int .u8 99] 5 (3, 4))).alloc (.cells #[.slice (some ⟨w.heap.size, 0, none⟩) 3 3] 22)).heap[w.heap.size]? = some (.cells #[.int .u8 97, .int .u8 98, .int .u8 99] 5 (3, 4)) :=
    (Below.heap_alloc _ _ w.heap.size (by simp)).trans (heap_alloc_new w _)
  have hrs := rs_abc (B := w.heap.size + 2) hg0 (f0.get (g := w.heap.size + 1) (t := 22) (cs := #[.slice (some ⟨w.heap.size, 0, none⟩) 3 3]) (by simp)) (by omega) (by omega)
  have kc := fun (w : World) (C : Array Value) (n c : Nat) => Lib.run_convert_bytes_const (P := Tryd.prog) w 22 5 C n c Tryd.underlying22 Tryd.underlying5
  have hsum := sum_any (some ⟨w.heap.size + 1, 0, none⟩) 1 1 (w.heap.size + 2) [[97, 98, 99]] _ (f0.pm hp) hrs (by simp) (by simp) (by omega)
  have hz64 : ∀ W : World, (zeroValue 27).run Tryd.prog W = .ok (.agg (ncs .u8 z64)) W := zero_long
  obtain ⟨R, hR⟩ : ∃ R, R = hashN (bn [[97, 98, 99]].flatten) := ⟨_, rfl⟩
  rw [← hR] at hsum
  have hR2 : R = hashN [97, 98, 99] := hR
  have hRl : R.length = 64 := by rw [hR2]; exact hashN_len _
  have hR3 : R = 221 :: 175 :: 53 :: 161 :: R.drop 4 := by rw [hR2]; exact abc_at
  have q0 : (ncs .u8 R)[0]? = some (.int .u8 221) := by rw [ncs_get, hR3]; rfl
  have q1 : (ncs .u8 R)[1]? = some (.int .u8 175) := by rw [ncs_get, hR3]; rfl
  have q2 : (ncs .u8 R)[2]? = some (.int .u8 53) := by rw [ncs_get, hR3]; rfl
  have q3 : (ncs .u8 R)[3]? = some (.int .u8 161) := by rw [ncs_get, hR3]; rfl
  have HSUM := Lib.hid hsum
  have F0 := Lib.hid f0
  have HRL := Lib.hid hRl
  clear hsum f0 hrs hg0 hR hR2 hR3 hp hRl
  go_enter Tryd.func5, Tryd.ntmps5
  go_wp2_with (fail)
  refine HSUM.out.mono ?_
  rintro e v1 ⟨rfl, hb⟩
  have f1 := F0.out.ext hb
  have hsz := f1.size
  clear kc
  have ka : Blk (v1.alloc (.cells (ncs .u8 z64) 27)) v1.heap.size 27 (ncs .u8 z64) := Blk.new _ _ _
  have kc := ka.setRow_same (ncs .u8 R)
  have hbl := below_setRow (f1.below.alloc hsz (.cells (ncs .u8 z64) 27)) hsz (ncs .u8 R)
  have c0 := (kc.cell 0).trans q0
  have c1 := (kc.cell 1).trans q1
  have c2 := (kc.cell 2).trans q2
  have c3 := (kc.cell 3).trans q3
  have KA := Lib.hid ka
  have HBL := Lib.hid hbl
  have HSZ := Lib.hid (show (ncs .u8 z64).size = (ncs .u8 R).size by rw [ncs_size, ncs_size, z64_len, HRL.out])
  have HI := Lib.hid (show (Tryd.prog.info? 27).map (·.size) = some (ncs .u8 R).size by rw [ncs_size, HRL.out]; exact size_long)
  clear hb f1 ka kc hbl F0 q0 q1 q2 q3 HSUM
  go_wp2_with (first | (refine wpList_store_row rfl 27 (.tmp 1) (.tmp 5) rfl (v1.heap.size) (ncs .u8 R) rfl rfl 27 _ KA.out HI.out HSZ.out (ncs_one _ _) ?_))
  go_ret
  exact ⟨rfl, HBL.out⟩
end Go.Proofs.YtagifgadcbhinaaDoor
