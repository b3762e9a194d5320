/- The walk of LadderLow. -/
import Derived.Test.YthlnnoajklmeiaaDoorLkw
import Derived.Test.YthlnnoajklmeiaaDoorRz
import Derived.Deep.MidRow
import Derived.Great.BuildSlice
import Derived.Deep.DeepCutAuto
import Derived.Deep.CutBlock
namespace Go.Proofs.YthlnnoajklmeiaaDoor
set_option linter.unusedVariables false
set_option linter.unusedSimpArgs false
open Go Go.RowKit

def fourC : Array Value := ks 0 ++ ks 1 ++ ks (PP - 1) ++ ks PP
def fourL : List (Nat × Value) := [(0, .agg #[.int .u8 0, .int .u8 0, .int .u8 0, .int .u8 0, .int .u8 0, .int .u8 0, .int .u8 0, .int .u8 0, .int .u8 0, .int .u8 0, .int .u8 0, .int .u8 0, .int .u8 0, .int .u8 0, .int .u8 0, .int .u8 0, .int .u8 0, .int .u8 0, .int .u8 0, .int .u8 0, .int .u8 0, .int .u8 0, .int .u8 0, .int .u8 0, .int .u8 0, .int .u8 0, .int .u8 0, .int .u8 0, .int .u8 0, .int .u8 0, .int .u8 0, .int .u8 0]), (1, .agg #[.int .u8 1, .int .u8 0, .int .u8 0, .int .u8 0, .int .u8 0, .int .u8 0, .int .u8 0, .int .u8 0, .int .u8 0, .int .u8 0, .int .u8 0, .int .u8 0, .int .u8 0, .int .u8 0, .int .u8 0, .int .u8 0, .int .u8 0, .int .u8 0, .int .u8 0, .int .u8 0, .int .u8 0, .int .u8 0, .int .u8 0, .int .u8 0, .int .u8 0, .int .u8 0, .int .u8 0, .int .u8 0, .int .u8 0, .int .u8 0, .int .u8 0, .int .u8 0]), (2, .agg (ks (PP - 1))), (3, .agg (ks PP))]
theorem key_info : ∃ ie, Tryd.prog.info? 23 = some ie ∧ ie.zero = some (.agg #[.int .u8 0, .int .u8 0, .int .u8 0, .int .u8 0, .int .u8 0, .int .u8 0, .int .u8 0, .int .u8 0, .int .u8 0, .int .u8 0, .int .u8 0, .int .u8 0, .int .u8 0, .int .u8 0, .int .u8 0, .int .u8 0, .int .u8 0, .int .u8 0, .int .u8 0, .int .u8 0, .int .u8 0, .int .u8 0, .int .u8 0, .int .u8 0, .int .u8 0, .int .u8 0, .int .u8 0, .int .u8 0, .int .u8 0, .int .u8 0, .int .u8 0, .int .u8 0]) ∧ ie.size = 32 := ⟨_, rfl, rfl, rfl⟩
theorem four_fill : Instr.fill (fun i => some (i * 32, 32)) ((Array.range (4 * 32)).map ((Value.agg #[.int .u8 0, .int .u8 0, .int .u8 0, .int .u8 0, .int .u8 0, .int .u8 0, .int .u8 0, .int .u8 0, .int .u8 0, .int .u8 0, .int .u8 0, .int .u8 0, .int .u8 0, .int .u8 0, .int .u8 0, .int .u8 0, .int .u8 0, .int .u8 0, .int .u8 0, .int .u8 0, .int .u8 0, .int .u8 0, .int .u8 0, .int .u8 0, .int .u8 0, .int .u8 0, .int .u8 0, .int .u8 0, .int .u8 0, .int .u8 0, .int .u8 0, .int .u8 0]).cells[· % (Value.agg #[.int .u8 0, .int .u8 0, .int .u8 0, .int .u8 0, .int .u8 0, .int .u8 0, .int .u8 0, .int .u8 0, .int .u8 0, .int .u8 0, .int .u8 0, .int .u8 0, .int .u8 0, .int .u8 0, .int .u8 0, .int .u8 0, .int .u8 0, .int .u8 0, .int .u8 0, .int .u8 0, .int .u8 0, .int .u8 0, .int .u8 0, .int .u8 0, .int .u8 0, .int .u8 0, .int .u8 0, .int .u8 0, .int .u8 0, .int .u8 0, .int .u8 0, .int .u8 0]).cells.size]!)) fourL = some fourC := by kernel_rfl
theorem wp_keys4 {o : Oper} {a : Act} {w : World} {K : Act → World → Prop} {Q : Exit → Act → World → Prop} (parts : Array (Nat × Operand)) (ho : o.op = .buildSlice 39 4 parts)
    (l : List (Nat × Value)) (hl : (parts.map fun (i, x) => (i, a.eval x)).toList = l) (hl4 : l = fourL) (h : K (a.put o.dst (.slice (some ⟨w.heap.size, 0, none⟩) 4 4)) (w.alloc (.cells fourC 23))) : o.wp Tryd.prog a w K Q := by
  obtain ⟨ie, h1, h2, h3⟩ := key_info
  refine wp_buildSlice 39 23 4 parts ho fourC ie _ Tryd.underlying39 h1 h2 (by rw [h3]; omega) (by rw [h3]; omega) ?_ h
  rw [hl, hl4, h3]
  exact four_fill
theorem four_at (A B C D : Array Value) (ha : A.size = 32) (hb : B.size = 32) (hc : C.size = 32) (hd : D.size = 32) (i : Nat) (hi : i < 32) :
    (A ++ B ++ C ++ D)[0 + i]? = A[i]? ∧ (A ++ B ++ C ++ D)[32 + i]? = B[i]? ∧ (A ++ B ++ C ++ D)[64 + i]? = C[i]? ∧ (A ++ B ++ C ++ D)[96 + i]? = D[i]? := by
  refine ⟨?_, ?_, ?_, ?_⟩
  · rw [Nat.zero_add, Array.getElem?_append_left (by simp; omega), Array.getElem?_append_left (by simp; omega), Array.getElem?_append_left (by omega)]
  · rw [Array.getElem?_append_left (by simp; omega), Array.getElem?_append_left (by simp; omega), Array.getElem?_append_right (by omega), ha, Nat.add_sub_cancel_left]
  · rw [Array.getElem?_append_left (by simp; omega), Array.getElem?_append_right (by simp; omega)]
    congr 1
    simp
    omega
  · rw [Array.getElem?_append_right (by simp; omega)]
    congr 1
    simp
    omega
/-- A key of the four is loaded. -/
theorem wpList_load_four {ops : Array Oper} {rest : List Oper} {op : Oper} {a : Act} {w : World} {Q : Exit → Act → World → Prop} (hgd : op.guard = none) (x : Operand) (ho : op.op = .load 23 x)
    (g o n : Nat) (hx : a.eval x = .pointer (some ⟨g, o, none⟩)) (hr : w.rangeAt g o (ks n).toList) (h : wpList Tryd.prog ops Q rest (a.put op.dst (.agg (ks n))) w) : wpList Tryd.prog ops Q (op :: rest) a w :=
  wpList_load_mid hgd 23 x ho g o hx (ks n).toList _ hr Tryd.underlying23 rfl (by rw [Array.length_toList]; exact info_ks n) h
theorem four_range {w : World} {g : Nat} {t : TypeId} (h : Blk w g t fourC) : w.rangeAt g 0 (ks 0).toList ∧ w.rangeAt g 32 (ks 1).toList ∧ w.rangeAt g 64 (ks (PP - 1)).toList ∧ w.rangeAt g 96 (ks PP).toList := by
  have key : ∀ (o n : Nat), (∀ i, i < 32 → fourC[o + i]? = (ks n)[i]?) → w.rangeAt g o (ks n).toList := by
    intro o n hh j v hv
    have hj : j < 32 := by have := (List.getElem?_eq_some_iff.1 hv).1; rw [Array.length_toList, ks_size] at this; exact this
    rw [h.cell, hh j hj]
    simpa using hv
  have f := fun i hi => four_at (ks 0) (ks 1) (ks (PP - 1)) (ks PP) (ks_size _) (ks_size _) (ks_size _) (ks_size _) i hi
  exact ⟨key 0 0 fun i hi => (f i hi).1, key 32 1 fun i hi => (f i hi).2.1, key 64 (PP - 1) fun i hi => (f i hi).2.2.1, key 96 PP fun i hi => (f i hi).2.2.2⟩
theorem ofK_1 : ofK 1 = 1 := rfl
theorem ofK_m : ofK (PP - 1) = -1 := by decide +kernel
theorem ofK_p : ofK PP = 0 := by decide +kernel
theorem minus_one_lim : PP - 1 < 115792089237316195423570985008687907853269984665640564039457584007913129639936 := by have := PP_lim; omega
attribute [local irreducible] lad lgo fourC
set_option maxRecDepth 100000 in
set_option maxHeartbeats 16000000 in
theorem law_low0 (k : Nat) (i : Int) (w : World) (hpg : PG w) (hk : k < 115792089237316195423570985008687907853269984665640564039457584007913129639936) (hi : (i.tmod 4 + 4).tmod 4 = 0) (hw : IntKind.i64.wrap (i.tmod 4 + 4) = i.tmod 4 + 4) : Calls Tryd.prog 6 #[.agg (ks k), .int .i64 i] w (BPost true w) := by
  obtain ⟨n, hn⟩ : ∃ n, n = 0 := ⟨_, rfl⟩
  have hnl : n < 115792089237316195423570985008687907853269984665640564039457584007913129639936 := by rw [hn]; first | omega | exact minus_one_lim | exact PP_lim
  obtain ⟨y, hy⟩ : ∃ y, y = lad Q0 (clampN k) (ofK n) := ⟨_, rfl⟩
  have hy0 : y = 0 := by rw [hy, hn]; exact lad_low LD _ _ (clampN_lt hk) (clampN_even hk) (.inl ofK_0)
  obtain ⟨m, hm⟩ : ∃ m, m = y.val := ⟨_, rfl⟩
  have hz : m = 0 := by rw [hm, hy0]; exact val_0
  have hsh := fun W hp => shared_no hy hm hk hnl hz W hp
  have hmu := fun W hp => lmulR hy hm hk hnl W hp
  have hke := fun W => keys_eq (n := m) (m := 0) (b := true) (by rw [hz]; omega) (by omega) (decide_eq_true hz) W
  rw [ks_zero] at hke
  obtain ⟨q, hq⟩ : ∃ q, q = PP - 1 := ⟨_, rfl⟩
  obtain ⟨pp, hpp⟩ : ∃ q, q = PP := ⟨_, rfl⟩
  have h1 : (1 : Nat) ≤ PP := by rw [PP_eq]; omega
  have hmin := fun W => rminus_any PP 1 W PP_lim h1
  have hbq := fun W => rbytes_any (PP - 1) W minus_one_lim
  rw [← hq] at hmin hbq
  have hbp := fun W => rbytes_any PP W PP_lim
  have hpr := fun W => rprime_any W
  rw [← hpp] at hmin hbp
  simp only [← hpp] at hpr
  have hfr := (Fr.start w).row (ks k) 23 (g := w.heap.size) rfl
  have HP := Lib.hid hpg
  have HF := Lib.hid hfr
  have HN := Lib.hid hn
  have HQ := Lib.hid hq
  have HPP := Lib.hid hpp
  have HSH := Lib.hid hsh
  have HMU := Lib.hid hmu
  have HMIN := Lib.hid hmin
  have HBQ := Lib.hid hbq
  have HBP := Lib.hid hbp
  have HPR := Lib.hid hpr
  clear hpg hfr hsh hmu hmin hbq hbp hpr hz hm hy0 hy hnl hn hq hpp h1 hk
  go_enter Tryd.func6, Tryd.ntmps6
  go_wp2_with (fail)
  refine (HPR.out _).mono ?_
  rintro e v1 ⟨rfl, hb⟩
  have hf := HF.out.ext hb
  have HF4 := Lib.hid hf
  clear hf hb HF
  have HF := HF4
  clear HF4
  go_wp2_with (fail)
  refine (rsmall_any 1 _ (by omega)).mono ?_
  rintro e v2 ⟨rfl, hb⟩
  have hf := HF.out.ext hb
  have HF4 := Lib.hid hf
  clear hf hb HF
  have HF := HF4
  clear HF4
  go_wp2_with (fail)
  refine (HMIN.out _).mono ?_
  rintro e v3 ⟨rfl, hb⟩
  have hf := HF.out.ext hb
  have HF4 := Lib.hid hf
  clear hf hb HF
  have HF := HF4
  clear HF4
  go_wp2_with (fail)
  refine (HBQ.out _).mono ?_
  rintro e v4 ⟨rfl, hb⟩
  have hf := HF.out.ext hb
  have ka : Blk (v4.alloc (.cells #[.int .u8 0, .int .u8 0, .int .u8 0, .int .u8 0, .int .u8 0, .int .u8 0, .int .u8 0, .int .u8 0, .int .u8 0, .int .u8 0, .int .u8 0, .int .u8 0, .int .u8 0, .int .u8 0, .int .u8 0, .int .u8 0, .int .u8 0, .int .u8 0, .int .u8 0, .int .u8 0, .int .u8 0, .int .u8 0, .int .u8 0, .int .u8 0, .int .u8 0, .int .u8 0, .int .u8 0, .int .u8 0, .int .u8 0, .int .u8 0, .int .u8 0, .int .u8 0] 23)) v4.heap.size 23 #[.int .u8 0, .int .u8 0, .int .u8 0, .int .u8 0, .int .u8 0, .int .u8 0, .int .u8 0, .int .u8 0, .int .u8 0, .int .u8 0, .int .u8 0, .int .u8 0, .int .u8 0, .int .u8 0, .int .u8 0, .int .u8 0, .int .u8 0, .int .u8 0, .int .u8 0, .int .u8 0, .int .u8 0, .int .u8 0, .int .u8 0, .int .u8 0, .int .u8 0, .int .u8 0, .int .u8 0, .int .u8 0, .int .u8 0, .int .u8 0, .int .u8 0, .int .u8 0] := Blk.new _ _ _
  have kc := ka.setRow_same (ks q)
  have hf3 := ((hf.pass (.cells #[.int .u8 0, .int .u8 0, .int .u8 0, .int .u8 0, .int .u8 0, .int .u8 0, .int .u8 0, .int .u8 0, .int .u8 0, .int .u8 0, .int .u8 0, .int .u8 0, .int .u8 0, .int .u8 0, .int .u8 0, .int .u8 0, .int .u8 0, .int .u8 0, .int .u8 0, .int .u8 0, .int .u8 0, .int .u8 0, .int .u8 0, .int .u8 0, .int .u8 0, .int .u8 0, .int .u8 0, .int .u8 0, .int .u8 0, .int .u8 0, .int .u8 0, .int .u8 0] 23)).setOut (g := v4.heap.size) (by have := hf.size; omega) (by intro p hp; exact Nat.ne_of_lt (hf.rows p hp).lt) (by simp) (ks q)).more kc
  have hsz : (#[.int .u8 0, .int .u8 0, .int .u8 0, .int .u8 0, .int .u8 0, .int .u8 0, .int .u8 0, .int .u8 0, .int .u8 0, .int .u8 0, .int .u8 0, .int .u8 0, .int .u8 0, .int .u8 0, .int .u8 0, .int .u8 0, .int .u8 0, .int .u8 0, .int .u8 0, .int .u8 0, .int .u8 0, .int .u8 0, .int .u8 0, .int .u8 0, .int .u8 0, .int .u8 0, .int .u8 0, .int .u8 0, .int .u8 0, .int .u8 0, .int .u8 0, .int .u8 0] : Array Value).size = (ks q).size := by rw [ks_size]; rfl
  have KA := Lib.hid ka
  have HSZ := Lib.hid hsz
  have HF4 := Lib.hid hf3
  clear hb hf kc ka hf3 HF hsz
  go_wp2_with (first | (refine wpList_store_row rfl 23 (.tmp 5) (.tmp 13) rfl (v4.heap.size) (ks q) rfl rfl 23 _ KA.out (info_ks _) HSZ.out (ks_one _) ?_))
  have HF := HF4
  clear HF4 KA HSZ
  obtain ⟨wd, hwd⟩ : ∃ wz : World, wz = (v4.alloc (.cells #[.int .u8 0, .int .u8 0, .int .u8 0, .int .u8 0, .int .u8 0, .int .u8 0, .int .u8 0, .int .u8 0, .int .u8 0, .int .u8 0, .int .u8 0, .int .u8 0, .int .u8 0, .int .u8 0, .int .u8 0, .int .u8 0, .int .u8 0, .int .u8 0, .int .u8 0, .int .u8 0, .int .u8 0, .int .u8 0, .int .u8 0, .int .u8 0, .int .u8 0, .int .u8 0, .int .u8 0, .int .u8 0, .int .u8 0, .int .u8 0, .int .u8 0, .int .u8 0] 23)).setRow v4.heap.size (ks q) := ⟨_, rfl⟩
  rw [← hwd] at HF ⊢
  clear hwd
  obtain ⟨g5, hg5⟩ : ∃ g5, g5 = v4.heap.size := ⟨_, rfl⟩
  rw [← hg5] at HF ⊢
  clear hg5
  try simp only [Act.put, List.getElem_toArray, List.setIfInBounds_toArray, List.set_cons_zero, List.set_cons_succ]
  refine wp_region_held_drew (S := fun W => Fr w W [(g5, 23, ks q), (w.heap.size, 23, ks k)] []) (by kernel_rfl) ?_ (fun hHeld => ?_)
  · exact HF.out.drew
  refine wpAnyH_take (i := 0) (v := ?_) rfl (by kernel_rfl) (by kernel_rfl) (by kernel_rfl) (fun _ _ _ h => h) (Or.inl ⟨by rfl, ?_⟩) hHeld ?_
  rotate_left
  · (intro W hSw; (try dsimp only at hSw); (try simp only [List.getElem_toArray, List.getElem_cons_succ, List.getElem_cons_zero]); go_simp; try with_reducible rfl)
  try simp only [Act.put, List.getElem_toArray, List.getElem_cons_succ, List.getElem_cons_zero, List.setIfInBounds_toArray, List.set_cons_zero, List.set_cons_succ]
  refine wpAnyH_take (i := 1) (v := ?_) rfl (by kernel_rfl) (by kernel_rfl) (by kernel_rfl) (fun _ _ _ h => h) (Or.inl ⟨by rfl, ?_⟩) hHeld ?_
  rotate_left
  · (intro W hSw; (try dsimp only at hSw); (try simp only [List.getElem_toArray, List.getElem_cons_succ, List.getElem_cons_zero]); go_simp; try with_reducible rfl)
  try simp only [Act.put, List.getElem_toArray, List.getElem_cons_succ, List.getElem_cons_zero, List.setIfInBounds_toArray, List.set_cons_zero, List.set_cons_succ]
  refine wpAnyH_take (i := 2) (v := .agg (ks q)) rfl (by kernel_rfl) (by kernel_rfl) (by kernel_rfl) (fun _ _ _ h => h) (yields_row (by rfl) 23 (.tmp 5) rfl (g5) rfl 23 (ks q) _ (fun W (h : Fr _ W _ _) => h.get (by simp)) Tryd.underlying23 rfl (info_ks _)) hHeld ?_
  try simp only [Act.put, List.getElem_toArray, List.getElem_cons_succ, List.getElem_cons_zero, List.setIfInBounds_toArray, List.set_cons_zero, List.set_cons_succ]
  refine wpAnyH_ready (rs := [3]) (by kernel_rfl) (by simp) (AllReadyH.cons rfl (fun K hK => ?_) AllReadyH.nil)
  have h0 := hHeld
  clear hHeld
  try simp only [List.getElem_toArray, List.getElem_cons_succ, List.getElem_cons_zero]
  have H0 := Lib.hid h0
  clear h0
  go_simp
  go_at_call 15
  refine (HPR.out _).mono ?_
  rintro e vv ⟨rfl, hb⟩
  have h1 := H0.out.ext hb
  clear hb H0
  go_wp2_with (fail)
  refine hK.out _ _ h1 (fun hHeld => ?_)
  clear hK K h1
  try simp only [Act.put, List.getElem_toArray, List.getElem_cons_succ, List.getElem_cons_zero, List.setIfInBounds_toArray, List.set_cons_zero, List.set_cons_succ]
  refine wpAnyH_ready (rs := [4]) (by kernel_rfl) (by simp) (AllReadyH.cons rfl (fun K hK => ?_) AllReadyH.nil)
  have h0 := hHeld
  clear hHeld
  try simp only [List.getElem_toArray, List.getElem_cons_succ, List.getElem_cons_zero]
  have H0 := Lib.hid h0
  clear h0
  go_simp
  go_at_call 13
  refine (HBP.out _).mono ?_
  rintro e vv ⟨rfl, hb⟩
  have h1 := H0.out.ext hb
  clear hb H0
  go_wp2_with (fail)
  refine hK.out _ _ h1 (fun hHeld => ?_)
  clear hK K h1
  try simp only [Act.put, List.getElem_toArray, List.getElem_cons_succ, List.getElem_cons_zero, List.setIfInBounds_toArray, List.set_cons_zero, List.set_cons_succ]
  refine wpAnyH_ready (rs := [5]) (by kernel_rfl) (by simp) (AllReadyH.cons rfl (fun K hK => ?_) AllReadyH.nil)
  have h0 := hHeld
  clear hHeld
  try simp only [List.getElem_toArray, List.getElem_cons_succ, List.getElem_cons_zero]
  rw [if_pos (by rfl)]
  refine wp_keys4 _ rfl [(0, .agg #[.int .u8 0, .int .u8 0, .int .u8 0, .int .u8 0, .int .u8 0, .int .u8 0, .int .u8 0, .int .u8 0, .int .u8 0, .int .u8 0, .int .u8 0, .int .u8 0, .int .u8 0, .int .u8 0, .int .u8 0, .int .u8 0, .int .u8 0, .int .u8 0, .int .u8 0, .int .u8 0, .int .u8 0, .int .u8 0, .int .u8 0, .int .u8 0, .int .u8 0, .int .u8 0, .int .u8 0, .int .u8 0, .int .u8 0, .int .u8 0, .int .u8 0, .int .u8 0]), (1, .agg #[.int .u8 1, .int .u8 0, .int .u8 0, .int .u8 0, .int .u8 0, .int .u8 0, .int .u8 0, .int .u8 0, .int .u8 0, .int .u8 0, .int .u8 0, .int .u8 0, .int .u8 0, .int .u8 0, .int .u8 0, .int .u8 0, .int .u8 0, .int .u8 0, .int .u8 0, .int .u8 0, .int .u8 0, .int .u8 0, .int .u8 0, .int .u8 0, .int .u8 0, .int .u8 0, .int .u8 0, .int .u8 0, .int .u8 0, .int .u8 0, .int .u8 0, .int .u8 0]), (2, .agg (ks q)), (3, .agg (ks pp))] (by kernel_rfl) (by rw [HQ.out, HPP.out]; rfl) ?_
  obtain ⟨kn, _⟩ := Fn.fresh (Fr.now h0) 23 fourC
  have KN := Lib.hid kn
  clear kn
  refine hK.out _ _ (Fr.pass h0 _) (fun hHeld => ?_)
  clear hK K h0
  try simp only [Act.put, List.getElem_toArray, List.getElem_cons_succ, List.getElem_cons_zero, List.setIfInBounds_toArray, List.set_cons_zero, List.set_cons_succ]
  refine wpAnyH_take (i := 6) (v := ?_) rfl (by kernel_rfl) (by kernel_rfl) (by kernel_rfl) (fun _ _ _ h => h) (Or.inl ⟨by rfl, ?_⟩) hHeld ?_
  rotate_left
  · (intro W hSw; (try dsimp only at hSw); (try simp only [List.getElem_toArray, List.getElem_cons_succ, List.getElem_cons_zero]); go_simp; try with_reducible rfl)
  try simp only [Act.put, List.getElem_toArray, List.getElem_cons_succ, List.getElem_cons_zero, List.setIfInBounds_toArray, List.set_cons_zero, List.set_cons_succ]
  refine wpAnyH_done (by kernel_rfl) ?_ _
  have kn2 := KN.out
  have hf2 := hHeld
  clear hHeld KN HF
  obtain ⟨wz, hwz⟩ : ∃ z : World, z = World.alloc vv (.cells fourC 23) := ⟨_, rfl⟩
  rw [← hwz] at hf2 kn2 ⊢
  clear hwz
  obtain ⟨gS, hgS⟩ : ∃ g, g = vv.heap.size := ⟨_, rfl⟩
  rw [← hgS] at kn2 ⊢
  clear hgS
  have hr : wz.rangeAt gS 0 (ks n).toList := by rw [HN.out]; exact (four_range kn2).1
  have HR := Lib.hid hr
  have HF := Lib.hid hf2
  clear hr kn2 hf2
  have hb := True.intro
  have hf := HF.out
  have ka : Blk (wz.alloc (.cells #[.int .u8 0, .int .u8 0, .int .u8 0, .int .u8 0, .int .u8 0, .int .u8 0, .int .u8 0, .int .u8 0, .int .u8 0, .int .u8 0, .int .u8 0, .int .u8 0, .int .u8 0, .int .u8 0, .int .u8 0, .int .u8 0, .int .u8 0, .int .u8 0, .int .u8 0, .int .u8 0, .int .u8 0, .int .u8 0, .int .u8 0, .int .u8 0, .int .u8 0, .int .u8 0, .int .u8 0, .int .u8 0, .int .u8 0, .int .u8 0, .int .u8 0, .int .u8 0] 23)) wz.heap.size 23 #[.int .u8 0, .int .u8 0, .int .u8 0, .int .u8 0, .int .u8 0, .int .u8 0, .int .u8 0, .int .u8 0, .int .u8 0, .int .u8 0, .int .u8 0, .int .u8 0, .int .u8 0, .int .u8 0, .int .u8 0, .int .u8 0, .int .u8 0, .int .u8 0, .int .u8 0, .int .u8 0, .int .u8 0, .int .u8 0, .int .u8 0, .int .u8 0, .int .u8 0, .int .u8 0, .int .u8 0, .int .u8 0, .int .u8 0, .int .u8 0, .int .u8 0, .int .u8 0] := Blk.new _ _ _
  have kc := ka.setRow_same (ks n)
  have hf3 := ((hf.pass (.cells #[.int .u8 0, .int .u8 0, .int .u8 0, .int .u8 0, .int .u8 0, .int .u8 0, .int .u8 0, .int .u8 0, .int .u8 0, .int .u8 0, .int .u8 0, .int .u8 0, .int .u8 0, .int .u8 0, .int .u8 0, .int .u8 0, .int .u8 0, .int .u8 0, .int .u8 0, .int .u8 0, .int .u8 0, .int .u8 0, .int .u8 0, .int .u8 0, .int .u8 0, .int .u8 0, .int .u8 0, .int .u8 0, .int .u8 0, .int .u8 0, .int .u8 0, .int .u8 0] 23)).setOut (g := wz.heap.size) (by have := hf.size; omega) (by intro p hp; exact Nat.ne_of_lt (hf.rows p hp).lt) (by simp) (ks n)).more kc
  have hsz : (#[.int .u8 0, .int .u8 0, .int .u8 0, .int .u8 0, .int .u8 0, .int .u8 0, .int .u8 0, .int .u8 0, .int .u8 0, .int .u8 0, .int .u8 0, .int .u8 0, .int .u8 0, .int .u8 0, .int .u8 0, .int .u8 0, .int .u8 0, .int .u8 0, .int .u8 0, .int .u8 0, .int .u8 0, .int .u8 0, .int .u8 0, .int .u8 0, .int .u8 0, .int .u8 0, .int .u8 0, .int .u8 0, .int .u8 0, .int .u8 0, .int .u8 0, .int .u8 0] : Array Value).size = (ks n).size := by rw [ks_size]; rfl
  have l2 := hf3.get (g := w.heap.size) (t := 23) (cs := ks k) (by simp)
  have l7 := hf3.get (g := wz.heap.size) (t := 23) (cs := ks n) (by simp)
  have KA := Lib.hid ka
  have HSZ := Lib.hid hsz
  have HF4 := Lib.hid hf3
  clear hb hf kc ka hf3 HF hsz
  go_wp2_with (first | (refine wpList_load_four rfl (.tmp 25) rfl gS 0 n rfl HR.out ?_) | (refine wpList_store_row rfl 23 (.tmp 7) (.tmp 26) rfl (wz.heap.size) (ks n) rfl rfl 23 _ KA.out (info_ks _) HSZ.out (ks_one _) ?_) | (refine wpList_load_row rfl 23 (.tmp 2) rfl (w.heap.size) rfl 23 (ks k) (0, 0) _ l2 Tryd.underlying23 rfl (info_ks _) ?_) | (refine wpList_load_row rfl 23 (.tmp 7) rfl (wz.heap.size) rfl 23 (ks n) (0, 0) _ l7 Tryd.underlying23 rfl (info_ks _) ?_))
  have HF := HF4
  clear HF4 KA HSZ l2 l7
  clear HR hi hw
  refine (HSH.out _ (Fr.pg HF.out HP.out)).mono ?_
  rintro e v6 ⟨rfl, hb⟩
  have hf := HF.out.ext hb
  have ka : Blk (v6.alloc (.cells #[.int .u8 0, .int .u8 0, .int .u8 0, .int .u8 0, .int .u8 0, .int .u8 0, .int .u8 0, .int .u8 0, .int .u8 0, .int .u8 0, .int .u8 0, .int .u8 0, .int .u8 0, .int .u8 0, .int .u8 0, .int .u8 0, .int .u8 0, .int .u8 0, .int .u8 0, .int .u8 0, .int .u8 0, .int .u8 0, .int .u8 0, .int .u8 0, .int .u8 0, .int .u8 0, .int .u8 0, .int .u8 0, .int .u8 0, .int .u8 0, .int .u8 0, .int .u8 0] 23)) v6.heap.size 23 #[.int .u8 0, .int .u8 0, .int .u8 0, .int .u8 0, .int .u8 0, .int .u8 0, .int .u8 0, .int .u8 0, .int .u8 0, .int .u8 0, .int .u8 0, .int .u8 0, .int .u8 0, .int .u8 0, .int .u8 0, .int .u8 0, .int .u8 0, .int .u8 0, .int .u8 0, .int .u8 0, .int .u8 0, .int .u8 0, .int .u8 0, .int .u8 0, .int .u8 0, .int .u8 0, .int .u8 0, .int .u8 0, .int .u8 0, .int .u8 0, .int .u8 0, .int .u8 0] := Blk.new _ _ _
  have kc := ka.setRow_same (ks m)
  have hf3 := ((hf.pass (.cells #[.int .u8 0, .int .u8 0, .int .u8 0, .int .u8 0, .int .u8 0, .int .u8 0, .int .u8 0, .int .u8 0, .int .u8 0, .int .u8 0, .int .u8 0, .int .u8 0, .int .u8 0, .int .u8 0, .int .u8 0, .int .u8 0, .int .u8 0, .int .u8 0, .int .u8 0, .int .u8 0, .int .u8 0, .int .u8 0, .int .u8 0, .int .u8 0, .int .u8 0, .int .u8 0, .int .u8 0, .int .u8 0, .int .u8 0, .int .u8 0, .int .u8 0, .int .u8 0] 23)).setOut (g := v6.heap.size) (by have := hf.size; omega) (by intro p hp; exact Nat.ne_of_lt (hf.rows p hp).lt) (by simp) (ks m)).more kc
  have hsz : (#[.int .u8 0, .int .u8 0, .int .u8 0, .int .u8 0, .int .u8 0, .int .u8 0, .int .u8 0, .int .u8 0, .int .u8 0, .int .u8 0, .int .u8 0, .int .u8 0, .int .u8 0, .int .u8 0, .int .u8 0, .int .u8 0, .int .u8 0, .int .u8 0, .int .u8 0, .int .u8 0, .int .u8 0, .int .u8 0, .int .u8 0, .int .u8 0, .int .u8 0, .int .u8 0, .int .u8 0, .int .u8 0, .int .u8 0, .int .u8 0, .int .u8 0, .int .u8 0] : Array Value).size = (ks m).size := by rw [ks_size]; rfl
  have l8 := hf3.get (g := v6.heap.size) (t := 23) (cs := ks m) (by simp)
  have l2 := hf3.get (g := w.heap.size) (t := 23) (cs := ks k) (by simp)
  have l7 := hf3.get (g := wz.heap.size) (t := 23) (cs := ks n) (by simp)
  have KA := Lib.hid ka
  have HSZ := Lib.hid hsz
  have HF4 := Lib.hid hf3
  clear hb hf kc ka hf3 HF hsz
  go_wp2_with (first | (refine wpList_store_row rfl 23 (.tmp 8) (.tmp 31) rfl (v6.heap.size) (ks m) rfl rfl 23 _ KA.out (info_ks _) HSZ.out (ks_one _) ?_) | (refine wpList_load_wanted (by kernel_rfl) 23 (.tmp 8) rfl (v6.heap.size) rfl 23 (ks m) (0, 0) _ l8 Tryd.underlying23 rfl (info_ks _) ?_) | (refine wpList_load_wanted (by kernel_rfl) 23 (.tmp 2) rfl (w.heap.size) rfl 23 (ks k) (0, 0) _ l2 Tryd.underlying23 rfl (info_ks _) ?_) | (refine wpList_load_wanted (by kernel_rfl) 23 (.tmp 7) rfl (wz.heap.size) rfl 23 (ks n) (0, 0) _ l7 Tryd.underlying23 rfl (info_ks _) ?_))
  have HF := HF4
  clear HF4 KA HSZ l8 l2 l7
  refine (HMU.out _ (Fr.pg HF.out HP.out)).mono ?_
  rintro e v7 ⟨rfl, hb⟩
  have hf := HF.out.ext hb
  have HF4 := Lib.hid hf
  clear hf hb HF
  have HF := HF4
  clear HF4
  go_wp2_with (fail)
  refine (lknown_any _ (Fr.pg HF.out HP.out)).mono ?_
  rintro e v8 ⟨rfl, hb⟩
  have hf := HF.out.ext hb
  have HB := Lib.hid hf.below
  clear hf hb HF
  go_wp2_with (fail)
  go_ret
  exact ⟨rfl, HB.out⟩
set_option maxRecDepth 100000 in
set_option maxHeartbeats 16000000 in
theorem law_low1 (k : Nat) (i : Int) (w : World) (hpg : PG w) (hk : k < 115792089237316195423570985008687907853269984665640564039457584007913129639936) (hi : (i.tmod 4 + 4).tmod 4 = 1) (hw : IntKind.i64.wrap (i.tmod 4 + 4) = i.tmod 4 + 4) : Calls Tryd.prog 6 #[.agg (ks k), .int .i64 i] w (BPost true w) := by
  obtain ⟨n, hn⟩ : ∃ n, n = 1 := ⟨_, rfl⟩
  have hnl : n < 115792089237316195423570985008687907853269984665640564039457584007913129639936 := by rw [hn]; first | omega | exact minus_one_lim | exact PP_lim
  obtain ⟨y, hy⟩ : ∃ y, y = lad Q0 (clampN k) (ofK n) := ⟨_, rfl⟩
  have hy0 : y = 0 := by rw [hy, hn]; exact lad_low LD _ _ (clampN_lt hk) (clampN_even hk) (.inr (.inl ofK_1))
  obtain ⟨m, hm⟩ : ∃ m, m = y.val := ⟨_, rfl⟩
  have hz : m = 0 := by rw [hm, hy0]; exact val_0
  have hsh := fun W hp => shared_no hy hm hk hnl hz W hp
  have hmu := fun W hp => lmulR hy hm hk hnl W hp
  have hke := fun W => keys_eq (n := m) (m := 0) (b := true) (by rw [hz]; omega) (by omega) (decide_eq_true hz) W
  rw [ks_zero] at hke
  obtain ⟨q, hq⟩ : ∃ q, q = PP - 1 := ⟨_, rfl⟩
  obtain ⟨pp, hpp⟩ : ∃ q, q = PP := ⟨_, rfl⟩
  have h1 : (1 : Nat) ≤ PP := by rw [PP_eq]; omega
  have hmin := fun W => rminus_any PP 1 W PP_lim h1
  have hbq := fun W => rbytes_any (PP - 1) W minus_one_lim
  rw [← hq] at hmin hbq
  have hbp := fun W => rbytes_any PP W PP_lim
  have hpr := fun W => rprime_any W
  rw [← hpp] at hmin hbp
  simp only [← hpp] at hpr
  have hfr := (Fr.start w).row (ks k) 23 (g := w.heap.size) rfl
  have HP := Lib.hid hpg
  have HF := Lib.hid hfr
  have HN := Lib.hid hn
  have HQ := Lib.hid hq
  have HPP := Lib.hid hpp
  have HSH := Lib.hid hsh
  have HMU := Lib.hid hmu
  have HMIN := Lib.hid hmin
  have HBQ := Lib.hid hbq
  have HBP := Lib.hid hbp
  have HPR := Lib.hid hpr
  clear hpg hfr hsh hmu hmin hbq hbp hpr hz hm hy0 hy hnl hn hq hpp h1 hk
  go_enter Tryd.func6, Tryd.ntmps6
  go_wp2_with (fail)
  refine (HPR.out _).mono ?_
  rintro e v1 ⟨rfl, hb⟩
  have hf := HF.out.ext hb
  have HF4 := Lib.hid hf
  clear hf hb HF
  have HF := HF4
  clear HF4
  go_wp2_with (fail)
  refine (rsmall_any 1 _ (by omega)).mono ?_
  rintro e v2 ⟨rfl, hb⟩
  have hf := HF.out.ext hb
  have HF4 := Lib.hid hf
  clear hf hb HF
  have HF := HF4
  clear HF4
  go_wp2_with (fail)
  refine (HMIN.out _).mono ?_
  rintro e v3 ⟨rfl, hb⟩
  have hf := HF.out.ext hb
  have HF4 := Lib.hid hf
  clear hf hb HF
  have HF := HF4
  clear HF4
  go_wp2_with (fail)
  refine (HBQ.out _).mono ?_
  rintro e v4 ⟨rfl, hb⟩
  have hf := HF.out.ext hb
  have ka : Blk (v4.alloc (.cells #[.int .u8 0, .int .u8 0, .int .u8 0, .int .u8 0, .int .u8 0, .int .u8 0, .int .u8 0, .int .u8 0, .int .u8 0, .int .u8 0, .int .u8 0, .int .u8 0, .int .u8 0, .int .u8 0, .int .u8 0, .int .u8 0, .int .u8 0, .int .u8 0, .int .u8 0, .int .u8 0, .int .u8 0, .int .u8 0, .int .u8 0, .int .u8 0, .int .u8 0, .int .u8 0, .int .u8 0, .int .u8 0, .int .u8 0, .int .u8 0, .int .u8 0, .int .u8 0] 23)) v4.heap.size 23 #[.int .u8 0, .int .u8 0, .int .u8 0, .int .u8 0, .int .u8 0, .int .u8 0, .int .u8 0, .int .u8 0, .int .u8 0, .int .u8 0, .int .u8 0, .int .u8 0, .int .u8 0, .int .u8 0, .int .u8 0, .int .u8 0, .int .u8 0, .int .u8 0, .int .u8 0, .int .u8 0, .int .u8 0, .int .u8 0, .int .u8 0, .int .u8 0, .int .u8 0, .int .u8 0, .int .u8 0, .int .u8 0, .int .u8 0, .int .u8 0, .int .u8 0, .int .u8 0] := Blk.new _ _ _
  have kc := ka.setRow_same (ks q)
  have hf3 := ((hf.pass (.cells #[.int .u8 0, .int .u8 0, .int .u8 0, .int .u8 0, .int .u8 0, .int .u8 0, .int .u8 0, .int .u8 0, .int .u8 0, .int .u8 0, .int .u8 0, .int .u8 0, .int .u8 0, .int .u8 0, .int .u8 0, .int .u8 0, .int .u8 0, .int .u8 0, .int .u8 0, .int .u8 0, .int .u8 0, .int .u8 0, .int .u8 0, .int .u8 0, .int .u8 0, .int .u8 0, .int .u8 0, .int .u8 0, .int .u8 0, .int .u8 0, .int .u8 0, .int .u8 0] 23)).setOut (g := v4.heap.size) (by have := hf.size; omega) (by intro p hp; exact Nat.ne_of_lt (hf.rows p hp).lt) (by simp) (ks q)).more kc
  have hsz : (#[.int .u8 0, .int .u8 0, .int .u8 0, .int .u8 0, .int .u8 0, .int .u8 0, .int .u8 0, .int .u8 0, .int .u8 0, .int .u8 0, .int .u8 0, .int .u8 0, .int .u8 0, .int .u8 0, .int .u8 0, .int .u8 0, .int .u8 0, .int .u8 0, .int .u8 0, .int .u8 0, .int .u8 0, .int .u8 0, .int .u8 0, .int .u8 0, .int .u8 0, .int .u8 0, .int .u8 0, .int .u8 0, .int .u8 0, .int .u8 0, .int .u8 0, .int .u8 0] : Array Value).size = (ks q).size := by rw [ks_size]; rfl
  have KA := Lib.hid ka
  have HSZ := Lib.hid hsz
  have HF4 := Lib.hid hf3
  clear hb hf kc ka hf3 HF hsz
  go_wp2_with (first | (refine wpList_store_row rfl 23 (.tmp 5) (.tmp 13) rfl (v4.heap.size) (ks q) rfl rfl 23 _ KA.out (info_ks _) HSZ.out (ks_one _) ?_))
  have HF := HF4
  clear HF4 KA HSZ
  obtain ⟨wd, hwd⟩ : ∃ wz : World, wz = (v4.alloc (.cells #[.int .u8 0, .int .u8 0, .int .u8 0, .int .u8 0, .int .u8 0, .int .u8 0, .int .u8 0, .int .u8 0, .int .u8 0, .int .u8 0, .int .u8 0, .int .u8 0, .int .u8 0, .int .u8 0, .int .u8 0, .int .u8 0, .int .u8 0, .int .u8 0, .int .u8 0, .int .u8 0, .int .u8 0, .int .u8 0, .int .u8 0, .int .u8 0, .int .u8 0, .int .u8 0, .int .u8 0, .int .u8 0, .int .u8 0, .int .u8 0, .int .u8 0, .int .u8 0] 23)).setRow v4.heap.size (ks q) := ⟨_, rfl⟩
  rw [← hwd] at HF ⊢
  clear hwd
  obtain ⟨g5, hg5⟩ : ∃ g5, g5 = v4.heap.size := ⟨_, rfl⟩
  rw [← hg5] at HF ⊢
  clear hg5
  try simp only [Act.put, List.getElem_toArray, List.setIfInBounds_toArray, List.set_cons_zero, List.set_cons_succ]
  refine wp_region_held_drew (S := fun W => Fr w W [(g5, 23, ks q), (w.heap.size, 23, ks k)] []) (by kernel_rfl) ?_ (fun hHeld => ?_)
  · exact HF.out.drew
  refine wpAnyH_take (i := 0) (v := ?_) rfl (by kernel_rfl) (by kernel_rfl) (by kernel_rfl) (fun _ _ _ h => h) (Or.inl ⟨by rfl, ?_⟩) hHeld ?_
  rotate_left
  · (intro W hSw; (try dsimp only at hSw); (try simp only [List.getElem_toArray, List.getElem_cons_succ, List.getElem_cons_zero]); go_simp; try with_reducible rfl)
  try simp only [Act.put, List.getElem_toArray, List.getElem_cons_succ, List.getElem_cons_zero, List.setIfInBounds_toArray, List.set_cons_zero, List.set_cons_succ]
  refine wpAnyH_take (i := 1) (v := ?_) rfl (by kernel_rfl) (by kernel_rfl) (by kernel_rfl) (fun _ _ _ h => h) (Or.inl ⟨by rfl, ?_⟩) hHeld ?_
  rotate_left
  · (intro W hSw; (try dsimp only at hSw); (try simp only [List.getElem_toArray, List.getElem_cons_succ, List.getElem_cons_zero]); go_simp; try with_reducible rfl)
  try simp only [Act.put, List.getElem_toArray, List.getElem_cons_succ, List.getElem_cons_zero, List.setIfInBounds_toArray, List.set_cons_zero, List.set_cons_succ]
  refine wpAnyH_take (i := 2) (v := .agg (ks q)) rfl (by kernel_rfl) (by kernel_rfl) (by kernel_rfl) (fun _ _ _ h => h) (yields_row (by rfl) 23 (.tmp 5) rfl (g5) rfl 23 (ks q) _ (fun W (h : Fr _ W _ _) => h.get (by simp)) Tryd.underlying23 rfl (info_ks _)) hHeld ?_
  try simp only [Act.put, List.getElem_toArray, List.getElem_cons_succ, List.getElem_cons_zero, List.setIfInBounds_toArray, List.set_cons_zero, List.set_cons_succ]
  refine wpAnyH_ready (rs := [3]) (by kernel_rfl) (by simp) (AllReadyH.cons rfl (fun K hK => ?_) AllReadyH.nil)
  have h0 := hHeld
  clear hHeld
  try simp only [List.getElem_toArray, List.getElem_cons_succ, List.getElem_cons_zero]
  have H0 := Lib.hid h0
  clear h0
  go_simp
  go_at_call 15
  refine (HPR.out _).mono ?_
  rintro e vv ⟨rfl, hb⟩
  have h1 := H0.out.ext hb
  clear hb H0
  go_wp2_with (fail)
  refine hK.out _ _ h1 (fun hHeld => ?_)
  clear hK K h1
  try simp only [Act.put, List.getElem_toArray, List.getElem_cons_succ, List.getElem_cons_zero, List.setIfInBounds_toArray, List.set_cons_zero, List.set_cons_succ]
  refine wpAnyH_ready (rs := [4]) (by kernel_rfl) (by simp) (AllReadyH.cons rfl (fun K hK => ?_) AllReadyH.nil)
  have h0 := hHeld
  clear hHeld
  try simp only [List.getElem_toArray, List.getElem_cons_succ, List.getElem_cons_zero]
  have H0 := Lib.hid h0
  clear h0
  go_simp
  go_at_call 13
  refine (HBP.out _).mono ?_
  rintro e vv ⟨rfl, hb⟩
  have h1 := H0.out.ext hb
  clear hb H0
  go_wp2_with (fail)
  refine hK.out _ _ h1 (fun hHeld => ?_)
  clear hK K h1
  try simp only [Act.put, List.getElem_toArray, List.getElem_cons_succ, List.getElem_cons_zero, List.setIfInBounds_toArray, List.set_cons_zero, List.set_cons_succ]
  refine wpAnyH_ready (rs := [5]) (by kernel_rfl) (by simp) (AllReadyH.cons rfl (fun K hK => ?_) AllReadyH.nil)
  have h0 := hHeld
  clear hHeld
  try simp only [List.getElem_toArray, List.getElem_cons_succ, List.getElem_cons_zero]
  rw [if_pos (by rfl)]
  refine wp_keys4 _ rfl [(0, .agg #[.int .u8 0, .int .u8 0, .int .u8 0, .int .u8 0, .int .u8 0, .int .u8 0, .int .u8 0, .int .u8 0, .int .u8 0, .int .u8 0, .int .u8 0, .int .u8 0, .int .u8 0, .int .u8 0, .int .u8 0, .int .u8 0, .int .u8 0, .int .u8 0, .int .u8 0, .int .u8 0, .int .u8 0, .int .u8 0, .int .u8 0, .int .u8 0, .int .u8 0, .int .u8 0, .int .u8 0, .int .u8 0, .int .u8 0, .int .u8 0, .int .u8 0, .int .u8 0]), (1, .agg #[.int .u8 1, .int .u8 0, .int .u8 0, .int .u8 0, .int .u8 0, .int .u8 0, .int .u8 0, .int .u8 0, .int .u8 0, .int .u8 0, .int .u8 0, .int .u8 0, .int .u8 0, .int .u8 0, .int .u8 0, .int .u8 0, .int .u8 0, .int .u8 0, .int .u8 0, .int .u8 0, .int .u8 0, .int .u8 0, .int .u8 0, .int .u8 0, .int .u8 0, .int .u8 0, .int .u8 0, .int .u8 0, .int .u8 0, .int .u8 0, .int .u8 0, .int .u8 0]), (2, .agg (ks q)), (3, .agg (ks pp))] (by kernel_rfl) (by rw [HQ.out, HPP.out]; rfl) ?_
  obtain ⟨kn, _⟩ := Fn.fresh (Fr.now h0) 23 fourC
  have KN := Lib.hid kn
  clear kn
  refine hK.out _ _ (Fr.pass h0 _) (fun hHeld => ?_)
  clear hK K h0
  try simp only [Act.put, List.getElem_toArray, List.getElem_cons_succ, List.getElem_cons_zero, List.setIfInBounds_toArray, List.set_cons_zero, List.set_cons_succ]
  refine wpAnyH_take (i := 6) (v := ?_) rfl (by kernel_rfl) (by kernel_rfl) (by kernel_rfl) (fun _ _ _ h => h) (Or.inl ⟨by rfl, ?_⟩) hHeld ?_
  rotate_left
  · (intro W hSw; (try dsimp only at hSw); (try simp only [List.getElem_toArray, List.getElem_cons_succ, List.getElem_cons_zero]); go_simp; try with_reducible rfl)
  try simp only [Act.put, List.getElem_toArray, List.getElem_cons_succ, List.getElem_cons_zero, List.setIfInBounds_toArray, List.set_cons_zero, List.set_cons_succ]
  refine wpAnyH_done (by kernel_rfl) ?_ _
  have kn2 := KN.out
  have hf2 := hHeld
  clear hHeld KN HF
  obtain ⟨wz, hwz⟩ : ∃ z : World, z = World.alloc vv (.cells fourC 23) := ⟨_, rfl⟩
  rw [← hwz] at hf2 kn2 ⊢
  clear hwz
  obtain ⟨gS, hgS⟩ : ∃ g, g = vv.heap.size := ⟨_, rfl⟩
  rw [← hgS] at kn2 ⊢
  clear hgS
  have hr : wz.rangeAt gS 32 (ks n).toList := by rw [HN.out]; exact (four_range kn2).2.1
  have HR := Lib.hid hr
  have HF := Lib.hid hf2
  clear hr kn2 hf2
  have hb := True.intro
  have hf := HF.out
  have ka : Blk (wz.alloc (.cells #[.int .u8 0, .int .u8 0, .int .u8 0, .int .u8 0, .int .u8 0, .int .u8 0, .int .u8 0, .int .u8 0, .int .u8 0, .int .u8 0, .int .u8 0, .int .u8 0, .int .u8 0, .int .u8 0, .int .u8 0, .int .u8 0, .int .u8 0, .int .u8 0, .int .u8 0, .int .u8 0, .int .u8 0, .int .u8 0, .int .u8 0, .int .u8 0, .int .u8 0, .int .u8 0, .int .u8 0, .int .u8 0, .int .u8 0, .int .u8 0, .int .u8 0, .int .u8 0] 23)) wz.heap.size 23 #[.int .u8 0, .int .u8 0, .int .u8 0, .int .u8 0, .int .u8 0, .int .u8 0, .int .u8 0, .int .u8 0, .int .u8 0, .int .u8 0, .int .u8 0, .int .u8 0, .int .u8 0, .int .u8 0, .int .u8 0, .int .u8 0, .int .u8 0, .int .u8 0, .int .u8 0, .int .u8 0, .int .u8 0, .int .u8 0, .int .u8 0, .int .u8 0, .int .u8 0, .int .u8 0, .int .u8 0, .int .u8 0, .int .u8 0, .int .u8 0, .int .u8 0, .int .u8 0] := Blk.new _ _ _
  have kc := ka.setRow_same (ks n)
  have hf3 := ((hf.pass (.cells #[.int .u8 0, .int .u8 0, .int .u8 0, .int .u8 0, .int .u8 0, .int .u8 0, .int .u8 0, .int .u8 0, .int .u8 0, .int .u8 0, .int .u8 0, .int .u8 0, .int .u8 0, .int .u8 0, .int .u8 0, .int .u8 0, .int .u8 0, .int .u8 0, .int .u8 0, .int .u8 0, .int .u8 0, .int .u8 0, .int .u8 0, .int .u8 0, .int .u8 0, .int .u8 0, .int .u8 0, .int .u8 0, .int .u8 0, .int .u8 0, .int .u8 0, .int .u8 0] 23)).setOut (g := wz.heap.size) (by have := hf.size; omega) (by intro p hp; exact Nat.ne_of_lt (hf.rows p hp).lt) (by simp) (ks n)).more kc
  have hsz : (#[.int .u8 0, .int .u8 0, .int .u8 0, .int .u8 0, .int .u8 0, .int .u8 0, .int .u8 0, .int .u8 0, .int .u8 0, .int .u8 0, .int .u8 0, .int .u8 0, .int .u8 0, .int .u8 0, .int .u8 0, .int .u8 0, .int .u8 0, .int .u8 0, .int .u8 0, .int .u8 0, .int .u8 0, .int .u8 0, .int .u8 0, .int .u8 0, .int .u8 0, .int .u8 0, .int .u8 0, .int .u8 0, .int .u8 0, .int .u8 0, .int .u8 0, .int .u8 0] : Array Value).size = (ks n).size := by rw [ks_size]; rfl
  have l2 := hf3.get (g := w.heap.size) (t := 23) (cs := ks k) (by simp)
  have l7 := hf3.get (g := wz.heap.size) (t := 23) (cs := ks n) (by simp)
  have KA := Lib.hid ka
  have HSZ := Lib.hid hsz
  have HF4 := Lib.hid hf3
  clear hb hf kc ka hf3 HF hsz
  go_wp2_with (first | (refine wpList_load_four rfl (.tmp 25) rfl gS 32 n rfl HR.out ?_) | (refine wpList_store_row rfl 23 (.tmp 7) (.tmp 26) rfl (wz.heap.size) (ks n) rfl rfl 23 _ KA.out (info_ks _) HSZ.out (ks_one _) ?_) | (refine wpList_load_row rfl 23 (.tmp 2) rfl (w.heap.size) rfl 23 (ks k) (0, 0) _ l2 Tryd.underlying23 rfl (info_ks _) ?_) | (refine wpList_load_row rfl 23 (.tmp 7) rfl (wz.heap.size) rfl 23 (ks n) (0, 0) _ l7 Tryd.underlying23 rfl (info_ks _) ?_))
  have HF := HF4
  clear HF4 KA HSZ l2 l7
  clear HR hi hw
  refine (HSH.out _ (Fr.pg HF.out HP.out)).mono ?_
  rintro e v6 ⟨rfl, hb⟩
  have hf := HF.out.ext hb
  have ka : Blk (v6.alloc (.cells #[.int .u8 0, .int .u8 0, .int .u8 0, .int .u8 0, .int .u8 0, .int .u8 0, .int .u8 0, .int .u8 0, .int .u8 0, .int .u8 0, .int .u8 0, .int .u8 0, .int .u8 0, .int .u8 0, .int .u8 0, .int .u8 0, .int .u8 0, .int .u8 0, .int .u8 0, .int .u8 0, .int .u8 0, .int .u8 0, .int .u8 0, .int .u8 0, .int .u8 0, .int .u8 0, .int .u8 0, .int .u8 0, .int .u8 0, .int .u8 0, .int .u8 0, .int .u8 0] 23)) v6.heap.size 23 #[.int .u8 0, .int .u8 0, .int .u8 0, .int .u8 0, .int .u8 0, .int .u8 0, .int .u8 0, .int .u8 0, .int .u8 0, .int .u8 0, .int .u8 0, .int .u8 0, .int .u8 0, .int .u8 0, .int .u8 0, .int .u8 0, .int .u8 0, .int .u8 0, .int .u8 0, .int .u8 0, .int .u8 0, .int .u8 0, .int .u8 0, .int .u8 0, .int .u8 0, .int .u8 0, .int .u8 0, .int .u8 0, .int .u8 0, .int .u8 0, .int .u8 0, .int .u8 0] := Blk.new _ _ _
  have kc := ka.setRow_same (ks m)
  have hf3 := ((hf.pass (.cells #[.int .u8 0, .int .u8 0, .int .u8 0, .int .u8 0, .int .u8 0, .int .u8 0, .int .u8 0, .int .u8 0, .int .u8 0, .int .u8 0, .int .u8 0, .int .u8 0, .int .u8 0, .int .u8 0, .int .u8 0, .int .u8 0, .int .u8 0, .int .u8 0, .int .u8 0, .int .u8 0, .int .u8 0, .int .u8 0, .int .u8 0, .int .u8 0, .int .u8 0, .int .u8 0, .int .u8 0, .int .u8 0, .int .u8 0, .int .u8 0, .int .u8 0, .int .u8 0] 23)).setOut (g := v6.heap.size) (by have := hf.size; omega) (by intro p hp; exact Nat.ne_of_lt (hf.rows p hp).lt) (by simp) (ks m)).more kc
  have hsz : (#[.int .u8 0, .int .u8 0, .int .u8 0, .int .u8 0, .int .u8 0, .int .u8 0, .int .u8 0, .int .u8 0, .int .u8 0, .int .u8 0, .int .u8 0, .int .u8 0, .int .u8 0, .int .u8 0, .int .u8 0, .int .u8 0, .int .u8 0, .int .u8 0, .int .u8 0, .int .u8 0, .int .u8 0, .int .u8 0, .int .u8 0, .int .u8 0, .int .u8 0, .int .u8 0, .int .u8 0, .int .u8 0, .int .u8 0, .int .u8 0, .int .u8 0, .int .u8 0] : Array Value).size = (ks m).size := by rw [ks_size]; rfl
  have l8 := hf3.get (g := v6.heap.size) (t := 23) (cs := ks m) (by simp)
  have l2 := hf3.get (g := w.heap.size) (t := 23) (cs := ks k) (by simp)
  have l7 := hf3.get (g := wz.heap.size) (t := 23) (cs := ks n) (by simp)
  have KA := Lib.hid ka
  have HSZ := Lib.hid hsz
  have HF4 := Lib.hid hf3
  clear hb hf kc ka hf3 HF hsz
  go_wp2_with (first | (refine wpList_store_row rfl 23 (.tmp 8) (.tmp 31) rfl (v6.heap.size) (ks m) rfl rfl 23 _ KA.out (info_ks _) HSZ.out (ks_one _) ?_) | (refine wpList_load_wanted (by kernel_rfl) 23 (.tmp 8) rfl (v6.heap.size) rfl 23 (ks m) (0, 0) _ l8 Tryd.underlying23 rfl (info_ks _) ?_) | (refine wpList_load_wanted (by kernel_rfl) 23 (.tmp 2) rfl (w.heap.size) rfl 23 (ks k) (0, 0) _ l2 Tryd.underlying23 rfl (info_ks _) ?_) | (refine wpList_load_wanted (by kernel_rfl) 23 (.tmp 7) rfl (wz.heap.size) rfl 23 (ks n) (0, 0) _ l7 Tryd.underlying23 rfl (info_ks _) ?_))
  have HF := HF4
  clear HF4 KA HSZ l8 l2 l7
  refine (HMU.out _ (Fr.pg HF.out HP.out)).mono ?_
  rintro e v7 ⟨rfl, hb⟩
  have hf := HF.out.ext hb
  have HF4 := Lib.hid hf
  clear hf hb HF
  have HF := HF4
  clear HF4
  go_wp2_with (fail)
  refine (lknown_any _ (Fr.pg HF.out HP.out)).mono ?_
  rintro e v8 ⟨rfl, hb⟩
  have hf := HF.out.ext hb
  have HB := Lib.hid hf.below
  clear hf hb HF
  go_wp2_with (fail)
  go_ret
  exact ⟨rfl, HB.out⟩
set_option maxRecDepth 100000 in
set_option maxHeartbeats 16000000 in
theorem law_low2 (k : Nat) (i : Int) (w : World) (hpg : PG w) (hk : k < 115792089237316195423570985008687907853269984665640564039457584007913129639936) (hi : (i.tmod 4 + 4).tmod 4 = 2) (hw : IntKind.i64.wrap (i.tmod 4 + 4) = i.tmod 4 + 4) : Calls Tryd.prog 6 #[.agg (ks k), .int .i64 i] w (BPost true w) := by
  obtain ⟨n, hn⟩ : ∃ n, n = (PP - 1) := ⟨_, rfl⟩
  have hnl : n < 115792089237316195423570985008687907853269984665640564039457584007913129639936 := by rw [hn]; first | omega | exact minus_one_lim | exact PP_lim
  obtain ⟨y, hy⟩ : ∃ y, y = lad Q0 (clampN k) (ofK n) := ⟨_, rfl⟩
  have hy0 : y = 0 := by rw [hy, hn]; exact lad_low LD _ _ (clampN_lt hk) (clampN_even hk) (.inr (.inr ofK_m))
  obtain ⟨m, hm⟩ : ∃ m, m = y.val := ⟨_, rfl⟩
  have hz : m = 0 := by rw [hm, hy0]; exact val_0
  have hsh := fun W hp => shared_no hy hm hk hnl hz W hp
  have hmu := fun W hp => lmulR hy hm hk hnl W hp
  have hke := fun W => keys_eq (n := m) (m := 0) (b := true) (by rw [hz]; omega) (by omega) (decide_eq_true hz) W
  rw [ks_zero] at hke
  obtain ⟨q, hq⟩ : ∃ q, q = PP - 1 := ⟨_, rfl⟩
  obtain ⟨pp, hpp⟩ : ∃ q, q = PP := ⟨_, rfl⟩
  have h1 : (1 : Nat) ≤ PP := by rw [PP_eq]; omega
  have hmin := fun W => rminus_any PP 1 W PP_lim h1
  have hbq := fun W => rbytes_any (PP - 1) W minus_one_lim
  rw [← hq] at hmin hbq
  have hbp := fun W => rbytes_any PP W PP_lim
  have hpr := fun W => rprime_any W
  rw [← hpp] at hmin hbp
  simp only [← hpp] at hpr
  have hfr := (Fr.start w).row (ks k) 23 (g := w.heap.size) rfl
  have HP := Lib.hid hpg
  have HF := Lib.hid hfr
  have HN := Lib.hid hn
  have HQ := Lib.hid hq
  have HPP := Lib.hid hpp
  have HSH := Lib.hid hsh
  have HMU := Lib.hid hmu
  have HMIN := Lib.hid hmin
  have HBQ := Lib.hid hbq
  have HBP := Lib.hid hbp
  have HPR := Lib.hid hpr
  clear hpg hfr hsh hmu hmin hbq hbp hpr hz hm hy0 hy hnl hn hq hpp h1 hk
  go_enter Tryd.func6, Tryd.ntmps6
  go_wp2_with (fail)
  refine (HPR.out _).mono ?_
  rintro e v1 ⟨rfl, hb⟩
  have hf := HF.out.ext hb
  have HF4 := Lib.hid hf
  clear hf hb HF
  have HF := HF4
  clear HF4
  go_wp2_with (fail)
  refine (rsmall_any 1 _ (by omega)).mono ?_
  rintro e v2 ⟨rfl, hb⟩
  have hf := HF.out.ext hb
  have HF4 := Lib.hid hf
  clear hf hb HF
  have HF := HF4
  clear HF4
  go_wp2_with (fail)
  refine (HMIN.out _).mono ?_
  rintro e v3 ⟨rfl, hb⟩
  have hf := HF.out.ext hb
  have HF4 := Lib.hid hf
  clear hf hb HF
  have HF := HF4
  clear HF4
  go_wp2_with (fail)
  refine (HBQ.out _).mono ?_
  rintro e v4 ⟨rfl, hb⟩
  have hf := HF.out.ext hb
  have ka : Blk (v4.alloc (.cells #[.int .u8 0, .int .u8 0, .int .u8 0, .int .u8 0, .int .u8 0, .int .u8 0, .int .u8 0, .int .u8 0, .int .u8 0, .int .u8 0, .int .u8 0, .int .u8 0, .int .u8 0, .int .u8 0, .int .u8 0, .int .u8 0, .int .u8 0, .int .u8 0, .int .u8 0, .int .u8 0, .int .u8 0, .int .u8 0, .int .u8 0, .int .u8 0, .int .u8 0, .int .u8 0, .int .u8 0, .int .u8 0, .int .u8 0, .int .u8 0, .int .u8 0, .int .u8 0] 23)) v4.heap.size 23 #[.int .u8 0, .int .u8 0, .int .u8 0, .int .u8 0, .int .u8 0, .int .u8 0, .int .u8 0, .int .u8 0, .int .u8 0, .int .u8 0, .int .u8 0, .int .u8 0, .int .u8 0, .int .u8 0, .int .u8 0, .int .u8 0, .int .u8 0, .int .u8 0, .int .u8 0, .int .u8 0, .int .u8 0, .int .u8 0, .int .u8 0, .int .u8 0, .int .u8 0, .int .u8 0, .int .u8 0, .int .u8 0, .int .u8 0, .int .u8 0, .int .u8 0, .int .u8 0] := Blk.new _ _ _
  have kc := ka.setRow_same (ks q)
  have hf3 := ((hf.pass (.cells #[.int .u8 0, .int .u8 0, .int .u8 0, .int .u8 0, .int .u8 0, .int .u8 0, .int .u8 0, .int .u8 0, .int .u8 0, .int .u8 0, .int .u8 0, .int .u8 0, .int .u8 0, .int .u8 0, .int .u8 0, .int .u8 0, .int .u8 0, .int .u8 0, .int .u8 0, .int .u8 0, .int .u8 0, .int .u8 0, .int .u8 0, .int .u8 0, .int .u8 0, .int .u8 0, .int .u8 0, .int .u8 0, .int .u8 0, .int .u8 0, .int .u8 0, .int .u8 0] 23)).setOut (g := v4.heap.size) (by have := hf.size; omega) (by intro p hp; exact Nat.ne_of_lt (hf.rows p hp).lt) (by simp) (ks q)).more kc
  have hsz : (#[.int .u8 0, .int .u8 0, .int .u8 0, .int .u8 0, .int .u8 0, .int .u8 0, .int .u8 0, .int .u8 0, .int .u8 0, .int .u8 0, .int .u8 0, .int .u8 0, .int .u8 0, .int .u8 0, .int .u8 0, .int .u8 0, .int .u8 0, .int .u8 0, .int .u8 0, .int .u8 0, .int .u8 0, .int .u8 0, .int .u8 0, .int .u8 0, .int .u8 0, .int .u8 0, .int .u8 0, .int .u8 0, .int .u8 0, .int .u8 0, .int .u8 0, .int .u8 0] : Array Value).size = (ks q).size := by rw [ks_size]; rfl
  have KA := Lib.hid ka
  have HSZ := Lib.hid hsz
  have HF4 := Lib.hid hf3
  clear hb hf kc ka hf3 HF hsz
  go_wp2_with (first | (refine wpList_store_row rfl 23 (.tmp 5) (.tmp 13) rfl (v4.heap.size) (ks q) rfl rfl 23 _ KA.out (info_ks _) HSZ.out (ks_one _) ?_))
  have HF := HF4
  clear HF4 KA HSZ
  obtain ⟨wd, hwd⟩ : ∃ wz : World, wz = (v4.alloc (.cells #[.int .u8 0, .int .u8 0, .int .u8 0, .int .u8 0, .int .u8 0, .int .u8 0, .int .u8 0, .int .u8 0, .int .u8 0, .int .u8 0, .int .u8 0, .int .u8 0, .int .u8 0, .int .u8 0, .int .u8 0, .int .u8 0, .int .u8 0, .int .u8 0, .int .u8 0, .int .u8 0, .int .u8 0, .int .u8 0, .int .u8 0, .int .u8 0, .int .u8 0, .int .u8 0, .int .u8 0, .int .u8 0, .int .u8 0, .int .u8 0, .int .u8 0, .int .u8 0] 23)).setRow v4.heap.size (ks q) := ⟨_, rfl⟩
  rw [← hwd] at HF ⊢
  clear hwd
  obtain ⟨g5, hg5⟩ : ∃ g5, g5 = v4.heap.size := ⟨_, rfl⟩
  rw [← hg5] at HF ⊢
  clear hg5
  try simp only [Act.put, List.getElem_toArray, List.setIfInBounds_toArray, List.set_cons_zero, List.set_cons_succ]
  refine wp_region_held_drew (S := fun W => Fr w W [(g5, 23, ks q), (w.heap.size, 23, ks k)] []) (by kernel_rfl) ?_ (fun hHeld => ?_)
  · exact HF.out.drew
  refine wpAnyH_take (i := 0) (v := ?_) rfl (by kernel_rfl) (by kernel_rfl) (by kernel_rfl) (fun _ _ _ h => h) (Or.inl ⟨by rfl, ?_⟩) hHeld ?_
  rotate_left
  · (intro W hSw; (try dsimp only at hSw); (try simp only [List.getElem_toArray, List.getElem_cons_succ, List.getElem_cons_zero]); go_simp; try with_reducible rfl)
  try simp only [Act.put, List.getElem_toArray, List.getElem_cons_succ, List.getElem_cons_zero, List.setIfInBounds_toArray, List.set_cons_zero, List.set_cons_succ]
  refine wpAnyH_take (i := 1) (v := ?_) rfl (by kernel_rfl) (by kernel_rfl) (by kernel_rfl) (fun _ _ _ h => h) (Or.inl ⟨by rfl, ?_⟩) hHeld ?_
  rotate_left
  · (intro W hSw; (try dsimp only at hSw); (try simp only [List.getElem_toArray, List.getElem_cons_succ, List.getElem_cons_zero]); go_simp; try with_reducible rfl)
  try simp only [Act.put, List.getElem_toArray, List.getElem_cons_succ, List.getElem_cons_zero, List.setIfInBounds_toArray, List.set_cons_zero, List.set_cons_succ]
  refine wpAnyH_take (i := 2) (v := .agg (ks q)) rfl (by kernel_rfl) (by kernel_rfl) (by kernel_rfl) (fun _ _ _ h => h) (yields_row (by rfl) 23 (.tmp 5) rfl (g5) rfl 23 (ks q) _ (fun W (h : Fr _ W _ _) => h.get (by simp)) Tryd.underlying23 rfl (info_ks _)) hHeld ?_
  try simp only [Act.put, List.getElem_toArray, List.getElem_cons_succ, List.getElem_cons_zero, List.setIfInBounds_toArray, List.set_cons_zero, List.set_cons_succ]
  refine wpAnyH_ready (rs := [3]) (by kernel_rfl) (by simp) (AllReadyH.cons rfl (fun K hK => ?_) AllReadyH.nil)
  have h0 := hHeld
  clear hHeld
  try simp only [List.getElem_toArray, List.getElem_cons_succ, List.getElem_cons_zero]
  have H0 := Lib.hid h0
  clear h0
  go_simp
  go_at_call 15
  refine (HPR.out _).mono ?_
  rintro e vv ⟨rfl, hb⟩
  have h1 := H0.out.ext hb
  clear hb H0
  go_wp2_with (fail)
  refine hK.out _ _ h1 (fun hHeld => ?_)
  clear hK K h1
  try simp only [Act.put, List.getElem_toArray, List.getElem_cons_succ, List.getElem_cons_zero, List.setIfInBounds_toArray, List.set_cons_zero, List.set_cons_succ]
  refine wpAnyH_ready (rs := [4]) (by kernel_rfl) (by simp) (AllReadyH.cons rfl (fun K hK => ?_) AllReadyH.nil)
  have h0 := hHeld
  clear hHeld
  try simp only [List.getElem_toArray, List.getElem_cons_succ, List.getElem_cons_zero]
  have H0 := Lib.hid h0
  clear h0
  go_simp
  go_at_call 13
  refine (HBP.out _).mono ?_
  rintro e vv ⟨rfl, hb⟩
  have h1 := H0.out.ext hb
  clear hb H0
  go_wp2_with (fail)
  refine hK.out _ _ h1 (fun hHeld => ?_)
  clear hK K h1
  try simp only [Act.put, List.getElem_toArray, List.getElem_cons_succ, List.getElem_cons_zero, List.setIfInBounds_toArray, List.set_cons_zero, List.set_cons_succ]
  refine wpAnyH_ready (rs := [5]) (by kernel_rfl) (by simp) (AllReadyH.cons rfl (fun K hK => ?_) AllReadyH.nil)
  have h0 := hHeld
  clear hHeld
  try simp only [List.getElem_toArray, List.getElem_cons_succ, List.getElem_cons_zero]
  rw [if_pos (by rfl)]
  refine wp_keys4 _ rfl [(0, .agg #[.int .u8 0, .int .u8 0, .int .u8 0, .int .u8 0, .int .u8 0, .int .u8 0, .int .u8 0, .int .u8 0, .int .u8 0, .int .u8 0, .int .u8 0, .int .u8 0, .int .u8 0, .int .u8 0, .int .u8 0, .int .u8 0, .int .u8 0, .int .u8 0, .int .u8 0, .int .u8 0, .int .u8 0, .int .u8 0, .int .u8 0, .int .u8 0, .int .u8 0, .int .u8 0, .int .u8 0, .int .u8 0, .int .u8 0, .int .u8 0, .int .u8 0, .int .u8 0]), (1, .agg #[.int .u8 1, .int .u8 0, .int .u8 0, .int .u8 0, .int .u8 0, .int .u8 0, .int .u8 0, .int .u8 0, .int .u8 0, .int .u8 0, .int .u8 0, .int .u8 0, .int .u8 0, .int .u8 0, .int .u8 0, .int .u8 0, .int .u8 0, .int .u8 0, .int .u8 0, .int .u8 0, .int .u8 0, .int .u8 0, .int .u8 0, .int .u8 0, .int .u8 0, .int .u8 0, .int .u8 0, .int .u8 0, .int .u8 0, .int .u8 0, .int .u8 0, .int .u8 0]), (2, .agg (ks q)), (3, .agg (ks pp))] (by kernel_rfl) (by rw [HQ.out, HPP.out]; rfl) ?_
  obtain ⟨kn, _⟩ := Fn.fresh (Fr.now h0) 23 fourC
  have KN := Lib.hid kn
  clear kn
  refine hK.out _ _ (Fr.pass h0 _) (fun hHeld => ?_)
  clear hK K h0
  try simp only [Act.put, List.getElem_toArray, List.getElem_cons_succ, List.getElem_cons_zero, List.setIfInBounds_toArray, List.set_cons_zero, List.set_cons_succ]
  refine wpAnyH_take (i := 6) (v := ?_) rfl (by kernel_rfl) (by kernel_rfl) (by kernel_rfl) (fun _ _ _ h => h) (Or.inl ⟨by rfl, ?_⟩) hHeld ?_
  rotate_left
  · (intro W hSw; (try dsimp only at hSw); (try simp only [List.getElem_toArray, List.getElem_cons_succ, List.getElem_cons_zero]); go_simp; try with_reducible rfl)
  try simp only [Act.put, List.getElem_toArray, List.getElem_cons_succ, List.getElem_cons_zero, List.setIfInBounds_toArray, List.set_cons_zero, List.set_cons_succ]
  refine wpAnyH_done (by kernel_rfl) ?_ _
  have kn2 := KN.out
  have hf2 := hHeld
  clear hHeld KN HF
  obtain ⟨wz, hwz⟩ : ∃ z : World, z = World.alloc vv (.cells fourC 23) := ⟨_, rfl⟩
  rw [← hwz] at hf2 kn2 ⊢
  clear hwz
  obtain ⟨gS, hgS⟩ : ∃ g, g = vv.heap.size := ⟨_, rfl⟩
  rw [← hgS] at kn2 ⊢
  clear hgS
  have hr : wz.rangeAt gS 64 (ks n).toList := by rw [HN.out]; exact (four_range kn2).2.2.1
  have HR := Lib.hid hr
  have HF := Lib.hid hf2
  clear hr kn2 hf2
  have hb := True.intro
  have hf := HF.out
  have ka : Blk (wz.alloc (.cells #[.int .u8 0, .int .u8 0, .int .u8 0, .int .u8 0, .int .u8 0, .int .u8 0, .int .u8 0, .int .u8 0, .int .u8 0, .int .u8 0, .int .u8 0, .int .u8 0, .int .u8 0, .int .u8 0, .int .u8 0, .int .u8 0, .int .u8 0, .int .u8 0, .int .u8 0, .int .u8 0, .int .u8 0, .int .u8 0, .int .u8 0, .int .u8 0, .int .u8 0, .int .u8 0, .int .u8 0, .int .u8 0, .int .u8 0, .int .u8 0, .int .u8 0, .int .u8 0] 23)) wz.heap.size 23 #[.int .u8 0, .int .u8 0, .int .u8 0, .int .u8 0, .int .u8 0, .int .u8 0, .int .u8 0, .int .u8 0, .int .u8 0, .int .u8 0, .int .u8 0, .int .u8 0, .int .u8 0, .int .u8 0, .int .u8 0, .int .u8 0, .int .u8 0, .int .u8 0, .int .u8 0, .int .u8 0, .int .u8 0, .int .u8 0, .int .u8 0, .int .u8 0, .int .u8 0, .int .u8 0, .int .u8 0, .int .u8 0, .int .u8 0, .int .u8 0, .int .u8 0, .int .u8 0] := Blk.new _ _ _
  have kc := ka.setRow_same (ks n)
  have hf3 := ((hf.pass (.cells #[.int .u8 0, .int .u8 0, .int .u8 0, .int .u8 0, .int .u8 0, .int .u8 0, .int .u8 0, .int .u8 0, .int .u8 0, .int .u8 0, .int .u8 0, .int .u8 0, .int .u8 0, .int .u8 0, .int .u8 0, .int .u8 0, .int .u8 0, .int .u8 0, .int .u8 0, .int .u8 0, .int .u8 0, .int .u8 0, .int .u8 0, .int .u8 0, .int .u8 0, .int .u8 0, .int .u8 0, .int .u8 0, .int .u8 0, .int .u8 0, .int .u8 0, .int .u8 0] 23)).setOut (g := wz.heap.size) (by have := hf.size; omega) (by intro p hp; exact Nat.ne_of_lt (hf.rows p hp).lt) (by simp) (ks n)).more kc
  have hsz : (#[.int .u8 0, .int .u8 0, .int .u8 0, .int .u8 0, .int .u8 0, .int .u8 0, .int .u8 0, .int .u8 0, .int .u8 0, .int .u8 0, .int .u8 0, .int .u8 0, .int .u8 0, .int .u8 0, .int .u8 0, .int .u8 0, .int .u8 0, .int .u8 0, .int .u8 0, .int .u8 0, .int .u8 0, .int .u8 0, .int .u8 0, .int .u8 0, .int .u8 0, .int .u8 0, .int .u8 0, .int .u8 0, .int .u8 0, .int .u8 0, .int .u8 0, .int .u8 0] : Array Value).size = (ks n).size := by rw [ks_size]; rfl
  have l2 := hf3.get (g := w.heap.size) (t := 23) (cs := ks k) (by simp)
  have l7 := hf3.get (g := wz.heap.size) (t := 23) (cs := ks n) (by simp)
  have KA := Lib.hid ka
  have HSZ := Lib.hid hsz
  have HF4 := Lib.hid hf3
  clear hb hf kc ka hf3 HF hsz
  go_wp2_with (first | (refine wpList_load_four rfl (.tmp 25) rfl gS 64 n rfl HR.out ?_) | (refine wpList_store_row rfl 23 (.tmp 7) (.tmp 26) rfl (wz.heap.size) (ks n) rfl rfl 23 _ KA.out (info_ks _) HSZ.out (ks_one _) ?_) | (refine wpList_load_row rfl 23 (.tmp 2) rfl (w.heap.size) rfl 23 (ks k) (0, 0) _ l2 Tryd.underlying23 rfl (info_ks _) ?_) | (refine wpList_load_row rfl 23 (.tmp 7) rfl (wz.heap.size) rfl 23 (ks n) (0, 0) _ l7 Tryd.underlying23 rfl (info_ks _) ?_))
  have HF := HF4
  clear HF4 KA HSZ l2 l7
  clear HR hi hw
  refine (HSH.out _ (Fr.pg HF.out HP.out)).mono ?_
  rintro e v6 ⟨rfl, hb⟩
  have hf := HF.out.ext hb
  have ka : Blk (v6.alloc (.cells #[.int .u8 0, .int .u8 0, .int .u8 0, .int .u8 0, .int .u8 0, .int .u8 0, .int .u8 0, .int .u8 0, .int .u8 0, .int .u8 0, .int .u8 0, .int .u8 0, .int .u8 0, .int .u8 0, .int .u8 0, .int .u8 0, .int .u8 0, .int .u8 0, .int .u8 0, .int .u8 0, .int .u8 0, .int .u8 0, .int .u8 0, .int .u8 0, .int .u8 0, .int .u8 0, .int .u8 0, .int .u8 0, .int .u8 0, .int .u8 0, .int .u8 0, .int .u8 0] 23)) v6.heap.size 23 #[.int .u8 0, .int .u8 0, .int .u8 0, .int .u8 0, .int .u8 0, .int .u8 0, .int .u8 0, .int .u8 0, .int .u8 0, .int .u8 0, .int .u8 0, .int .u8 0, .int .u8 0, .int .u8 0, .int .u8 0, .int .u8 0, .int .u8 0, .int .u8 0, .int .u8 0, .int .u8 0, .int .u8 0, .int .u8 0, .int .u8 0, .int .u8 0, .int .u8 0, .int .u8 0, .int .u8 0, .int .u8 0, .int .u8 0, .int .u8 0, .int .u8 0, .int .u8 0] := Blk.new _ _ _
  have kc := ka.setRow_same (ks m)
  have hf3 := ((hf.pass (.cells #[.int .u8 0, .int .u8 0, .int .u8 0, .int .u8 0, .int .u8 0, .int .u8 0, .int .u8 0, .int .u8 0, .int .u8 0, .int .u8 0, .int .u8 0, .int .u8 0, .int .u8 0, .int .u8 0, .int .u8 0, .int .u8 0, .int .u8 0, .int .u8 0, .int .u8 0, .int .u8 0, .int .u8 0, .int .u8 0, .int .u8 0, .int .u8 0, .int .u8 0, .int .u8 0, .int .u8 0, .int .u8 0, .int .u8 0, .int .u8 0, .int .u8 0, .int .u8 0] 23)).setOut (g := v6.heap.size) (by have := hf.size; omega) (by intro p hp; exact Nat.ne_of_lt (hf.rows p hp).lt) (by simp) (ks m)).more kc
  have hsz : (#[.int .u8 0, .int .u8 0, .int .u8 0, .int .u8 0, .int .u8 0, .int .u8 0, .int .u8 0, .int .u8 0, .int .u8 0, .int .u8 0, .int .u8 0, .int .u8 0, .int .u8 0, .int .u8 0, .int .u8 0, .int .u8 0, .int .u8 0, .int .u8 0, .int .u8 0, .int .u8 0, .int .u8 0, .int .u8 0, .int .u8 0, .int .u8 0, .int .u8 0, .int .u8 0, .int .u8 0, .int .u8 0, .int .u8 0, .int .u8 0, .int .u8 0, .int .u8 0] : Array Value).size = (ks m).size := by rw [ks_size]; rfl
  have l8 := hf3.get (g := v6.heap.size) (t := 23) (cs := ks m) (by simp)
  have l2 := hf3.get (g := w.heap.size) (t := 23) (cs := ks k) (by simp)
  have l7 := hf3.get (g := wz.heap.size) (t := 23) (cs := ks n) (by simp)
  have KA := Lib.hid ka
  have HSZ := Lib.hid hsz
  have HF4 := Lib.hid hf3
  clear hb hf kc ka hf3 HF hsz
  go_wp2_with (first | (refine wpList_store_row rfl 23 (.tmp 8) (.tmp 31) rfl (v6.heap.size) (ks m) rfl rfl 23 _ KA.out (info_ks _) HSZ.out (ks_one _) ?_) | (refine wpList_load_wanted (by kernel_rfl) 23 (.tmp 8) rfl (v6.heap.size) rfl 23 (ks m) (0, 0) _ l8 Tryd.underlying23 rfl (info_ks _) ?_) | (refine wpList_load_wanted (by kernel_rfl) 23 (.tmp 2) rfl (w.heap.size) rfl 23 (ks k) (0, 0) _ l2 Tryd.underlying23 rfl (info_ks _) ?_) | (refine wpList_load_wanted (by kernel_rfl) 23 (.tmp 7) rfl (wz.heap.size) rfl 23 (ks n) (0, 0) _ l7 Tryd.underlying23 rfl (info_ks _) ?_))
  have HF := HF4
  clear HF4 KA HSZ l8 l2 l7
  refine (HMU.out _ (Fr.pg HF.out HP.out)).mono ?_
  rintro e v7 ⟨rfl, hb⟩
  have hf := HF.out.ext hb
  have HF4 := Lib.hid hf
  clear hf hb HF
  have HF := HF4
  clear HF4
  go_wp2_with (fail)
  refine (lknown_any _ (Fr.pg HF.out HP.out)).mono ?_
  rintro e v8 ⟨rfl, hb⟩
  have hf := HF.out.ext hb
  have HB := Lib.hid hf.below
  clear hf hb HF
  go_wp2_with (fail)
  go_ret
  exact ⟨rfl, HB.out⟩
set_option maxRecDepth 100000 in
set_option maxHeartbeats 16000000 in
theorem law_low3 (k : Nat) (i : Int) (w : World) (hpg : PG w) (hk : k < 115792089237316195423570985008687907853269984665640564039457584007913129639936) (hi : (i.tmod 4 + 4).tmod 4 = 3) (hw : IntKind.i64.wrap (i.tmod 4 + 4) = i.tmod 4 + 4) : Calls Tryd.prog 6 #[.agg (ks k), .int .i64 i] w (BPost true w) := by
  obtain ⟨n, hn⟩ : ∃ n, n = PP := ⟨_, rfl⟩
  have hnl : n < 115792089237316195423570985008687907853269984665640564039457584007913129639936 := by rw [hn]; first | omega | exact minus_one_lim | exact PP_lim
  obtain ⟨y, hy⟩ : ∃ y, y = lad Q0 (clampN k) (ofK n) := ⟨_, rfl⟩
  have hy0 : y = 0 := by rw [hy, hn]; exact lad_low LD _ _ (clampN_lt hk) (clampN_even hk) (.inl ofK_p)
  obtain ⟨m, hm⟩ : ∃ m, m = y.val := ⟨_, rfl⟩
  have hz : m = 0 := by rw [hm, hy0]; exact val_0
  have hsh := fun W hp => shared_no hy hm hk hnl hz W hp
  have hmu := fun W hp => lmulR hy hm hk hnl W hp
  have hke := fun W => keys_eq (n := m) (m := 0) (b := true) (by rw [hz]; omega) (by omega) (decide_eq_true hz) W
  rw [ks_zero] at hke
  obtain ⟨q, hq⟩ : ∃ q, q = PP - 1 := ⟨_, rfl⟩
  obtain ⟨pp, hpp⟩ : ∃ q, q = PP := ⟨_, rfl⟩
  have h1 : (1 : Nat) ≤ PP := by rw [PP_eq]; omega
  have hmin := fun W => rminus_any PP 1 W PP_lim h1
  have hbq := fun W => rbytes_any (PP - 1) W minus_one_lim
  rw [← hq] at hmin hbq
  have hbp := fun W => rbytes_any PP W PP_lim
  have hpr := fun W => rprime_any W
  rw [← hpp] at hmin hbp
  simp only [← hpp] at hpr
  have hfr := (Fr.start w).row (ks k) 23 (g := w.heap.size) rfl
  have HP := Lib.hid hpg
  have HF := Lib.hid hfr
  have HN := Lib.hid hn
  have HQ := Lib.hid hq
  have HPP := Lib.hid hpp
  have HSH := Lib.hid hsh
  have HMU := Lib.hid hmu
  have HMIN := Lib.hid hmin
  have HBQ := Lib.hid hbq
  have HBP := Lib.hid hbp
  have HPR := Lib.hid hpr
  clear hpg hfr hsh hmu hmin hbq hbp hpr hz hm hy0 hy hnl hn hq hpp h1 hk
  go_enter Tryd.func6, Tryd.ntmps6
  go_wp2_with (fail)
  refine (HPR.out _).mono ?_
  rintro e v1 ⟨rfl, hb⟩
  have hf := HF.out.ext hb
  have HF4 := Lib.hid hf
  clear hf hb HF
  have HF := HF4
  clear HF4
  go_wp2_with (fail)
  refine (rsmall_any 1 _ (by omega)).mono ?_
  rintro e v2 ⟨rfl, hb⟩
  have hf := HF.out.ext hb
  have HF4 := Lib.hid hf
  clear hf hb HF
  have HF := HF4
  clear HF4
  go_wp2_with (fail)
  refine (HMIN.out _).mono ?_
  rintro e v3 ⟨rfl, hb⟩
  have hf := HF.out.ext hb
  have HF4 := Lib.hid hf
  clear hf hb HF
  have HF := HF4
  clear HF4
  go_wp2_with (fail)
  refine (HBQ.out _).mono ?_
  rintro e v4 ⟨rfl, hb⟩
  have hf := HF.out.ext hb
  have ka : Blk (v4.alloc (.cells #[.int .u8 0, .int .u8 0, .int .u8 0, .int .u8 0, .int .u8 0, .int .u8 0, .int .u8 0, .int .u8 0, .int .u8 0, .int .u8 0, .int .u8 0, .int .u8 0, .int .u8 0, .int .u8 0, .int .u8 0, .int .u8 0, .int .u8 0, .int .u8 0, .int .u8 0, .int .u8 0, .int .u8 0, .int .u8 0, .int .u8 0, .int .u8 0, .int .u8 0, .int .u8 0, .int .u8 0, .int .u8 0, .int .u8 0, .int .u8 0, .int .u8 0, .int .u8 0] 23)) v4.heap.size 23 #[.int .u8 0, .int .u8 0, .int .u8 0, .int .u8 0, .int .u8 0, .int .u8 0, .int .u8 0, .int .u8 0, .int .u8 0, .int .u8 0, .int .u8 0, .int .u8 0, .int .u8 0, .int .u8 0, .int .u8 0, .int .u8 0, .int .u8 0, .int .u8 0, .int .u8 0, .int .u8 0, .int .u8 0, .int .u8 0, .int .u8 0, .int .u8 0, .int .u8 0, .int .u8 0, .int .u8 0, .int .u8 0, .int .u8 0, .int .u8 0, .int .u8 0, .int .u8 0] := Blk.new _ _ _
  have kc := ka.setRow_same (ks q)
  have hf3 := ((hf.pass (.cells #[.int .u8 0, .int .u8 0, .int .u8 0, .int .u8 0, .int .u8 0, .int .u8 0, .int .u8 0, .int .u8 0, .int .u8 0, .int .u8 0, .int .u8 0, .int .u8 0, .int .u8 0, .int .u8 0, .int .u8 0, .int .u8 0, .int .u8 0, .int .u8 0, .int .u8 0, .int .u8 0, .int .u8 0, .int .u8 0, .int .u8 0, .int .u8 0, .int .u8 0, .int .u8 0, .int .u8 0, .int .u8 0, .int .u8 0, .int .u8 0, .int .u8 0, .int .u8 0] 23)).setOut (g := v4.heap.size) (by have := hf.size; omega) (by intro p hp; exact Nat.ne_of_lt (hf.rows p hp).lt) (by simp) (ks q)).more kc
  have hsz : (#[.int .u8 0, .int .u8 0, .int .u8 0, .int .u8 0, .int .u8 0, .int .u8 0, .int .u8 0, .int .u8 0, .int .u8 0, .int .u8 0, .int .u8 0, .int .u8 0, .int .u8 0, .int .u8 0, .int .u8 0, .int .u8 0, .int .u8 0, .int .u8 0, .int .u8 0, .int .u8 0, .int .u8 0, .int .u8 0, .int .u8 0, .int .u8 0, .int .u8 0, .int .u8 0, .int .u8 0, .int .u8 0, .int .u8 0, .int .u8 0, .int .u8 0, .int .u8 0] : Array Value).size = (ks q).size := by rw [ks_size]; rfl
  have KA := Lib.hid ka
  have HSZ := Lib.hid hsz
  have HF4 := Lib.hid hf3
  clear hb hf kc ka hf3 HF hsz
  go_wp2_with (first | (refine wpList_store_row rfl 23 (.tmp 5) (.tmp 13) rfl (v4.heap.size) (ks q) rfl rfl 23 _ KA.out (info_ks _) HSZ.out (ks_one _) ?_))
  have HF := HF4
  clear HF4 KA HSZ
  obtain ⟨wd, hwd⟩ : ∃ wz : World, wz = (v4.alloc (.cells #[.int .u8 0, .int .u8 0, .int .u8 0, .int .u8 0, .int .u8 0, .int .u8 0, .int .u8 0, .int .u8 0, .int .u8 0, .int .u8 0, .int .u8 0, .int .u8 0, .int .u8 0, .int .u8 0, .int .u8 0, .int .u8 0, .int .u8 0, .int .u8 0, .int .u8 0, .int .u8 0, .int .u8 0, .int .u8 0, .int .u8 0, .int .u8 0, .int .u8 0, .int .u8 0, .int .u8 0, .int .u8 0, .int .u8 0, .int .u8 0, .int .u8 0, .int .u8 0] 23)).setRow v4.heap.size (ks q) := ⟨_, rfl⟩
  rw [← hwd] at HF ⊢
  clear hwd
  obtain ⟨g5, hg5⟩ : ∃ g5, g5 = v4.heap.size := ⟨_, rfl⟩
  rw [← hg5] at HF ⊢
  clear hg5
  try simp only [Act.put, List.getElem_toArray, List.setIfInBounds_toArray, List.set_cons_zero, List.set_cons_succ]
  refine wp_region_held_drew (S := fun W => Fr w W [(g5, 23, ks q), (w.heap.size, 23, ks k)] []) (by kernel_rfl) ?_ (fun hHeld => ?_)
  · exact HF.out.drew
  refine wpAnyH_take (i := 0) (v := ?_) rfl (by kernel_rfl) (by kernel_rfl) (by kernel_rfl) (fun _ _ _ h => h) (Or.inl ⟨by rfl, ?_⟩) hHeld ?_
  rotate_left
  · (intro W hSw; (try dsimp only at hSw); (try simp only [List.getElem_toArray, List.getElem_cons_succ, List.getElem_cons_zero]); go_simp; try with_reducible rfl)
  try simp only [Act.put, List.getElem_toArray, List.getElem_cons_succ, List.getElem_cons_zero, List.setIfInBounds_toArray, List.set_cons_zero, List.set_cons_succ]
  refine wpAnyH_take (i := 1) (v := ?_) rfl (by kernel_rfl) (by kernel_rfl) (by kernel_rfl) (fun _ _ _ h => h) (Or.inl ⟨by rfl, ?_⟩) hHeld ?_
  rotate_left
  · (intro W hSw; (try dsimp only at hSw); (try simp only [List.getElem_toArray, List.getElem_cons_succ, List.getElem_cons_zero]); go_simp; try with_reducible rfl)
  try simp only [Act.put, List.getElem_toArray, List.getElem_cons_succ, List.getElem_cons_zero, List.setIfInBounds_toArray, List.set_cons_zero, List.set_cons_succ]
  refine wpAnyH_take (i := 2) (v := .agg (ks q)) rfl (by kernel_rfl) (by kernel_rfl) (by kernel_rfl) (fun _ _ _ h => h) (yields_row (by rfl) 23 (.tmp 5) rfl (g5) rfl 23 (ks q) _ (fun W (h : Fr _ W _ _) => h.get (by simp)) Tryd.underlying23 rfl (info_ks _)) hHeld ?_
  try simp only [Act.put, List.getElem_toArray, List.getElem_cons_succ, List.getElem_cons_zero, List.setIfInBounds_toArray, List.set_cons_zero, List.set_cons_succ]
  refine wpAnyH_ready (rs := [3]) (by kernel_rfl) (by simp) (AllReadyH.cons rfl (fun K hK => ?_) AllReadyH.nil)
  have h0 := hHeld
  clear hHeld
  try simp only [List.getElem_toArray, List.getElem_cons_succ, List.getElem_cons_zero]
  have H0 := Lib.hid h0
  clear h0
  go_simp
  go_at_call 15
  refine (HPR.out _).mono ?_
  rintro e vv ⟨rfl, hb⟩
  have h1 := H0.out.ext hb
  clear hb H0
  go_wp2_with (fail)
  refine hK.out _ _ h1 (fun hHeld => ?_)
  clear hK K h1
  try simp only [Act.put, List.getElem_toArray, List.getElem_cons_succ, List.getElem_cons_zero, List.setIfInBounds_toArray, List.set_cons_zero, List.set_cons_succ]
  refine wpAnyH_ready (rs := [4]) (by kernel_rfl) (by simp) (AllReadyH.cons rfl (fun K hK => ?_) AllReadyH.nil)
  have h0 := hHeld
  clear hHeld
  try simp only [List.getElem_toArray, List.getElem_cons_succ, List.getElem_cons_zero]
  have H0 := Lib.hid h0
  clear h0
  go_simp
  go_at_call 13
  refine (HBP.out _).mono ?_
  rintro e vv ⟨rfl, hb⟩
  have h1 := H0.out.ext hb
  clear hb H0
  go_wp2_with (fail)
  refine hK.out _ _ h1 (fun hHeld => ?_)
  clear hK K h1
  try simp only [Act.put, List.getElem_toArray, List.getElem_cons_succ, List.getElem_cons_zero, List.setIfInBounds_toArray, List.set_cons_zero, List.set_cons_succ]
  refine wpAnyH_ready (rs := [5]) (by kernel_rfl) (by simp) (AllReadyH.cons rfl (fun K hK => ?_) AllReadyH.nil)
  have h0 := hHeld
  clear hHeld
  try simp only [List.getElem_toArray, List.getElem_cons_succ, List.getElem_cons_zero]
  rw [if_pos (by rfl)]
  refine wp_keys4 _ rfl [(0, .agg #[.int .u8 0, .int .u8 0, .int .u8 0, .int .u8 0, .int .u8 0, .int .u8 0, .int .u8 0, .int .u8 0, .int .u8 0, .int .u8 0, .int .u8 0, .int .u8 0, .int .u8 0, .int .u8 0, .int .u8 0, .int .u8 0, .int .u8 0, .int .u8 0, .int .u8 0, .int .u8 0, .int .u8 0, .int .u8 0, .int .u8 0, .int .u8 0, .int .u8 0, .int .u8 0, .int .u8 0, .int .u8 0, .int .u8 0, .int .u8 0, .int .u8 0, .int .u8 0]), (1, .agg #[.int .u8 1, .int .u8 0, .int .u8 0, .int .u8 0, .int .u8 0, .int .u8 0, .int .u8 0, .int .u8 0, .int .u8 0, .int .u8 0, .int .u8 0, .int .u8 0, .int .u8 0, .int .u8 0, .int .u8 0, .int .u8 0, .int .u8 0, .int .u8 0, .int .u8 0, .int .u8 0, .int .u8 0, .int .u8 0, .int .u8 0, .int .u8 0, .int .u8 0, .int .u8 0, .int .u8 0, .int .u8 0, .int .u8 0, .int .u8 0, .int .u8 0, .int .u8 0]), (2, .agg (ks q)), (3, .agg (ks pp))] (by kernel_rfl) (by rw [HQ.out, HPP.out]; rfl) ?_
  obtain ⟨kn, _⟩ := Fn.fresh (Fr.now h0) 23 fourC
  have KN := Lib.hid kn
  clear kn
  refine hK.out _ _ (Fr.pass h0 _) (fun hHeld => ?_)
  clear hK K h0
  try simp only [Act.put, List.getElem_toArray, List.getElem_cons_succ, List.getElem_cons_zero, List.setIfInBounds_toArray, List.set_cons_zero, List.set_cons_succ]
  refine wpAnyH_take (i := 6) (v := ?_) rfl (by kernel_rfl) (by kernel_rfl) (by kernel_rfl) (fun _ _ _ h => h) (Or.inl ⟨by rfl, ?_⟩) hHeld ?_
  rotate_left
  · (intro W hSw; (try dsimp only at hSw); (try simp only [List.getElem_toArray, List.getElem_cons_succ, List.getElem_cons_zero]); go_simp; try with_reducible rfl)
  try simp only [Act.put, List.getElem_toArray, List.getElem_cons_succ, List.getElem_cons_zero, List.setIfInBounds_toArray, List.set_cons_zero, List.set_cons_succ]
  refine wpAnyH_done (by kernel_rfl) ?_ _
  have kn2 := KN.out
  have hf2 := hHeld
  clear hHeld KN HF
  obtain ⟨wz, hwz⟩ : ∃ z : World, z = World.alloc vv (.cells fourC 23) := ⟨_, rfl⟩
  rw [← hwz] at hf2 kn2 ⊢
  clear hwz
  obtain ⟨gS, hgS⟩ : ∃ g, g = vv.heap.size := ⟨_, rfl⟩
  rw [← hgS] at kn2 ⊢
  clear hgS
  have hr : wz.rangeAt gS 96 (ks n).toList := by rw [HN.out]; exact (four_range kn2).2.2.2
  have HR := Lib.hid hr
  have HF := Lib.hid hf2
  clear hr kn2 hf2
  have hb := True.intro
  have hf := HF.out
  have ka : Blk (wz.alloc (.cells #[.int .u8 0, .int .u8 0, .int .u8 0, .int .u8 0, .int .u8 0, .int .u8 0, .int .u8 0, .int .u8 0, .int .u8 0, .int .u8 0, .int .u8 0, .int .u8 0, .int .u8 0, .int .u8 0, .int .u8 0, .int .u8 0, .int .u8 0, .int .u8 0, .int .u8 0, .int .u8 0, .int .u8 0, .int .u8 0, .int .u8 0, .int .u8 0, .int .u8 0, .int .u8 0, .int .u8 0, .int .u8 0, .int .u8 0, .int .u8 0, .int .u8 0, .int .u8 0] 23)) wz.heap.size 23 #[.int .u8 0, .int .u8 0, .int .u8 0, .int .u8 0, .int .u8 0, .int .u8 0, .int .u8 0, .int .u8 0, .int .u8 0, .int .u8 0, .int .u8 0, .int .u8 0, .int .u8 0, .int .u8 0, .int .u8 0, .int .u8 0, .int .u8 0, .int .u8 0, .int .u8 0, .int .u8 0, .int .u8 0, .int .u8 0, .int .u8 0, .int .u8 0, .int .u8 0, .int .u8 0, .int .u8 0, .int .u8 0, .int .u8 0, .int .u8 0, .int .u8 0, .int .u8 0] := Blk.new _ _ _
  have kc := ka.setRow_same (ks n)
  have hf3 := ((hf.pass (.cells #[.int .u8 0, .int .u8 0, .int .u8 0, .int .u8 0, .int .u8 0, .int .u8 0, .int .u8 0, .int .u8 0, .int .u8 0, .int .u8 0, .int .u8 0, .int .u8 0, .int .u8 0, .int .u8 0, .int .u8 0, .int .u8 0, .int .u8 0, .int .u8 0, .int .u8 0, .int .u8 0, .int .u8 0, .int .u8 0, .int .u8 0, .int .u8 0, .int .u8 0, .int .u8 0, .int .u8 0, .int .u8 0, .int .u8 0, .int .u8 0, .int .u8 0, .int .u8 0] 23)).setOut (g := wz.heap.size) (by have := hf.size; omega) (by intro p hp; exact Nat.ne_of_lt (hf.rows p hp).lt) (by simp) (ks n)).more kc
  have hsz : (#[.int .u8 0, .int .u8 0, .int .u8 0, .int .u8 0, .int .u8 0, .int .u8 0, .int .u8 0, .int .u8 0, .int .u8 0, .int .u8 0, .int .u8 0, .int .u8 0, .int .u8 0, .int .u8 0, .int .u8 0, .int .u8 0, .int .u8 0, .int .u8 0, .int .u8 0, .int .u8 0, .int .u8 0, .int .u8 0, .int .u8 0, .int .u8 0, .int .u8 0, .int .u8 0, .int .u8 0, .int .u8 0, .int .u8 0, .int .u8 0, .int .u8 0, .int .u8 0] : Array Value).size = (ks n).size := by rw [ks_size]; rfl
  have l2 := hf3.get (g := w.heap.size) (t := 23) (cs := ks k) (by simp)
  have l7 := hf3.get (g := wz.heap.size) (t := 23) (cs := ks n) (by simp)
  have KA := Lib.hid ka
  have HSZ := Lib.hid hsz
  have HF4 := Lib.hid hf3
  clear hb hf kc ka hf3 HF hsz
  go_wp2_with (first | (refine wpList_load_four rfl (.tmp 25) rfl gS 96 n rfl HR.out ?_) | (refine wpList_store_row rfl 23 (.tmp 7) (.tmp 26) rfl (wz.heap.size) (ks n) rfl rfl 23 _ KA.out (info_ks _) HSZ.out (ks_one _) ?_) | (refine wpList_load_row rfl 23 (.tmp 2) rfl (w.heap.size) rfl 23 (ks k) (0, 0) _ l2 Tryd.underlying23 rfl (info_ks _) ?_) | (refine wpList_load_row rfl 23 (.tmp 7) rfl (wz.heap.size) rfl 23 (ks n) (0, 0) _ l7 Tryd.underlying23 rfl (info_ks _) ?_))
  have HF := HF4
  clear HF4 KA HSZ l2 l7
  clear HR hi hw
  refine (HSH.out _ (Fr.pg HF.out HP.out)).mono ?_
  rintro e v6 ⟨rfl, hb⟩
  have hf := HF.out.ext hb
  have ka : Blk (v6.alloc (.cells #[.int .u8 0, .int .u8 0, .int .u8 0, .int .u8 0, .int .u8 0, .int .u8 0, .int .u8 0, .int .u8 0, .int .u8 0, .int .u8 0, .int .u8 0, .int .u8 0, .int .u8 0, .int .u8 0, .int .u8 0, .int .u8 0, .int .u8 0, .int .u8 0, .int .u8 0, .int .u8 0, .int .u8 0, .int .u8 0, .int .u8 0, .int .u8 0, .int .u8 0, .int .u8 0, .int .u8 0, .int .u8 0, .int .u8 0, .int .u8 0, .int .u8 0, .int .u8 0] 23)) v6.heap.size 23 #[.int .u8 0, .int .u8 0, .int .u8 0, .int .u8 0, .int .u8 0, .int .u8 0, .int .u8 0, .int .u8 0, .int .u8 0, .int .u8 0, .int .u8 0, .int .u8 0, .int .u8 0, .int .u8 0, .int .u8 0, .int .u8 0, .int .u8 0, .int .u8 0, .int .u8 0, .int .u8 0, .int .u8 0, .int .u8 0, .int .u8 0, .int .u8 0, .int .u8 0, .int .u8 0, .int .u8 0, .int .u8 0, .int .u8 0, .int .u8 0, .int .u8 0, .int .u8 0] := Blk.new _ _ _
  have kc := ka.setRow_same (ks m)
  have hf3 := ((hf.pass (.cells #[.int .u8 0, .int .u8 0, .int .u8 0, .int .u8 0, .int .u8 0, .int .u8 0, .int .u8 0, .int .u8 0, .int .u8 0, .int .u8 0, .int .u8 0, .int .u8 0, .int .u8 0, .int .u8 0, .int .u8 0, .int .u8 0, .int .u8 0, .int .u8 0, .int .u8 0, .int .u8 0, .int .u8 0, .int .u8 0, .int .u8 0, .int .u8 0, .int .u8 0, .int .u8 0, .int .u8 0, .int .u8 0, .int .u8 0, .int .u8 0, .int .u8 0, .int .u8 0] 23)).setOut (g := v6.heap.size) (by have := hf.size; omega) (by intro p hp; exact Nat.ne_of_lt (hf.rows p hp).lt) (by simp) (ks m)).more kc
  have hsz : (#[.int .u8 0, .int .u8 0, .int .u8 0, .int .u8 0, .int .u8 0, .int .u8 0, .int .u8 0, .int .u8 0, .int .u8 0, .int .u8 0, .int .u8 0, .int .u8 0, .int .u8 0, .int .u8 0, .int .u8 0, .int .u8 0, .int .u8 0, .int .u8 0, .int .u8 0, .int .u8 0, .int .u8 0, .int .u8 0, .int .u8 0, .int .u8 0, .int .u8 0, .int .u8 0, .int .u8 0, .int .u8 0, .int .u8 0, .int .u8 0, .int .u8 0, .int .u8 0] : Array Value).size = (ks m).size := by rw [ks_size]; rfl
  have l8 := hf3.get (g := v6.heap.size) (t := 23) (cs := ks m) (by simp)
  have l2 := hf3.get (g := w.heap.size) (t := 23) (cs := ks k) (by simp)
  have l7 := hf3.get (g := wz.heap.size) (t := 23) (cs := ks n) (by simp)
  have KA := Lib.hid ka
  have HSZ := Lib.hid hsz
  have HF4 := Lib.hid hf3
  clear hb hf kc ka hf3 HF hsz
  go_wp2_with (first | (refine wpList_store_row rfl 23 (.tmp 8) (.tmp 31) rfl (v6.heap.size) (ks m) rfl rfl 23 _ KA.out (info_ks _) HSZ.out (ks_one _) ?_) | (refine wpList_load_wanted (by kernel_rfl) 23 (.tmp 8) rfl (v6.heap.size) rfl 23 (ks m) (0, 0) _ l8 Tryd.underlying23 rfl (info_ks _) ?_) | (refine wpList_load_wanted (by kernel_rfl) 23 (.tmp 2) rfl (w.heap.size) rfl 23 (ks k) (0, 0) _ l2 Tryd.underlying23 rfl (info_ks _) ?_) | (refine wpList_load_wanted (by kernel_rfl) 23 (.tmp 7) rfl (wz.heap.size) rfl 23 (ks n) (0, 0) _ l7 Tryd.underlying23 rfl (info_ks _) ?_))
  have HF := HF4
  clear HF4 KA HSZ l8 l2 l7
  refine (HMU.out _ (Fr.pg HF.out HP.out)).mono ?_
  rintro e v7 ⟨rfl, hb⟩
  have hf := HF.out.ext hb
  have HF4 := Lib.hid hf
  clear hf hb HF
  have HF := HF4
  clear HF4
  go_wp2_with (fail)
  refine (lknown_any _ (Fr.pg HF.out HP.out)).mono ?_
  rintro e v8 ⟨rfl, hb⟩
  have hf := HF.out.ext hb
  have HB := Lib.hid hf.below
  clear hf hb HF
  go_wp2_with (fail)
  go_ret
  exact ⟨rfl, HB.out⟩
theorem tmod4 (i : Int) : -4 < i.tmod 4 ∧ i.tmod 4 < 4 := ⟨Int.lt_tmod_of_pos i (by omega), Int.tmod_lt_of_pos i (by omega)⟩
theorem law_low (k : Nat) (i : Int) (w : World) (hpg : PG w) (hk : k < 115792089237316195423570985008687907853269984665640564039457584007913129639936) : Calls Tryd.prog 6 #[.agg (ks k), .int .i64 i] w (BPost true w) := by
  obtain ⟨h1, h2⟩ := tmod4 i
  have hw : IntKind.i64.wrap (i.tmod 4 + 4) = i.tmod 4 + 4 := by rw [IntKind.wrap_i64]; omega
  have hc : (i.tmod 4 + 4).tmod 4 = 0 ∨ (i.tmod 4 + 4).tmod 4 = 1 ∨ (i.tmod 4 + 4).tmod 4 = 2 ∨ (i.tmod 4 + 4).tmod 4 = 3 := by
    rw [Int.tmod_eq_emod_of_nonneg (by omega)]
    omega
  rcases hc with h | h | h | h
  · exact law_low0 k i w hpg hk h hw
  · exact law_low1 k i w hpg hk h hw
  · exact law_low2 k i w hpg hk h hw
  · exact law_low3 k i w hpg hk h hw
end Go.Proofs.YthlnnoajklmeiaaDoor
