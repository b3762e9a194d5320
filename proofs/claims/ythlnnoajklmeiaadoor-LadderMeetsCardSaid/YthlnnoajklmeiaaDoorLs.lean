/- The ladder's state as a row of cells: a field is loaded, and stored; swapped. -/
import Derived.Test.YthlnnoajklmeiaaDoorFz
import Derived.Test.YthlnnoajklmeiaaDoorLx
import Derived.Deep.MidRow
namespace Go.Proofs.YthlnnoajklmeiaaDoor
set_option linter.unusedVariables false
set_option linter.unusedSimpArgs false
open Go Go.RowKit

/-- The cells of a state. -/
def sv (s : L4 PP) : Array Value := ev s.a ++ ev s.b ++ ev s.c ++ ev s.d
theorem sv_size (s : L4 PP) : (sv s).size = 16 := rfl
theorem sv_list (s : L4 PP) : (sv s).toList = (ev s.a).toList ++ (ev s.b).toList ++ (ev s.c).toList ++ (ev s.d).toList := by simp [sv]
theorem sv_one (s : L4 PP) : (sv s).all (·.oneCell') = true := by
  have h : ∀ x : Fin PP, ∀ v ∈ (ev x).toList, v.oneCell' = true := fun x v hv => (Array.all_eq_true_iff_forall_mem.1 (ev_one x)) v (by simpa using hv)
  refine Array.all_eq_true_iff_forall_mem.2 fun v hv => ?_
  have hm : v ∈ (sv s).toList := by simpa using hv
  rw [sv_list] at hm
  simp only [List.mem_append] at hm
  rcases hm with ((hm | hm) | hm) | hm
  · exact h _ v hm
  · exact h _ v hm
  · exact h _ v hm
  · exact h _ v hm
theorem info_sv (s : L4 PP) : (Tryd.prog.info? 50).map (·.size) = some (sv s).size := by rw [sv_size]; kernel_rfl
theorem ev_show (x : Fin PP) : (ev x).toList = [.int .u64 (wd0 x.val : Int), .int .u64 (wd1 x.val : Int), .int .u64 (wd2 x.val : Int), .int .u64 (wd3 x.val : Int)] := rfl
/-- The k-th of a state's numbers. -/
def L4.at4 (s : L4 PP) : Nat → Fin PP
  | 0 => s.a
  | 1 => s.b
  | 2 => s.c
  | _ => s.d
def L4.put4 (s : L4 PP) (k : Nat) (x : Fin PP) : L4 PP :=
  match k with
  | 0 => ⟨x, s.b, s.c, s.d⟩
  | 1 => ⟨s.a, x, s.c, s.d⟩
  | 2 => ⟨s.a, s.b, x, s.d⟩
  | _ => ⟨s.a, s.b, s.c, x⟩
theorem at_sv (s : L4 PP) {k j : Nat} (hk : k < 4) (v : Value) (h : (ev (s.at4 k)).toList[j]? = some v) : (sv s)[4 * k + j]? = some v := by
  have hj : j < 4 := by have := (List.getElem?_eq_some_iff.1 h).1; exact this
  have hl : (sv s)[4 * k + j]? = (sv s).toList[4 * k + j]? := by simp
  rw [hl, sv_list]
  rcases (show k = 0 ∨ k = 1 ∨ k = 2 ∨ k = 3 by omega) with rfl | rfl | rfl | rfl <;> rcases (show j = 0 ∨ j = 1 ∨ j = 2 ∨ j = 3 by omega) with rfl | rfl | rfl | rfl <;> exact h
theorem range_sv {W : World} {g : Nat} {t : TypeId} {s : L4 PP} (h : Blk W g t (sv s)) {k : Nat} (hk : k < 4) : W.rangeAt g (4 * k) (ev (s.at4 k)).toList := fun j v hv => by
  rw [h.cell]
  exact at_sv s hk v hv
theorem there_sv {W : World} {g : Nat} {t : TypeId} {s : L4 PP} (h : Blk W g t (sv s)) {k : Nat} (hk : k < 4) : W.there g (4 * k) 4 := fun j hj => by
  refine ⟨?_, h.frozen _⟩
  rw [h.cell, Array.getElem?_eq_getElem (show 4 * k + j < (sv s).size by rw [sv_size]; omega)]
  rfl
/-- Cells that are written one after another. -/
def setL (cs : Array Value) (o : Nat) : List Value → Array Value
  | [] => cs
  | v :: r => setL (cs.setIfInBounds o v) (o + 1) r
theorem four_list (A : Array Value) (h : A.size = 4) : ∃ p q r t, A = #[p, q, r, t] := by
  obtain ⟨l⟩ := A
  match l, h with
  | [p, q, r, t], _ => exact ⟨p, q, r, t, rfl⟩
theorem setL_four (A B C D X : Array Value) (ha : A.size = 4) (hb : B.size = 4) (hc : C.size = 4) (hd : D.size = 4) (hx : X.size = 4) :
    setL (A ++ B ++ C ++ D) 0 X.toList = X ++ B ++ C ++ D ∧ setL (A ++ B ++ C ++ D) 4 X.toList = A ++ X ++ C ++ D ∧ setL (A ++ B ++ C ++ D) 8 X.toList = A ++ B ++ X ++ D ∧ setL (A ++ B ++ C ++ D) 12 X.toList = A ++ B ++ C ++ X := by
  obtain ⟨a1, a2, a3, a4, rfl⟩ := four_list A ha
  obtain ⟨b1, b2, b3, b4, rfl⟩ := four_list B hb
  obtain ⟨c1, c2, c3, c4, rfl⟩ := four_list C hc
  obtain ⟨d1, d2, d3, d4, rfl⟩ := four_list D hd
  obtain ⟨x1, x2, x3, x4, rfl⟩ := four_list X hx
  refine ⟨?_, ?_, ?_, ?_⟩ <;> simp [setL]
attribute [local irreducible] ev
theorem setL_sv (s : L4 PP) {k : Nat} (hk : k < 4) (x : Fin PP) : setL (sv s) (4 * k) (ev x).toList = sv (s.put4 k x) := by
  have h := setL_four (ev s.a) (ev s.b) (ev s.c) (ev s.d) (ev x) (ev_size _) (ev_size _) (ev_size _) (ev_size _) (ev_size _)
  have e0 : sv (s.put4 0 x) = ev x ++ ev s.b ++ ev s.c ++ ev s.d := rfl
  have e1 : sv (s.put4 1 x) = ev s.a ++ ev x ++ ev s.c ++ ev s.d := rfl
  have e2 : sv (s.put4 2 x) = ev s.a ++ ev s.b ++ ev x ++ ev s.d := rfl
  have e3 : sv (s.put4 3 x) = ev s.a ++ ev s.b ++ ev s.c ++ ev x := rfl
  have e : sv s = ev s.a ++ ev s.b ++ ev s.c ++ ev s.d := rfl
  rcases (show k = 0 ∨ k = 1 ∨ k = 2 ∨ k = 3 by omega) with rfl | rfl | rfl | rfl
  · rw [e0, e, ← h.1]
  · rw [e1, e, ← h.2.1]
  · rw [e2, e, ← h.2.2.1]
  · rw [e3, e, ← h.2.2.2]
theorem Fr.setCells {w : World} {g : Nat} {t : TypeId} {L : List (Nat × TypeId × Array Value)} {R : List (Nat × TypeId × Nat)} (hL : ∀ p ∈ L, p.1 ≠ g) (hR : ∀ p ∈ R, p.1 ≠ g) (hw : w.heap.size ≤ g) :
    ∀ (vs : List Value) (o : Nat) (cs : Array Value) (W : World), Fr w W ((g, t, cs) :: L) R → Fr w (W.setCells g o vs) ((g, t, setL cs o vs) :: L) R
  | [], _, _, _, h => h
  | v :: r, o, cs, W, h => Fr.setCells hL hR hw r (o + 1) _ _ (h.setHead hL hR o v hw)
theorem elem_row : (∃ d, Tryd.prog.underlying 46 = some d ∧ TypeDesc.isRow d = true) := ⟨_, Tryd.underlying46, rfl⟩
/-- A state's number is loaded. -/
theorem wpList_load_sv {ops : Array Oper} {rest : List Oper} {op : Oper} {a : Act} {w : World} {Q : Exit → Act → World → Prop} (hgd : op.guard = none) (x : Operand) (ho : op.op = .load 46 x)
    (g k : Nat) (hk : k < 4) (hx : a.eval x = .pointer (some ⟨g, 4 * k, none⟩)) (t : TypeId) (s : L4 PP) (hb : Blk w g t (sv s))
    (h : wpList Tryd.prog ops Q rest (a.put op.dst (.agg (ev (s.at4 k)))) w) : wpList Tryd.prog ops Q (op :: rest) a w :=
  wpList_load_mid hgd 46 x ho g (4 * k) hx (ev (s.at4 k)).toList _ (range_sv hb hk) Tryd.underlying46 rfl (info_ev _) h
/-- A state's number is stored. -/
theorem wpList_store_sv {ops : Array Oper} {rest : List Oper} {op : Oper} {a : Act} {w : World} {Q : Exit → Act → World → Prop} (hgd : op.guard = none) (x y : Operand) (ho : op.op = .store 46 x y)
    (g k : Nat) (hk : k < 4) (hx : a.eval x = .pointer (some ⟨g, 4 * k, none⟩)) (v : Fin PP) (hy : a.eval y = .agg (ev v)) (t : TypeId) (s : L4 PP) (hb : Blk w g t (sv s))
    (h : wpList Tryd.prog ops Q rest (a.put op.dst undef) (w.setCells g (4 * k) (ev v).toList)) : wpList Tryd.prog ops Q (op :: rest) a w :=
  wpList_store_mid hgd 46 x y ho g (4 * k) (ev v) hx hy (by rw [ev_size]; exact there_sv hb hk) (info_ev _) (ev_one _) h
theorem yields_sv {ops : Array Oper} {S : World → Prop} {op : Oper} {a : Act} (hw : Region.wanted op (yielded ops a.tmps) = true) (x : Operand) (ho : op.op = .load 46 x)
    (g k : Nat) (hk : k < 4) (hx : a.eval x = .pointer (some ⟨g, 4 * k, none⟩)) (t : TypeId) (s : L4 PP) (hS : ∀ w, S w → Blk w g t (sv s)) : YieldsIf Tryd.prog ops S op (.agg (ev (s.at4 k))) a :=
  yieldsIf_load_mid hw 46 x ho g (4 * k) hx (ev (s.at4 k)).toList _ (fun w h => range_sv (hS w h) hk) Tryd.underlying46 rfl (info_ev _)
def ZS : L4 PP := ⟨sm 0, sm 0, sm 0, sm 0⟩
theorem sv_zero : sv ZS = #[.int .u64 0, .int .u64 0, .int .u64 0, .int .u64 0, .int .u64 0, .int .u64 0, .int .u64 0, .int .u64 0, .int .u64 0, .int .u64 0, .int .u64 0, .int .u64 0, .int .u64 0, .int .u64 0, .int .u64 0, .int .u64 0] := by kernel_rfl
attribute [local irreducible] sv
def SPost (s : L4 PP) (w : World) (e : Ending) (w' : World) : Prop := e = .returned (.agg (sv s)) ∧ Below w.heap.size w w'
theorem lsw_yes (s : L4 PP) : (((s.put4 0 s.c).put4 2 s.a).put4 1 s.d).put4 3 s.b = lsw true s := rfl
theorem lsw_no (s : L4 PP) : (((s.put4 0 s.a).put4 2 s.c).put4 1 s.b).put4 3 s.d = lsw false s := rfl
set_option maxRecDepth 100000 in
set_option maxHeartbeats 400000 in
theorem swapped_yes (s : L4 PP) (w : World) : Calls Tryd.prog 27 #[.agg (sv s), .bool true] w (SPost (lsw true s) w) := by
  have hfr := ((Fr.start w).row (sv s) 50 (g := w.heap.size) rfl).any (sv ZS) 50 16 (sv_size _) (g := w.heap.size + 1) (by simp)
  rw [sv_zero] at hfr
  have k0 := hfr.get (g := w.heap.size) (t := 50) (cs := sv s) (by simp)
  have HF := Lib.hid hfr
  have HK := Lib.hid k0
  clear hfr k0
  go_enter Tryd.func27, Tryd.ntmps27
  go_wp2_with (first | (refine wpList_load_sv rfl (.tmp 6) rfl (w.heap.size) 0 (by omega) rfl 50 s HK.out ?_) | (refine wpList_load_sv rfl (.tmp 8) rfl (w.heap.size) 2 (by omega) rfl 50 s HK.out ?_))
  clear HK
  refine (swapF_yes s.a s.c _).mono ?_
  rintro e v1 ⟨rfl, hb⟩
  have hf := HF.out.ext hb
  have k0 := hf.get (g := w.heap.size) (t := 50) (cs := sv s) (by simp)
  have f1 := Fr.setCells (by simp) (by simp <;> omega) (by omega) (ev s.c).toList (4 * 0) (sv s) _ hf
  rw [setL_sv s (by omega)] at f1
  have k1 := f1.get (g := w.heap.size) (t := 50) (cs := sv (s.put4 0 s.c)) (by simp)
  have f2 := Fr.setCells (by simp) (by simp <;> omega) (by omega) (ev s.a).toList (4 * 2) (sv (s.put4 0 s.c)) _ f1
  rw [setL_sv (s.put4 0 s.c) (by omega)] at f2
  have k2 := f2.get (g := w.heap.size) (t := 50) (cs := sv ((s.put4 0 s.c).put4 2 s.a)) (by simp)
  have K0 := Lib.hid k0
  have K1 := Lib.hid k1
  have K2 := Lib.hid k2
  have HF2 := Lib.hid f2
  clear hb hf f1 f2 k0 k1 k2 HF
  go_wp2_with (first | (refine wpList_store_sv rfl (.tmp 14) (.tmp 12) rfl (w.heap.size) 0 (by omega) rfl s.c rfl 50 s K0.out ?_) | (refine wpList_store_sv rfl (.tmp 15) (.tmp 13) rfl (w.heap.size) 2 (by omega) rfl s.a rfl 50 (s.put4 0 s.c) K1.out ?_) | (refine wpList_load_sv rfl (.tmp 17) rfl (w.heap.size) 1 (by omega) rfl 50 ((s.put4 0 s.c).put4 2 s.a) K2.out ?_) | (refine wpList_load_sv rfl (.tmp 19) rfl (w.heap.size) 3 (by omega) rfl 50 ((s.put4 0 s.c).put4 2 s.a) K2.out ?_))
  clear K0 K1 K2
  refine (swapF_yes s.b s.d _).mono ?_
  rintro e v2 ⟨rfl, hb⟩
  have hf := HF2.out.ext hb
  have k0 := hf.get (g := w.heap.size) (t := 50) (cs := sv ((s.put4 0 s.c).put4 2 s.a)) (by simp)
  have f1 := Fr.setCells (by simp) (by simp <;> omega) (by omega) (ev s.d).toList (4 * 1) (sv ((s.put4 0 s.c).put4 2 s.a)) _ hf
  rw [setL_sv ((s.put4 0 s.c).put4 2 s.a) (by omega)] at f1
  have k1 := f1.get (g := w.heap.size) (t := 50) (cs := sv (((s.put4 0 s.c).put4 2 s.a).put4 1 s.d)) (by simp)
  have f2 := Fr.setCells (by simp) (by simp <;> omega) (by omega) (ev s.b).toList (4 * 3) (sv (((s.put4 0 s.c).put4 2 s.a).put4 1 s.d)) _ f1
  rw [setL_sv (((s.put4 0 s.c).put4 2 s.a).put4 1 s.d) (by omega), lsw_yes s] at f2
  obtain ⟨z, hz⟩ : ∃ z, z = lsw true s := ⟨_, rfl⟩
  rw [← hz] at f2
  have HZ := Lib.hid hz
  clear hz
  have k2 := f2.get (g := w.heap.size) (t := 50) (cs := sv z) (by simp)
  obtain ⟨old, hold, kR⟩ := f2.old (g := w.heap.size + 1) (t := 50) (n := 16) (by simp)
  have kS := kR.setRow_same (sv z)
  have hB := below_setRow f2.below (show w.heap.size ≤ w.heap.size + 1 by omega) (sv z)
  have hold' : old.size = (sv z).size := by rw [hold, sv_size]
  have K0 := Lib.hid k0
  have K1 := Lib.hid k1
  have K2 := Lib.hid k2
  have KR := Lib.hid kR
  have HS := Lib.hid kS
  have HB := Lib.hid hB
  have HO := Lib.hid hold'
  clear hb hf f1 f2 k0 k1 k2 kR kS hB hold hold' HF2
  go_wp2_with (first | (refine wpList_store_sv rfl (.tmp 25) (.tmp 23) rfl (w.heap.size) 1 (by omega) rfl s.d rfl 50 ((s.put4 0 s.c).put4 2 s.a) K0.out ?_) | (refine wpList_store_sv rfl (.tmp 26) (.tmp 24) rfl (w.heap.size) 3 (by omega) rfl s.b rfl 50 (((s.put4 0 s.c).put4 2 s.a).put4 1 s.d) K1.out ?_) | (refine wpList_load_row rfl 50 (.tmp 2) rfl (w.heap.size) rfl 50 (sv z) (0, 0) _ K2.out Tryd.underlying50 rfl (info_sv _) ?_) | (refine wpList_store_row rfl 50 (.tmp 4) (.tmp 27) rfl (w.heap.size + 1) (sv z) rfl rfl 50 old KR.out (info_sv _) HO.out (sv_one _) ?_))
  exact bodyPost_ret (results_cell_row rfl _ _ (w.heap.size + 1) 50 (sv z) (0, 0) _ rfl HS.out Tryd.underlying50 rfl (info_sv z)) rfl ⟨by rw [HZ.out], HB.out⟩
set_option maxRecDepth 100000 in
set_option maxHeartbeats 400000 in
theorem swapped_no (s : L4 PP) (w : World) : Calls Tryd.prog 27 #[.agg (sv s), .bool false] w (SPost (lsw false s) w) := by
  have hfr := ((Fr.start w).row (sv s) 50 (g := w.heap.size) rfl).any (sv ZS) 50 16 (sv_size _) (g := w.heap.size + 1) (by simp)
  rw [sv_zero] at hfr
  have k0 := hfr.get (g := w.heap.size) (t := 50) (cs := sv s) (by simp)
  have HF := Lib.hid hfr
  have HK := Lib.hid k0
  clear hfr k0
  go_enter Tryd.func27, Tryd.ntmps27
  go_wp2_with (first | (refine wpList_load_sv rfl (.tmp 6) rfl (w.heap.size) 0 (by omega) rfl 50 s HK.out ?_) | (refine wpList_load_sv rfl (.tmp 8) rfl (w.heap.size) 2 (by omega) rfl 50 s HK.out ?_))
  clear HK
  refine (swapF_no s.a s.c _).mono ?_
  rintro e v1 ⟨rfl, hb⟩
  have hf := HF.out.ext hb
  have k0 := hf.get (g := w.heap.size) (t := 50) (cs := sv s) (by simp)
  have f1 := Fr.setCells (by simp) (by simp <;> omega) (by omega) (ev s.a).toList (4 * 0) (sv s) _ hf
  rw [setL_sv s (by omega)] at f1
  have k1 := f1.get (g := w.heap.size) (t := 50) (cs := sv (s.put4 0 s.a)) (by simp)
  have f2 := Fr.setCells (by simp) (by simp <;> omega) (by omega) (ev s.c).toList (4 * 2) (sv (s.put4 0 s.a)) _ f1
  rw [setL_sv (s.put4 0 s.a) (by omega)] at f2
  have k2 := f2.get (g := w.heap.size) (t := 50) (cs := sv ((s.put4 0 s.a).put4 2 s.c)) (by simp)
  have K0 := Lib.hid k0
  have K1 := Lib.hid k1
  have K2 := Lib.hid k2
  have HF2 := Lib.hid f2
  clear hb hf f1 f2 k0 k1 k2 HF
  go_wp2_with (first | (refine wpList_store_sv rfl (.tmp 14) (.tmp 12) rfl (w.heap.size) 0 (by omega) rfl s.a rfl 50 s K0.out ?_) | (refine wpList_store_sv rfl (.tmp 15) (.tmp 13) rfl (w.heap.size) 2 (by omega) rfl s.c rfl 50 (s.put4 0 s.a) K1.out ?_) | (refine wpList_load_sv rfl (.tmp 17) rfl (w.heap.size) 1 (by omega) rfl 50 ((s.put4 0 s.a).put4 2 s.c) K2.out ?_) | (refine wpList_load_sv rfl (.tmp 19) rfl (w.heap.size) 3 (by omega) rfl 50 ((s.put4 0 s.a).put4 2 s.c) K2.out ?_))
  clear K0 K1 K2
  refine (swapF_no s.b s.d _).mono ?_
  rintro e v2 ⟨rfl, hb⟩
  have hf := HF2.out.ext hb
  have k0 := hf.get (g := w.heap.size) (t := 50) (cs := sv ((s.put4 0 s.a).put4 2 s.c)) (by simp)
  have f1 := Fr.setCells (by simp) (by simp <;> omega) (by omega) (ev s.b).toList (4 * 1) (sv ((s.put4 0 s.a).put4 2 s.c)) _ hf
  rw [setL_sv ((s.put4 0 s.a).put4 2 s.c) (by omega)] at f1
  have k1 := f1.get (g := w.heap.size) (t := 50) (cs := sv (((s.put4 0 s.a).put4 2 s.c).put4 1 s.b)) (by simp)
  have f2 := Fr.setCells (by simp) (by simp <;> omega) (by omega) (ev s.d).toList (4 * 3) (sv (((s.put4 0 s.a).put4 2 s.c).put4 1 s.b)) _ f1
  rw [setL_sv (((s.put4 0 s.a).put4 2 s.c).put4 1 s.b) (by omega), lsw_no s] at f2
  obtain ⟨z, hz⟩ : ∃ z, z = lsw false s := ⟨_, rfl⟩
  rw [← hz] at f2
  have HZ := Lib.hid hz
  clear hz
  have k2 := f2.get (g := w.heap.size) (t := 50) (cs := sv z) (by simp)
  obtain ⟨old, hold, kR⟩ := f2.old (g := w.heap.size + 1) (t := 50) (n := 16) (by simp)
  have kS := kR.setRow_same (sv z)
  have hB := below_setRow f2.below (show w.heap.size ≤ w.heap.size + 1 by omega) (sv z)
  have hold' : old.size = (sv z).size := by rw [hold, sv_size]
  have K0 := Lib.hid k0
  have K1 := Lib.hid k1
  have K2 := Lib.hid k2
  have KR := Lib.hid kR
  have HS := Lib.hid kS
  have HB := Lib.hid hB
  have HO := Lib.hid hold'
  clear hb hf f1 f2 k0 k1 k2 kR kS hB hold hold' HF2
  go_wp2_with (first | (refine wpList_store_sv rfl (.tmp 25) (.tmp 23) rfl (w.heap.size) 1 (by omega) rfl s.b rfl 50 ((s.put4 0 s.a).put4 2 s.c) K0.out ?_) | (refine wpList_store_sv rfl (.tmp 26) (.tmp 24) rfl (w.heap.size) 3 (by omega) rfl s.d rfl 50 (((s.put4 0 s.a).put4 2 s.c).put4 1 s.b) K1.out ?_) | (refine wpList_load_row rfl 50 (.tmp 2) rfl (w.heap.size) rfl 50 (sv z) (0, 0) _ K2.out Tryd.underlying50 rfl (info_sv _) ?_) | (refine wpList_store_row rfl 50 (.tmp 4) (.tmp 27) rfl (w.heap.size + 1) (sv z) rfl rfl 50 old KR.out (info_sv _) HO.out (sv_one _) ?_))
  exact bodyPost_ret (results_cell_row rfl _ _ (w.heap.size + 1) 50 (sv z) (0, 0) _ rfl HS.out Tryd.underlying50 rfl (info_sv z)) rfl ⟨by rw [HZ.out], HB.out⟩
theorem swapped_any (t : Bool) (s : L4 PP) (w : World) : Calls Tryd.prog 27 #[.agg (sv s), .bool t] w (SPost (lsw t s) w) := by
  cases t
  · exact swapped_no s w
  · exact swapped_yes s w
end Go.Proofs.YthlnnoajklmeiaaDoor
