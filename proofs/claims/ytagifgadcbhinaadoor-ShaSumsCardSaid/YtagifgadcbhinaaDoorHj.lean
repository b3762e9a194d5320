/- The program's hash of all parts. -/
import Derived.Test.YtagifgadcbhinaaDoorHt
namespace Go.Proofs.YtagifgadcbhinaaDoor
set_option linter.unusedVariables false
set_option linter.unusedSimpArgs false
open Go Go.RowKit

def zm : Array Value := (List.replicate 88 (Value.int .u64 0) ++ (List.replicate 128 (Value.int .u8 0) ++ [Value.int .i64 0, Value.int .u64 0])).toArray
theorem zm_size : zm.size = 218 := by kernel_rfl
theorem zero_msg (w : World) : (zeroValue 45).run Tryd.prog w = .ok (.agg zm) w := by kernel_rfl
theorem build_msg (w : World) : (Instr.build 45 #[(0, .agg (us HS)), (1, .agg (us HK))]).run Tryd.prog w = .ok (.agg (mc H0 (List.replicate 128 0) 0 0)) w := by kernel_rfl
theorem size_msg : (Tryd.prog.info? 45).map (·.size) = some 218 := by kernel_rfl
theorem mc_size {S : S8} {Bu : List UInt8} {f n : Nat} (h : Bu.length = 128) : (mc S Bu f n).size = 218 := by unfold mc; rw [List.size_toArray]; exact mcL_len h
theorem Tk.start : Tk [] H0 (List.replicate 128 0) 0 := ⟨by simp, rfl, rfl, rfl⟩
theorem PS.ofBlk {W : World} {g gp : Nat} {t : TypeId} {P : List Nat} (h : Blk W gp t (ncs .u8 P)) (hne : gp ≠ g) (hP : ∀ x ∈ P, x < 256) : PS W g (some ⟨gp, 0, none⟩) P.length P.length (P.map UInt8.ofNat) :=
  ⟨by simp, Nat.le_refl _, (fun e => by cases e), fun hn => ⟨gp, 0, rfl, hne, h.lt, fun j x hx => by
    rw [List.getElem?_map] at hx
    cases hy : P[j]? with
    | none => rw [hy] at hx; cases hx
    | some y =>
      rw [hy] at hx
      injection hx with hx
      have hy8 := hP y (List.mem_of_getElem? hy)
      rw [h.cell, Nat.zero_add, ncs_get, hy, ← hx, UInt8.toNat_ofNat', Nat.mod_eq_of_lt hy8]
      rfl⟩⟩
theorem bn_ofNat {P : List Nat} (h : ∀ x ∈ P, x < 256) : bn (P.map UInt8.ofNat) = P := by
  unfold bn
  rw [List.map_map]
  calc _ = P.map id := List.map_congr_left fun x hx => by
        simp only [Function.comp_def, UInt8.toNat_ofNat', id]
        exact Nat.mod_eq_of_lt (h x hx)
    _ = P := List.map_id _
theorem b8_lt (x : Nat) : ∀ y ∈ b8 x, y < 256 := by
  intro y hy
  simp only [b8, List.mem_cons, List.not_mem_nil, or_false] at hy
  rcases hy with rfl | rfl | rfl | rfl | rfl | rfl | rfl | rfl <;> exact Nat.mod_lt _ (by omega)
theorem pad_lt (n : Nat) : ∀ y ∈ pad n, y < 256 := by
  intro y hy
  simp only [pad, List.mem_cons, List.mem_append] at hy
  rcases hy with rfl | hy | hy | hy
  · omega
  · rw [(List.mem_replicate.1 hy).2]; omega
  · exact b8_lt _ _ hy
  · exact b8_lt _ _ hy
/-- A message behind its padding. -/
theorem Tk.end_ {X : List UInt8} {S : S8} {Bu : List UInt8} {f : Nat} (h : Tk (X ++ (pad X.length).map UInt8.ofNat) S Bu f) : S = hashS (bn X) := by
  have h3 := h.st
  rw [bn_append, bn_ofNat (pad_lt _), List.length_append, List.length_map] at h3
  rw [h3, hashS, full, bn_len, List.length_append, bn_len]
theorem mc_load {W : World} {g : Nat} {t : TypeId} {S : S8} {Bu : List UInt8} {f n : Nat} (hb : Blk W g t (mc S Bu f n)) : W.rangeAt g 0 (us S.l).toList := fun j v hv => by
  rw [hb.cell, Nat.zero_add, mc_at, mcL, List.getElem?_append_left (by have := (List.getElem?_eq_some_iff.1 hv).1; rw [sl_len]; exact this)]
  exact hv
theorem wpList_load_st {ops : Array Oper} {rest : List Oper} {op : Oper} {a : Act} {w : World} {Q : Exit → Act → World → Prop} (hgd : op.guard = none) (x : Operand) (ho : op.op = .load 39 x) (g : Nat) (hx : a.eval x = .pointer (some ⟨g, 0, none⟩)) {t : TypeId} {S : S8} {Bu : List UInt8} {f n : Nat}
    (hb : Blk w g t (mc S Bu f n)) (h : wpList Tryd.prog ops Q rest (a.put op.dst (.agg (us S.l))) w) : wpList Tryd.prog ops Q (op :: rest) a w :=
  wpList_load_mid hgd 39 x ho g 0 hx (us S.l).toList _ (mc_load hb) Tryd.underlying39 rfl size_hst h
theorem hash_def (X : List Nat) : hashN X = outS (hashS X) := rfl
theorem hashS_ok (X : List Nat) : (hashS X).ok := blocks_ok H0_ok _
theorem outS_len (S : S8) : (outS S).length = 64 := rfl
theorem wpList_run {P : Program} {ops : Array Oper} {rest : List Oper} {op : Oper} {a : Act} {w : World} {Q : Exit → Act → World → Prop} (hgd : op.guard = none) (v : Value) (h : (execOp a.eval op).run P w = .ok (.value v) w)
    (k : wpList P ops Q rest (a.put op.dst v) w) : wpList P ops Q (op :: rest) a w :=
  wpList_plain hgd fun _ hK => by
    unfold Oper.wp
    rw [h]
    exact hK _ _ k
theorem build_step {a : Act} {op : Oper} {x y : Operand} (ho : op.op = .build 45 #[(0, x), (1, y)]) (hx : a.eval x = .agg (us HS)) (hy : a.eval y = .agg (us HK)) (w : World) : (execOp a.eval op).run Tryd.prog w = .ok (.value (.agg (mc H0 (List.replicate 128 0) 0 0))) w := by
  simp [execOp, ho, hx, hy, build_msg, Result.andThen]
attribute [local irreducible] mc mcL over press blocks HK HS be outS pad hashS hashN zm H0
set_option maxRecDepth 100000 in
set_option maxHeartbeats 4000000 in
theorem sum_any (A : Option Addr) (n c B : Nat) (L : List (List UInt8)) (w : World) (hp : PM w) (hl : RS w B A n c L) (hBw : B ≤ w.heap.size) (hX : L.flatten.length < 1000000000) (hnn : n < 1000000) :
    Calls Tryd.prog 6 #[.slice A n c] w (BytesRow (hashN (bn L.flatten)) w) := by
  have hz64 : ∀ W : World, (zeroValue 27).run Tryd.prog W = .ok (.agg (ncs .u8 z64)) W := zero_long
  have hzm : ∀ W : World, (zeroValue 45).run Tryd.prog W = .ok (.agg zm) W := zero_msg
  have f0 := (Fr.start w).any (ncs .u8 z64) 27 64 (by rw [ncs_size, z64_len]) (g := w.heap.size) rfl
  have F0 := Lib.hid f0
  have HP := Lib.hid hp
  have HL := Lib.hid hl
  rw [hash_def]
  obtain ⟨R, hR⟩ : ∃ R, R = outS (hashS (bn L.flatten)) := ⟨_, rfl⟩
  rw [← hR]
  have HR := Lib.hid hR
  have hln := hl.len
  have HLN := Lib.hid hln
  clear f0 hp hl hR hln
  obtain ⟨Z, hZ⟩ : ∃ Z : List UInt8, Z = List.replicate 128 0 := ⟨_, rfl⟩
  have hZl : Z.length = 128 := by rw [hZ]; simp
  have HT0 := Lib.hid (show Tk [] H0 Z 0 by rw [hZ]; exact Tk.start)
  have HZZ := Lib.hid hZ
  clear hZ
  go_enter Tryd.func6, Tryd.ntmps6
  go_wp2_with (fail)
  refine (starts_any _ (F0.out.pm HP.out)).mono ?_
  rintro e v1 ⟨rfl, hb⟩
  have F1 := Lib.hid (F0.out.ext hb)
  clear hb F0
  go_wp2_with (fail)
  refine (constants_any _ (F1.out.pm HP.out)).mono ?_
  rintro e v2 ⟨rfl, hb⟩
  have f2 := F1.out.ext hb
  have hv : w.heap.size < v2.heap.size := by
    obtain ⟨_, _, k⟩ := f2.old (g := w.heap.size) (t := 27) (n := 64) (by simp)
    exact k.lt
  have f3 := f2.row zm 45 rfl
  generalize hgm : v2.heap.size = gm at *
  have km := f3.get (g := gm) (t := 45) (cs := zm) (by simp)
  have f4 := f3.setRowHead (by simp) (by simp <;> omega) (mc H0 Z 0 0) (by omega)
  have F4 := Lib.hid f4
  have HI := Lib.hid (show (Tryd.prog.info? 45).map (·.size) = some (mc H0 Z 0 0).size by rw [mc_size hZl]; exact size_msg)
  have HZ := Lib.hid (show zm.size = (mc H0 Z 0 0).size by rw [mc_size hZl, zm_size])
  clear hb F1 f2 f3 f4
  go_wp2_with (first | (refine wpList_run rfl (.agg (mc H0 Z 0 0)) (by rw [HZZ.out]; exact build_step rfl rfl rfl _) ?_) | (refine wpList_store_row rfl 45 (.tmp 3) (.tmp 8) rfl gm (mc H0 Z 0 0) rfl rfl 45 _ km HI.out HZ.out (mc_one _ _ _ _) ?_))
  clear km HI HZ hzm hz64
  go_loopw [11] (fun i wr => ∃ k : Nat, k ≤ n ∧ i = .int .i64 k ∧ ∃ S Bu f, Tk (flat L k) S Bu f ∧ Fr w wr [(gm, 45, mc S Bu f (flat L k).length)] [(w.heap.size, 27, 64)]) (fun i _ => n - (intOf i).toNat)
  case atStart => exact ⟨0, by omega, rfl, H0, Z, 0, HT0.out, F4.out⟩
  case round =>
    clear F4 HT0 HZZ
    obtain ⟨k, hk, rfl, S, Bu, f, hT, hF⟩ := hrel
    have HT := Lib.hid hT
    have HF := Lib.hid hF
    have hfl := flat_le L k
    have HFL := Lib.hid hfl
    clear hT hF hfl
    by_cases hlt : k < n
    · obtain ⟨b, o, l, Aj, nj, cj, rfl, hbB, hx, hc, hbs⟩ := (HL.out.below (HF.out.below.mono hBw)).at' hlt
      have hst := flat_step hx
      have hfl2 := flat_le L (k + 1)
      rw [hst, List.length_append] at hfl2
      have km := HF.out.get (g := gm) (t := 45) (cs := mc S Bu f (flat L k).length) (by simp)
      have htk := take_any (flat L k) l S Bu f gm Aj nj cj wr HT.out km (PS.ofBS hbs (by omega) (by have := HF.out.size; omega)) (by omega)
      rw [← hst] at htk
      have HTK := Lib.hid htk
      clear hst hfl2 km htk hbs hx
      go_wp2_with (fail)
      refine HTK.out.mono ?_
      rintro e v ⟨rfl, S', Bu', f', hT', hb', hg'⟩
      have f2 := HF.out.grownHead hg' hb' (by omega) (by simp) (by simp <;> omega)
      have F2 := Lib.hid f2
      have HT2 := Lib.hid hT'
      clear f2 hT' hb' hg' HF HT HTK
      go_wp2_with (fail)
      go_round
      case rel => exact ⟨k + 1, by omega, by go_num, S', Bu', f', HT2.out, F2.out⟩
      case measure => simp [intOf]; omega
    · obtain rfl : k = n := by omega
      have hfa := flat_all HLN.out
      have hT := HT.out
      have hF := HF.out
      rw [hfa] at hT hF
      have hF0 := hF
      have km := hF.get (g := gm) (t := 45) (cs := mc S Bu f L.flatten.length) (by simp)
      have c217 : wr.cell? ⟨gm, 217, none⟩ = some (.int .u64 (L.flatten.length : Int)) := by rw [km.cell, mc_n S f _ hT.len]
      have HT := Lib.hid hT
      have HF := Lib.hid hF0
      clear hfa hT hF hF0 km HFL
      generalize hXl : L.flatten.length = xl at *
      have HXL := Lib.hid hXl
      clear hXl
      go_wp2_with (fail)
      refine (padding_any xl _ (by omega)).mono ?_
      rintro e v1 ⟨rfl, kp, hb⟩
      have f1 := HF.out.ext hb
      have hgr : gm < wr.heap.size := (HF.out.get (g := gm) (t := 45) (cs := mc S Bu f xl) (by simp)).lt
      have k1 := f1.get (g := gm) (t := 45) (cs := mc S Bu f xl) (by simp)
      have hpl := pad_len xl
      have hpp : padL xl ≤ 300 := by rcases padL_cases xl with h | h <;> omega
      have hps := PS.ofBlk (g := gm) kp (by omega) (pad_lt xl)
      rw [← HXL.out] at k1
      have htk := take_any L.flatten _ S Bu f gm _ _ _ v1 HT.out k1 hps (by rw [List.length_map, HXL.out]; omega)
      have HTK := Lib.hid htk
      have F1 := Lib.hid f1
      clear htk hps k1 f1 hb kp hpl hpp c217 HF HT
      go_wp2_with (fail)
      refine HTK.out.mono ?_
      rintro e v2 ⟨rfl, S', Bu', f', hT', hb', hg'⟩
      have f2 := F1.out.grownHead hg' hb' (by omega) (by simp) (by simp <;> omega)
      have km := hb'
      rw [← HXL.out] at hT'
      have hS := hT'.end_
      have hR2 := HR.out
      rw [← hS] at hR2
      have hSo := hT'.ok
      have HR2 := Lib.hid hR2
      have F2 := Lib.hid f2
      clear f2 hT' hb' hg' hS hR2 F1 HTK HR
      go_wp2_with (first | (refine wpList_load_st rfl (.tmp 22) rfl gm rfl km ?_))
      refine (hash_any S' _ hSo).mono ?_
      rintro e v3 ⟨rfl, hb⟩
      rw [← HR2.out]
      have f3 := F2.out.ext hb
      have hRl : R.length = 64 := by rw [HR2.out]; exact outS_len S'
      obtain ⟨old, ho, k0⟩ := f3.old (g := w.heap.size) (t := 27) (n := 64) (by simp)
      have kS := k0.setRow_same (ncs .u8 R)
      have hB := below_setRow f3.below (Nat.le_refl _) (ncs .u8 R)
      have KS := Lib.hid kS
      have HB := Lib.hid hB
      have HO := Lib.hid (show old.size = (ncs .u8 R).size by rw [ho, ncs_size, hRl])
      have HI := Lib.hid (show (Tryd.prog.info? 27).map (·.size) = some (ncs .u8 R).size by rw [ncs_size, hRl]; exact size_long)
      clear f3 kS hB ho hb km F2 HR2
      go_wp2_with (first | (refine wpList_store_row rfl 27 (.tmp 2) (.tmp 24) rfl (w.heap.size) (ncs .u8 R) rfl rfl 27 old k0 HI.out HO.out (ncs_one _ _) ?_))
      exact bodyPost_ret (results_cell_row rfl _ _ (w.heap.size) 27 (ncs .u8 R) (0, 0) _ rfl KS.out Tryd.underlying27 rfl HI.out) rfl ⟨rfl, HB.out⟩
end Go.Proofs.YtagifgadcbhinaaDoor
