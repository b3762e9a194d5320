/- Layer 12's laws: what they ask beside the walks: noughts that are appended, a text's bytes, keys that are the same, a place to cut. -/
import Derived.Test.YthjechjffhhiiaaDoorKk
import Derived.Test.YthjechjffhhiiaaDoorKb
import Derived.Test.YthjechjffhhiiaaDoorEqs
import Derived.Lib.AppendZerosOnto
import Derived.Laws.IdiomStrings
namespace Go.Proofs.YthjechjffhhiiaaDoor
set_option linter.unusedVariables false
set_option linter.unusedSimpArgs false
set_option maxRecDepth 100000
open Go Go.RowKit

theorem zeroCells_u8 (k : Nat) : (Builtin.zeroCells (Value.int .u8 0).cells k) = ((List.replicate k (0 : UInt8)).map bv).toArray := by
  have hz : (Value.int .u8 0).cells = #[bv 0] := rfl
  rw [hz]
  apply Array.ext_getElem?
  intro i
  simp [Builtin.zeroCells, Nat.mod_one]
  by_cases h : i < k
  · simp [h]
  · simp [h]
theorem run_app_zerosK {P : Program} {w : World} (t tn ty e : TypeId) (kn : IntKind) (ht : P.underlying t = some (.slice e)) (htn : P.underlying tn = some (.int kn)) (he : (P.info? e).map (fun i => (i.zero, i.size, i.bytes)) = some (some (.int .u8 0), 1, 1))
    (base : Nat) (v : Value) (l : List UInt8) (k : Nat) (hown : OwnB w base e v l) (hbig : l.length + k ≤ 1000000000) (hbase : base ≤ w.heap.size) :
    ∃ v' w', (Builtin.append_ #[t, tn] ty #[v, .int .i64 (k : Int)]).run P w = .ok v' w' ∧ OwnB w' base e v' (l ++ List.replicate k 0) ∧ w.grownBy w' v.ownBlock ∧ (v'.ownBlock = v.ownBlock ∨ v'.ownBlock = some w.heap.size) := by
  obtain ⟨i, hi, hz, hs, hb⟩ := info_parts he
  have hz8 := zeroCells_u8 k
  have hw : IntKind.i64.wrap (k : Int) = (k : Int) := IntWalk.i64_in _ (by omega)
  have hw0 : IntKind.i64.wrap 0 = 0 := by decide
  have hneg : ¬ ((k : Int) < 0) := by omega
  have hbig2 : ¬ (281474976710656 < (k : Int)) := by omega
  have hlen : ((l ++ List.replicate k (0 : UInt8)).map bv).length = (l.length + k) * 1 := by simp
  rcases hown.2 with ⟨rfl, h0⟩ | ⟨g, cap, cur, rfl, hbg, hg, hnc, hcm, hcs, htake⟩
  · obtain rfl : l = [] := List.eq_nil_of_length_eq_zero (by simpa using h0)
    rcases Nat.eq_zero_or_pos k with rfl | hk
    · refine ⟨.slice none 0 0, w, ?_, by simpa using OwnB.nil w base e, World.grownBy.refl _ _, Or.inl rfl⟩
      simp [Builtin.append_, run_underlying ht, run_underlying htn, sizeOf, typeInfo, zeroValue, hi, hz, hs, hb, asInt, asIntOf, hw0]
    · have hf : (Builtin.firstCells i.size 0 (.slice none 0 0)).run P w.drew = .ok ([] : List Value).toArray w.drew := rfl
      have hr := Lib.run_append_grow_zeros (P := P) w t tn ty e i (.int .u8 0) .i64 kn ht htn hi hz none 0 0 [] hf k (by omega) (by omega) (by omega) (by omega) (by rw [hb]; omega) (growslice_fits (by omega) (by rw [hb]; omega))
      rw [hz8] at hr
      have hge := grownCap_ge w (0 + k) 0 e
      have hcm2 : grownCap w (0 + k) 0 e ≤ maxLen := grownCap_le_maxLen w (0 + k) 0 e (by simp only [maxLen]; omega)
      refine ⟨_, _, hr, ⟨by simp, .inr ⟨w.heap.size, _, _, by simp, hbase, heap_alloc_new w.drew _, by simpa using hge, hcm2, ?_, ?_⟩⟩, ⟨rfl, rfl, rfl, by simp, fun k _ _ => heap_alloc_old w.drew _ (by assumption)⟩, Or.inr rfl⟩
      · simp only [Array.size_append, List.size_toArray, size_zeroCells, List.length_map, List.length_replicate, Value.cells]
        simp only [Nat.zero_add] at hge
        simp
        omega
      · simp only [Array.toList_append, List.append_assoc]
        simp
  · by_cases hroom : l.length + k ≤ cap
    · have hst := run_storeCells_at P g (l.length * 1) e ((List.replicate k (0 : UInt8)).map bv) 0 cur w hg (by simp; omega) (bv_all _)
      simp only [Nat.add_zero] at hst
      have hr : (Builtin.append_ #[t, tn] ty #[.slice (some ⟨g, 0, none⟩) l.length cap, .int .i64 (k : Int)]).run P w = .ok (.slice (some ⟨g, 0, none⟩) (l.length + k) cap) (w.setRow g (cur.toList.take (l.length * 1) ++ (List.replicate k (0 : UInt8)).map bv ++ cur.toList.drop (l.length * 1 + ((List.replicate k (0 : UInt8)).map bv).length)).toArray) := by
        by_cases hk0 : k = 0
        · subst hk0
          have hid : w.setRow g (cur.toList.take (l.length * 1) ++ (List.replicate 0 (0 : UInt8)).map bv ++ cur.toList.drop (l.length * 1 + ((List.replicate 0 (0 : UInt8)).map bv).length)).toArray = w := by
            have e1 : (cur.toList.take (l.length * 1) ++ (List.replicate 0 (0 : UInt8)).map bv ++ cur.toList.drop (l.length * 1 + ((List.replicate 0 (0 : UInt8)).map bv).length)).toArray = cur := by simp
            rw [e1] at hst ⊢
            simp [storeCells] at hst
            exact hst.symm
          rw [hid]
          simp [Builtin.append_, run_underlying ht, run_underlying htn, sizeOf, typeInfo, zeroValue, hi, hz, hs, hb, asInt, asIntOf, show l.length ≤ cap by omega, storeCells, hw0]
        · simp [Builtin.append_, run_underlying ht, run_underlying htn, sizeOf, typeInfo, zeroValue, hi, hz, hs, hb, asInt, asIntOf, hw, hroom, Addr.add_lit, hz8, hk0, hneg, hbig2, Result.andThen]
          simp at hst
          rw [hst]
      refine ⟨_, _, hr, ⟨by simp, .inr ⟨g, cap, _, by simp, hbg, setRow_heap w g cur _ e _ hg, by simpa using hroom, hcm, ?_, ?_⟩⟩, ⟨rfl, rfl, rfl, by simp [World.setRow], fun k _ hk => Go.setRow_other w g k _ (fun e => hk (by simp [Value.ownBlock, e]))⟩, Or.inl rfl⟩
      · simp at hcs ⊢
        omega
      · rw [show cur.toList.take (l.length * 1) = l.map bv from htake, List.length_append, List.length_replicate, List.map_append]
        exact List.take_left' (by simp)
    · have holds : ∀ j u, (l.map bv)[j]? = some u → w.cell? ((⟨g, 0, none⟩ : Addr).add j) = some u := World.ownsRow.cells hown (g := g) rfl
      have hf := run_firstCells_some (P := P) w.drew i.size l.length ⟨g, 0, none⟩ l.length cap (l.map bv) (by simp [hs]) (by simpa using holds)
      have hr := Lib.run_append_grow_zeros (P := P) w t tn ty e i (.int .u8 0) .i64 kn ht htn hi hz (some ⟨g, 0, none⟩) l.length cap (l.map bv) hf k (by omega) (by omega) (by omega) (by omega) (by rw [hb]; omega) (growslice_fits (by omega) (by rw [hb]; omega))
      rw [hz8] at hr
      have hge := grownCap_ge w (l.length + k) cap e
      have hcm2 : grownCap w (l.length + k) cap e ≤ maxLen := grownCap_le_maxLen w (l.length + k) cap e (by simp only [maxLen]; omega)
      refine ⟨_, _, hr, ⟨by simp, .inr ⟨w.heap.size, _, _, by simp, hbase, heap_alloc_new w.drew _, by simpa using hge, hcm2, ?_, ?_⟩⟩, ⟨rfl, rfl, rfl, by simp, fun k hk _ => heap_alloc_old w.drew _ hk⟩, Or.inr rfl⟩
      · simp only [Array.size_append, List.size_toArray, size_zeroCells, List.length_map, List.length_replicate, Value.cells]
        simp
        omega
      · simp only [Array.toList_append, List.append_assoc]
        rw [← List.append_assoc, ← List.map_append]
        exact List.take_left' (by simp)
section
variable {n : Nat} {w0 w : World} {a : Act} {e : Env} {h : Hep} {Q : Exit → Act → World → Prop} {ops : Array Oper} {o : Oper}
/-- 'append(v, make([]byte, k)...)', v the call's own. -/
theorem ob_appWZ {x y : Operand} {v : Value} {l : List UInt8} {k : Nat} (H : St n w0 a w e h) (hw : ∀ a w, St n w0 a w e h → Region.wanted o (yielded ops a.tmps) = true) (ho : o.op = .call { callee := .builtin .append, args := #[x, y], argTypes := #[22, 3] })
    (hx : sev e x = some v) (hy : sev e y = some (.int .i64 (k : Int))) (hv : OF w0.heap.size h l v w) (hs : l.length + k ≤ 1000000) :
    Region.wanted o (yielded ops a.tmps) = true ∧ o.wp Tryd.prog a w (fun a' w' => ∃ v, a' = a.put o.dst v ∧ WR w0.heap.size h w w' ∧ OF w0.heap.size h (l ++ List.replicate k 0) v w') Q := by
  refine ob_runR H hw ?_
  obtain ⟨hown, hap⟩ := hv
  obtain ⟨v', w', h1, h2, h3, h4⟩ := run_app_zerosK (P := Tryd.prog) (w := w) 22 3 o.type 5 .i64 Tryd.underlying22 Tryd.underlying3 u8_info w0.heap.size v l k hown (by omega) H.below.size
  refine ⟨v', w', ?_, ⟨_, h3, fun g hg => ⟨(hown.own hg).1, fun p hp => hap g hg p hp, ?_⟩⟩, of_after H hap h4 h2⟩
  · simp [execOp, ho, resolve, invoke, builtin, H.ev hx, H.ev hy, h1, Result.andThen]
  · rcases hown.2 with ⟨rfl, _⟩ | ⟨g', cap, cur, rfl, _, hh, _⟩
    · cases hg
    · injection hg with hg
      subst hg
      exact ⟨cur, hh⟩
/-- '[]byte(s)'. -/
theorem ob_ofStr {x : Operand} {l : List UInt8} (H : St n w0 a w e h) (hw : ∀ a w, St n w0 a w e h → Region.wanted o (yielded ops a.tmps) = true) (ho : o.op = .convert 9 22 x) (hx : sev e x = some (.string (strB l))) : ObS Tryd.prog ops Q o a w (BF l) := by
  have hr := run_bytes_of_string (P := Tryd.prog) w 9 22 5 (strB l) Tryd.underlying9 Tryd.underlying22 Tryd.underlying5
  refine ob_runR H hw ⟨.slice (some ⟨w.heap.size, 0, none⟩) (strB l).size (grownCap w (strB l).size 0 5), w.drew.alloc (.cells (bytesRow (strB l) (grownCap w (strB l).size 0 5)) 5 ((bytesRow (strB l) (grownCap w (strB l).size 0 5)).size, (bytesRow (strB l) (grownCap w (strB l).size 0 5)).size + 1)), ?_, (Below.refl _ _).drew.alloc (Nat.le_refl _) _, ⟨_, _, _, rfl, (strB_size l).symm, grownCap_ge w _ 0 5, (fun e => by cases e), fun _ => ⟨w.heap.size, 0, rfl, by simp, fun j y hy => ?_⟩⟩⟩
  · simp [execOp, ho, H.ev hx, hr, Result.andThen]
  · have hj : j < (strB l).data.size := by
      have := (List.getElem?_eq_some_iff.1 hy).1
      simpa [strB] using this
    have hc := bytesRow_at (strB l) (grownCap w (strB l).size 0 5) j hj
    rw [Nat.zero_add, cell_of_row _ w.heap.size j _ 5 _ (heap_alloc_new w.drew _), hc]
    have h2 : l[j]? = some ((strB l).data[j]) := by
      have := List.getElem?_eq_getElem (l := l) (i := j) (by simpa [strB] using hj)
      rw [this]
      rfl
    rw [hy] at h2
    injection h2 with h2
    rw [h2]
theorem ob_strK {x : Operand} {v : Value} {l : List UInt8} (H : St n w0 a w e h) (hw : ∀ a w, St n w0 a w e h → Region.wanted o (yielded ops a.tmps) = true) (ho : o.op = .convert 22 9 x) (hx : sev e x = some v) (hv : BF l v w) :
    ObS Tryd.prog ops Q o a w (fun u _ => u = .string (strB l)) := by
  obtain ⟨A, k, c, rfl, hb⟩ := hv
  have hs := run_str (P := Tryd.prog) hb 22 5 9 Tryd.underlying22 Tryd.underlying5 Tryd.underlying9
  refine ob_runR H hw ⟨_, w, ?_, Below.refl _ _, rfl⟩
  simp [execOp, ho, H.ev hx, hs, Result.andThen]
theorem run_byte1D (w : World) (x : UInt8) : (Instr.buildSlice 22 1 #[(0, bv x)]).run Tryd.prog w = .ok (.slice (some ⟨w.heap.size, 0, none⟩) 1 1) (w.alloc (.cells (bvs [x]) 5)) := by kernel_rfl
theorem ob_byteC {y0 : Operand} {c : Nat} {x : UInt8} (hc : x.toNat = c) (H : St n w0 a w e h) (hw : ∀ a w, St n w0 a w e h → Region.wanted o (yielded ops a.tmps) = true) (ho : o.op = .buildSlice 22 1 #[(0, y0)]) (h0 : sev e y0 = some (.int .u8 (c : Int))) : ObS Tryd.prog ops Q o a w (BF [x]) := by
  subst hc
  refine ob_runR H hw ⟨_, _, ?_, (Below.refl _ _).alloc (Nat.le_refl _) _, ⟨_, _, _, rfl, BS.ofBlk (Blk.new w 5 (bvs [x])) _ rfl _ (Blk.new w 5 (bvs [x])).lt⟩⟩
  have hr := run_byte1D w x
  simp only [bv] at hr
  simp [execOp, ho, H.ev h0, hr, Result.andThen]
theorem does_lenStr {P : Program} {x : Operand} {l : List UInt8} {k : Nat} (hk : l.length = k) (hu : P.underlying 9 = some .string) (ho : o.op = .call { callee := .builtin .len, args := #[x], argTypes := #[9] }) (hx : sev e x = some (.string (strB l))) : Does P Q n w0 e h o (.int .i64 (k : Int)) := does_run fun a w H => by
  subst hk
  simp [execOp, ho, resolve, invoke, builtin, H.ev hx, Builtin.len_, Builtin.lenOf, goInt, run_underlying hu, Result.andThen, strB_size]
end
/-! Keys that are the same. -/
theorem size_u8D (W : World) : (sizeOf 5).run Tryd.prog W = .ok 1 W := size_u8 u8_info W
theorem bvs_natD (l : List UInt8) : bvs l = ncs .u8 (l.map UInt8.toNat) := by
  unfold bvs ncs
  rw [List.map_map]
  rfl
theorem toNat_injD : ∀ {l m : List UInt8}, l.map UInt8.toNat = m.map UInt8.toNat → l = m
  | [], [], _ => rfl
  | x :: l, y :: m, h => by
    injection h with h1 h2
    rw [UInt8.toNat_inj.1 h1, toNat_injD h2]
  | [], _ :: _, h => by cases h
  | _ :: _, [], h => by cases h
theorem keys_eqD {f g : Nat → UInt8} {b : Bool} (h : decide (rb 32 f = rb 32 g) = b) (W : World) : (Op.equalIn 10000 25 (.agg (bvs (rb 32 f))) (.agg (bvs (rb 32 g)))).run Tryd.prog W = .ok b W := by
  have h2 := run_equalIn_nats (P := Tryd.prog) W 9998 25 5 32 .u8 Tryd.underlying25 Tryd.underlying5 size_u8D ((rb 32 f).map UInt8.toNat) ((rb 32 g).map UInt8.toNat) (by rw [List.length_map, rb_len]) (by rw [List.length_map, rb_len])
  rw [← bvs_natD, ← bvs_natD] at h2
  have e : ((rb 32 f).map UInt8.toNat == (rb 32 g).map UInt8.toNat) = b := by
    rw [← h, Bool.eq_iff_iff]
    simp only [beq_iff_eq, decide_eq_true_eq]
    exact ⟨toNat_injD, fun h => by rw [h]⟩
  rw [e] at h2
  exact h2
theorem k_eql {f g : Nat → UInt8} {b : Bool} (h : decide (rb 32 f = rb 32 g) = b) (p q : Operand) (W : World) : (do eqGuard .eql 25 p q (.agg (bvs (rb 32 f))) (.agg (bvs (rb 32 g))); binOp .eql 25 (.agg (bvs (rb 32 f))) (.agg (bvs (rb 32 g))) : Sem Value).run Tryd.prog W = .ok (.bool b) W := by
  have hq := keys_eqD h W
  go_simp
theorem k_neq {f g : Nat → UInt8} (h : rb 32 f ≠ rb 32 g) (p q : Operand) (W : World) : (do eqGuard .neq 25 p q (.agg (bvs (rb 32 f))) (.agg (bvs (rb 32 g))); binOp .neq 25 (.agg (bvs (rb 32 f))) (.agg (bvs (rb 32 g))) : Sem Value).run Tryd.prog W = .ok (.bool true) W := by
  have hq := keys_eqD (decide_eq_false h) W
  go_simp
theorem bd_c1 (W : World) : (Instr.build 25 [(0, .int .u8 1)].toArray).run Tryd.prog W = .ok (.agg (bvs (rb 32 c1K))) W := by kernel_rfl
/-! A place to cut. -/
theorem sl_loK {A : Option Addr} {k c K : Nat} (hK : K ≤ c) (W : World) : (Instr.sliceAt 22 (.slice A k c) none (some (.int .i64 (K : Int))) none).run Tryd.prog W = .ok (.slice A K c) W := by
  have hu : Tryd.prog.underlying 22 = some (.slice (Tryd.prog.elem 22)) := by kernel_rfl
  rw [run_sliceAt_slice W 22 _ _ _ _ hu]
  exact run_head2 (P := Tryd.prog) 22 5 Tryd.underlying22 u8_info A k c K hK W
theorem z_remI {a b c : Int} (hb : b ≠ 0) (h : a.tmod b = c) (p q : Operand) (W : World) : (do eqGuard .rem 3 p q (.int .i64 a) (.int .i64 b); binOp .rem 3 (.int .i64 a) (.int .i64 b) : Sem Value).run Tryd.prog W = .ok (.int .i64 c) W := by
  subst h
  go_simp
theorem z_addI {a b c : Int} (h : a + b = c) (hr : -9223372036854775808 ≤ c ∧ c ≤ 9223372036854775807) (p q : Operand) (W : World) : (do eqGuard .add 3 p q (.int .i64 a) (.int .i64 b); binOp .add 3 (.int .i64 a) (.int .i64 b) : Sem Value).run Tryd.prog W = .ok (.int .i64 c) W := by
  subst h
  have e := IntWalk.i64_in _ hr
  go_simp
theorem cut_at (z : Int) (k : Nat) : ∃ (r1 : Int) (m : Nat), z.tmod ((k : Int) + 1) = r1 ∧ -(k : Int) ≤ r1 ∧ r1 ≤ k ∧ (r1 + k + 1).tmod ((k : Int) + 1) = (m : Int) ∧ m ≤ k := by
  have h1 := Int.tmod_lt_of_pos z (show (0 : Int) < (k : Int) + 1 by omega)
  have h2 : -((k : Int) + 1) < z.tmod ((k : Int) + 1) := by
    have := Int.tmod_lt_of_pos (-z) (show (0 : Int) < (k : Int) + 1 by omega)
    rw [Int.neg_tmod] at this
    omega
  have h3 := Int.tmod_lt_of_pos (z.tmod ((k : Int) + 1) + k + 1) (show (0 : Int) < (k : Int) + 1 by omega)
  have h4 := Int.tmod_nonneg ((k : Int) + 1) (show 0 ≤ z.tmod ((k : Int) + 1) + k + 1 by omega)
  exact ⟨_, ((z.tmod ((k : Int) + 1) + k + 1).tmod ((k : Int) + 1)).toNat, rfl, by omega, by omega, by omega, by omega⟩
end Go.Proofs.YthjechjffhhiiaaDoor
