/- The chapter's rows: 'known' answers true. -/
import Derived.Test.YthlnnoajklmeiaaDoorLy
import Derived.Deep.DeepCutAuto
import Derived.Deep.CutBlock
namespace Go.Proofs.YthlnnoajklmeiaaDoor
set_option linter.unusedVariables false
set_option linter.unusedSimpArgs false
open Go Go.RowKit

theorem wpList_load_wanted {P : Program} {ops : Array Oper} {rest : List Oper} {o : Oper} {a : Act} {w : World} {Q : Exit → Act → World → Prop} (hw : Region.wanted o (yielded ops a.tmps) = true) (ty : TypeId) (x : Operand) (ho : o.op = .load ty x)
    (g : Nat) (hx : a.eval x = .pointer (some ⟨g, 0, none⟩)) (t : TypeId) (cs : Array Value) (fr : Nat × Nat) (d : TypeDesc) (hg : w.heap[g]? = some (.cells cs t fr))
    (hu : P.underlying ty = some d) (hd : (match d with | .struct _ | .array _ _ => true | _ => false) = true) (hi : (P.info? ty).map (·.size) = some cs.size)
    (h : wpList P ops Q rest (a.put o.dst (.agg cs)) w) : wpList P ops Q (o :: rest) a w :=
  wpList_step fun K hK => by
    rw [if_pos hw]
    exact wp_load_row ty x ho g hx t cs fr d hg hu hd hi (hK _ _ h)
theorem keys_same (n : Nat) (W : World) : (Op.equalIn 10000 23 (.agg (ks n)) (.agg (ks n))).run Tryd.prog W = .ok true W := by
  have h2 := run_equalIn_nats (P := Tryd.prog) W 9998 23 5 32 .u8 Tryd.underlying23 Tryd.underlying5 size_u8' (kb n) (kb n) (kb_len n) (kb_len n)
  rw [show (kb n == kb n) = true by simp] at h2
  exact h2
theorem ofK_val (y : Fin PP) : ofK y.val = y := by
  apply Fin.ext
  have := y.isLt
  show y.val % 57896044618658097711785492504343953926634992332820282019728792003956564819968 % PP = y.val
  have e : PP = 57896044618658097711785492504343953926634992332820282019728792003956564819949 := PP_eq
  rw [Nat.mod_eq_of_lt (a := y.val) (by omega), Nat.mod_eq_of_lt this]
theorem ofK_0 : ofK 0 = 0 := rfl
theorem val_0 : (0 : Fin PP).val = 0 := rfl
theorem p3 : 3 ≤ PP := LD.l1.ed.p3
attribute [local irreducible] lad lgo
set_option maxRecDepth 100000 in
set_option maxHeartbeats 16000000 in
theorem lknown_any (w : World) (hpg : PG w) : Calls Tryd.prog 10 #[] w (BPost true w) := by
  obtain ⟨y0, hy0⟩ : ∃ y, y = lad Q0 (clampN 7) (ofK 0) := ⟨_, rfl⟩
  have hy00 : y0 = 0 := by rw [hy0, ofK_0, lad_zero PP_prime p3]
  obtain ⟨m0, hm0⟩ : ∃ m, m = y0.val := ⟨_, rfl⟩
  have hz0 : m0 = 0 := by rw [hm0, hy00]; exact val_0
  obtain ⟨yp, hyp⟩ : ∃ y, y = lad Q0 (clampN 2) (ofK 9) := ⟨_, rfl⟩
  have hyp1 : yp = lad Q0 (clampN 1) (ofK 9) := by rw [hyp, clamp_1, clamp_2]
  have hyv : yp = Fin.ofNat PP V9 := by rw [hyp, clamp_2]; exact lad_9
  obtain ⟨p, hp⟩ : ∃ m, m = yp.val := ⟨_, rfl⟩
  have hpl : p < 115792089237316195423570985008687907853269984665640564039457584007913129639936 := by rw [hp]; exact PP_lt256 yp.isLt
  obtain ⟨ys, hys⟩ : ∃ y, y = lad Q0 (clampN 1) (ofK p) := ⟨_, rfl⟩
  have hys2 : ys = lad Q0 (clampN 2) (ofK p) := by rw [hys, clamp_1, clamp_2]
  have hysn : ys ≠ 0 := by rw [hys, clamp_1, hp, ofK_val, hyv]; exact lad_V9
  obtain ⟨m1, hm1⟩ : ∃ m, m = ys.val := ⟨_, rfl⟩
  have hm1n : m1 ≠ 0 := by rw [hm1]; intro e; exact hysn (Fin.ext e)
  have c0 := fun W hp => shared_no hy0 hm0 (show 7 < 115792089237316195423570985008687907853269984665640564039457584007913129639936 by omega) (show 0 < 115792089237316195423570985008687907853269984665640564039457584007913129639936 by omega) hz0 W hp
  rw [lit7, ks_zero] at c0
  have c2 := fun W hq => public_any hyp hp (show 2 < 115792089237316195423570985008687907853269984665640564039457584007913129639936 by omega) W hq
  rw [lit2] at c2
  have c1 := fun W hq => public_any hyp1 hp (show 1 < 115792089237316195423570985008687907853269984665640564039457584007913129639936 by omega) W hq
  rw [lit1] at c1
  have d1 := fun W hq => shared_yes hys hm1 (show 1 < 115792089237316195423570985008687907853269984665640564039457584007913129639936 by omega) hpl hm1n W hq
  rw [lit1] at d1
  have d2 := fun W hq => shared_yes hys2 hm1 (show 2 < 115792089237316195423570985008687907853269984665640564039457584007913129639936 by omega) hpl hm1n W hq
  rw [lit2] at d2
  have hfr := Fr.start w
  have HP := Lib.hid hpg
  have HF := Lib.hid hfr
  have HC0 := Lib.hid c0
  have HC1 := Lib.hid c1
  have HC2 := Lib.hid c2
  have HD1 := Lib.hid d1
  have HD2 := Lib.hid d2
  clear hfr hpg c0 c1 c2 d1 d2 hm1n hm1 hysn hys2 hys hpl hp hyv hyp1 hyp hz0 hm0 hy00 hy0
  have hke := keys_same m1
  go_enter Tryd.func10, Tryd.ntmps10
  go_wp2_with (fail)
  refine (HC0.out _ (Fr.pg HF.out HP.out)).mono ?_
  rintro e v1 ⟨rfl, hb⟩
  have hf := HF.out.ext hb
  have ka : Blk (v1.alloc (.cells #[.int .u8 0, .int .u8 0, .int .u8 0, .int .u8 0, .int .u8 0, .int .u8 0, .int .u8 0, .int .u8 0, .int .u8 0, .int .u8 0, .int .u8 0, .int .u8 0, .int .u8 0, .int .u8 0, .int .u8 0, .int .u8 0, .int .u8 0, .int .u8 0, .int .u8 0, .int .u8 0, .int .u8 0, .int .u8 0, .int .u8 0, .int .u8 0, .int .u8 0, .int .u8 0, .int .u8 0, .int .u8 0, .int .u8 0, .int .u8 0, .int .u8 0, .int .u8 0] 23)) v1.heap.size 23 #[.int .u8 0, .int .u8 0, .int .u8 0, .int .u8 0, .int .u8 0, .int .u8 0, .int .u8 0, .int .u8 0, .int .u8 0, .int .u8 0, .int .u8 0, .int .u8 0, .int .u8 0, .int .u8 0, .int .u8 0, .int .u8 0, .int .u8 0, .int .u8 0, .int .u8 0, .int .u8 0, .int .u8 0, .int .u8 0, .int .u8 0, .int .u8 0, .int .u8 0, .int .u8 0, .int .u8 0, .int .u8 0, .int .u8 0, .int .u8 0, .int .u8 0, .int .u8 0] := Blk.new _ _ _
  have kc := ka.setRow_same (ks m0)
  have hf3 := ((hf.pass (.cells #[.int .u8 0, .int .u8 0, .int .u8 0, .int .u8 0, .int .u8 0, .int .u8 0, .int .u8 0, .int .u8 0, .int .u8 0, .int .u8 0, .int .u8 0, .int .u8 0, .int .u8 0, .int .u8 0, .int .u8 0, .int .u8 0, .int .u8 0, .int .u8 0, .int .u8 0, .int .u8 0, .int .u8 0, .int .u8 0, .int .u8 0, .int .u8 0, .int .u8 0, .int .u8 0, .int .u8 0, .int .u8 0, .int .u8 0, .int .u8 0, .int .u8 0, .int .u8 0] 23)).setOut (g := v1.heap.size) (by have := hf.size; omega) (by intro p hp; exact Nat.ne_of_lt (hf.rows p hp).lt) (by simp) (ks m0)).more kc
  have hsz : (#[.int .u8 0, .int .u8 0, .int .u8 0, .int .u8 0, .int .u8 0, .int .u8 0, .int .u8 0, .int .u8 0, .int .u8 0, .int .u8 0, .int .u8 0, .int .u8 0, .int .u8 0, .int .u8 0, .int .u8 0, .int .u8 0, .int .u8 0, .int .u8 0, .int .u8 0, .int .u8 0, .int .u8 0, .int .u8 0, .int .u8 0, .int .u8 0, .int .u8 0, .int .u8 0, .int .u8 0, .int .u8 0, .int .u8 0, .int .u8 0, .int .u8 0, .int .u8 0] : Array Value).size = (ks m0).size := by rw [ks_size]; rfl
  have KA := Lib.hid ka
  have HSZ := Lib.hid hsz
  have HF4 := Lib.hid hf3
  clear hb hf kc ka hf3 HF hsz
  go_wp2_with (first | (refine wpList_store_row rfl 23 (.tmp 1) (.tmp 11) rfl (v1.heap.size) (ks m0) rfl rfl 23 _ KA.out (info_ks _) HSZ.out (ks_one _) ?_))
  have HF := HF4
  clear HF4 KA HSZ
  refine (HC2.out _ (Fr.pg HF.out HP.out)).mono ?_
  rintro e v2 ⟨rfl, hb⟩
  have hf := HF.out.ext hb
  have HF4 := Lib.hid hf
  clear hf hb HF
  have HF := HF4
  clear HF4
  go_wp2_with (fail)
  refine (HD1.out _ (Fr.pg HF.out HP.out)).mono ?_
  rintro e v3 ⟨rfl, hb⟩
  have hf := HF.out.ext hb
  have ka : Blk (v3.alloc (.cells #[.int .u8 0, .int .u8 0, .int .u8 0, .int .u8 0, .int .u8 0, .int .u8 0, .int .u8 0, .int .u8 0, .int .u8 0, .int .u8 0, .int .u8 0, .int .u8 0, .int .u8 0, .int .u8 0, .int .u8 0, .int .u8 0, .int .u8 0, .int .u8 0, .int .u8 0, .int .u8 0, .int .u8 0, .int .u8 0, .int .u8 0, .int .u8 0, .int .u8 0, .int .u8 0, .int .u8 0, .int .u8 0, .int .u8 0, .int .u8 0, .int .u8 0, .int .u8 0] 23)) v3.heap.size 23 #[.int .u8 0, .int .u8 0, .int .u8 0, .int .u8 0, .int .u8 0, .int .u8 0, .int .u8 0, .int .u8 0, .int .u8 0, .int .u8 0, .int .u8 0, .int .u8 0, .int .u8 0, .int .u8 0, .int .u8 0, .int .u8 0, .int .u8 0, .int .u8 0, .int .u8 0, .int .u8 0, .int .u8 0, .int .u8 0, .int .u8 0, .int .u8 0, .int .u8 0, .int .u8 0, .int .u8 0, .int .u8 0, .int .u8 0, .int .u8 0, .int .u8 0, .int .u8 0] := Blk.new _ _ _
  have kc := ka.setRow_same (ks m1)
  have hf3 := ((hf.pass (.cells #[.int .u8 0, .int .u8 0, .int .u8 0, .int .u8 0, .int .u8 0, .int .u8 0, .int .u8 0, .int .u8 0, .int .u8 0, .int .u8 0, .int .u8 0, .int .u8 0, .int .u8 0, .int .u8 0, .int .u8 0, .int .u8 0, .int .u8 0, .int .u8 0, .int .u8 0, .int .u8 0, .int .u8 0, .int .u8 0, .int .u8 0, .int .u8 0, .int .u8 0, .int .u8 0, .int .u8 0, .int .u8 0, .int .u8 0, .int .u8 0, .int .u8 0, .int .u8 0] 23)).setOut (g := v3.heap.size) (by have := hf.size; omega) (by intro p hp; exact Nat.ne_of_lt (hf.rows p hp).lt) (by simp) (ks m1)).more kc
  have hsz : (#[.int .u8 0, .int .u8 0, .int .u8 0, .int .u8 0, .int .u8 0, .int .u8 0, .int .u8 0, .int .u8 0, .int .u8 0, .int .u8 0, .int .u8 0, .int .u8 0, .int .u8 0, .int .u8 0, .int .u8 0, .int .u8 0, .int .u8 0, .int .u8 0, .int .u8 0, .int .u8 0, .int .u8 0, .int .u8 0, .int .u8 0, .int .u8 0, .int .u8 0, .int .u8 0, .int .u8 0, .int .u8 0, .int .u8 0, .int .u8 0, .int .u8 0, .int .u8 0] : Array Value).size = (ks m1).size := by rw [ks_size]; rfl
  have KA := Lib.hid ka
  have HSZ := Lib.hid hsz
  have HF4 := Lib.hid hf3
  clear hb hf kc ka hf3 HF hsz
  go_wp2_with (first | (refine wpList_store_row rfl 23 (.tmp 3) (.tmp 18) rfl (v3.heap.size) (ks m1) rfl rfl 23 _ KA.out (info_ks _) HSZ.out (ks_one _) ?_))
  have HF := HF4
  clear HF4 KA HSZ
  refine (HC1.out _ (Fr.pg HF.out HP.out)).mono ?_
  rintro e v4 ⟨rfl, hb⟩
  have hf := HF.out.ext hb
  have HF4 := Lib.hid hf
  clear hf hb HF
  have HF := HF4
  clear HF4
  go_wp2_with (fail)
  refine (HD2.out _ (Fr.pg HF.out HP.out)).mono ?_
  rintro e v5 ⟨rfl, hb⟩
  have hf := HF.out.ext hb
  have ka : Blk (v5.alloc (.cells #[.int .u8 0, .int .u8 0, .int .u8 0, .int .u8 0, .int .u8 0, .int .u8 0, .int .u8 0, .int .u8 0, .int .u8 0, .int .u8 0, .int .u8 0, .int .u8 0, .int .u8 0, .int .u8 0, .int .u8 0, .int .u8 0, .int .u8 0, .int .u8 0, .int .u8 0, .int .u8 0, .int .u8 0, .int .u8 0, .int .u8 0, .int .u8 0, .int .u8 0, .int .u8 0, .int .u8 0, .int .u8 0, .int .u8 0, .int .u8 0, .int .u8 0, .int .u8 0] 23)) v5.heap.size 23 #[.int .u8 0, .int .u8 0, .int .u8 0, .int .u8 0, .int .u8 0, .int .u8 0, .int .u8 0, .int .u8 0, .int .u8 0, .int .u8 0, .int .u8 0, .int .u8 0, .int .u8 0, .int .u8 0, .int .u8 0, .int .u8 0, .int .u8 0, .int .u8 0, .int .u8 0, .int .u8 0, .int .u8 0, .int .u8 0, .int .u8 0, .int .u8 0, .int .u8 0, .int .u8 0, .int .u8 0, .int .u8 0, .int .u8 0, .int .u8 0, .int .u8 0, .int .u8 0] := Blk.new _ _ _
  have kc := ka.setRow_same (ks m1)
  have hf3 := ((hf.pass (.cells #[.int .u8 0, .int .u8 0, .int .u8 0, .int .u8 0, .int .u8 0, .int .u8 0, .int .u8 0, .int .u8 0, .int .u8 0, .int .u8 0, .int .u8 0, .int .u8 0, .int .u8 0, .int .u8 0, .int .u8 0, .int .u8 0, .int .u8 0, .int .u8 0, .int .u8 0, .int .u8 0, .int .u8 0, .int .u8 0, .int .u8 0, .int .u8 0, .int .u8 0, .int .u8 0, .int .u8 0, .int .u8 0, .int .u8 0, .int .u8 0, .int .u8 0, .int .u8 0] 23)).setOut (g := v5.heap.size) (by have := hf.size; omega) (by intro p hp; exact Nat.ne_of_lt (hf.rows p hp).lt) (by simp) (ks m1)).more kc
  have hsz : (#[.int .u8 0, .int .u8 0, .int .u8 0, .int .u8 0, .int .u8 0, .int .u8 0, .int .u8 0, .int .u8 0, .int .u8 0, .int .u8 0, .int .u8 0, .int .u8 0, .int .u8 0, .int .u8 0, .int .u8 0, .int .u8 0, .int .u8 0, .int .u8 0, .int .u8 0, .int .u8 0, .int .u8 0, .int .u8 0, .int .u8 0, .int .u8 0, .int .u8 0, .int .u8 0, .int .u8 0, .int .u8 0, .int .u8 0, .int .u8 0, .int .u8 0, .int .u8 0] : Array Value).size = (ks m1).size := by rw [ks_size]; rfl
  have l3 := hf3.get (g := v3.heap.size) (t := 23) (cs := ks m1) (by simp)
  have l5 := hf3.get (g := v5.heap.size) (t := 23) (cs := ks m1) (by simp)
  have KA := Lib.hid ka
  have HSZ := Lib.hid hsz
  have HF4 := Lib.hid hf3
  clear hb hf kc ka hf3 HF hsz
  go_wp2_with (first | (refine wpList_store_row rfl 23 (.tmp 5) (.tmp 25) rfl (v5.heap.size) (ks m1) rfl rfl 23 _ KA.out (info_ks _) HSZ.out (ks_one _) ?_) | (refine wpList_load_wanted (by kernel_rfl) 23 (.tmp 3) rfl (v3.heap.size) rfl 23 (ks m1) (0, 0) _ l3 Tryd.underlying23 rfl (info_ks _) ?_) | (refine wpList_load_wanted (by kernel_rfl) 23 (.tmp 5) rfl (v5.heap.size) rfl 23 (ks m1) (0, 0) _ l5 Tryd.underlying23 rfl (info_ks _) ?_))
  have HF := HF4
  clear HF4 KA HSZ l3 l5
  have HB := Lib.hid HF.out.below
  clear HF
  go_ret
  exact ⟨rfl, HB.out⟩
end Go.Proofs.YthlnnoajklmeiaaDoor
