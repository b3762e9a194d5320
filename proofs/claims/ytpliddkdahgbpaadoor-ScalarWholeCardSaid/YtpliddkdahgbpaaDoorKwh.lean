/- The walk of ScalarWhole. -/
import Derived.Test.YtpliddkdahgbpaaDoorSy
import Derived.Deep.DeepCutAuto
import Derived.Deep.CutBlock
namespace Go.Proofs.YtpliddkdahgbpaaDoor
set_option linter.unusedVariables false
set_option linter.unusedSimpArgs false
open Go.RowKit

theorem wpList_load_wanted {P : Program} {ops : Array Oper} {rest : List Oper} {o : Oper} {a : Act} {w : World} {Q : Exit → Act → World → Prop} (hw : Region.wanted o (yielded ops a.tmps) = true) (ty : TypeId) (x : Operand) (ho : o.op = .load ty x)
    (g : Nat) (hx : a.eval x = .pointer (some ⟨g, 0, none⟩)) (t : TypeId) (cs : Array Value) (fr : Nat × Nat) (d : TypeDesc) (hg : w.heap[g]? = some (.cells cs t fr))
    (hu : P.underlying ty = some d) (hd : (match d with | .struct _ | .array _ _ => true | _ => false) = true) (hi : (P.info? ty).map (·.size) = some cs.size)
    (h : wpList P ops Q rest (a.put o.dst (.agg cs)) w) : wpList P ops Q (o :: rest) a w :=
  wpList_step fun K hK => by
    rw [if_pos hw]
    exact wp_load_row ty x ho g hx t cs fr d hg hu hd hi (hK _ _ h)
section
variable {l t r s z x M : Nat}
theorem wh1 (h : l = M) (hz : z = 0) : (l * t + 0) % M = z := by rw [h, hz, Nat.add_zero, Nat.mul_mod_right]
theorem wh2 (h : l = M) : decide (l < M) = false := by rw [h]; simp
theorem wh3 (h : r = s % M) : (s * 1 + 0) % M = r := by rw [Nat.mul_one, Nat.add_zero, h]
theorem wh4 (h : l = M) (hr : r = s % M) : (l * t + r) % M = r := by rw [h, hr, Nat.mul_add_mod, Nat.mod_mod]
theorem mulT (h : (x * t + 0) % LL = r) (w : World) (hog : OG w) (hx : x < 115792089237316195423570985008687907853269984665640564039457584007913129639936) (ht : t < 256) : Calls Tryd.prog 16 #[.agg (ks x), .agg #[.int .u8 (t : Int), .int .u8 0, .int .u8 0, .int .u8 0, .int .u8 0, .int .u8 0, .int .u8 0, .int .u8 0, .int .u8 0, .int .u8 0, .int .u8 0, .int .u8 0, .int .u8 0, .int .u8 0, .int .u8 0, .int .u8 0, .int .u8 0, .int .u8 0, .int .u8 0, .int .u8 0, .int .u8 0, .int .u8 0, .int .u8 0, .int .u8 0, .int .u8 0, .int .u8 0, .int .u8 0, .int .u8 0, .int .u8 0, .int .u8 0, .int .u8 0, .int .u8 0], .agg #[.int .u8 0, .int .u8 0, .int .u8 0, .int .u8 0, .int .u8 0, .int .u8 0, .int .u8 0, .int .u8 0, .int .u8 0, .int .u8 0, .int .u8 0, .int .u8 0, .int .u8 0, .int .u8 0, .int .u8 0, .int .u8 0, .int .u8 0, .int .u8 0, .int .u8 0, .int .u8 0, .int .u8 0, .int .u8 0, .int .u8 0, .int .u8 0, .int .u8 0, .int .u8 0, .int .u8 0, .int .u8 0, .int .u8 0, .int .u8 0, .int .u8 0, .int .u8 0]] w (KeyPost r w) := by
  have h2 := mulR h w hog hx (by omega) (by omega)
  rw [lit_byte t ht, lit0] at h2
  exact h2
theorem mul1 (h : (x * 1 + 0) % LL = r) (w : World) (hog : OG w) (hx : x < 115792089237316195423570985008687907853269984665640564039457584007913129639936) : Calls Tryd.prog 16 #[.agg (ks x), .agg #[.int .u8 1, .int .u8 0, .int .u8 0, .int .u8 0, .int .u8 0, .int .u8 0, .int .u8 0, .int .u8 0, .int .u8 0, .int .u8 0, .int .u8 0, .int .u8 0, .int .u8 0, .int .u8 0, .int .u8 0, .int .u8 0, .int .u8 0, .int .u8 0, .int .u8 0, .int .u8 0, .int .u8 0, .int .u8 0, .int .u8 0, .int .u8 0, .int .u8 0, .int .u8 0, .int .u8 0, .int .u8 0, .int .u8 0, .int .u8 0, .int .u8 0, .int .u8 0], .agg #[.int .u8 0, .int .u8 0, .int .u8 0, .int .u8 0, .int .u8 0, .int .u8 0, .int .u8 0, .int .u8 0, .int .u8 0, .int .u8 0, .int .u8 0, .int .u8 0, .int .u8 0, .int .u8 0, .int .u8 0, .int .u8 0, .int .u8 0, .int .u8 0, .int .u8 0, .int .u8 0, .int .u8 0, .int .u8 0, .int .u8 0, .int .u8 0, .int .u8 0, .int .u8 0, .int .u8 0, .int .u8 0, .int .u8 0, .int .u8 0, .int .u8 0, .int .u8 0]] w (KeyPost r w) := by
  have h2 := mulR h w hog hx (by omega) (by omega)
  rw [lit1, lit0] at h2
  exact h2
end
set_option maxRecDepth 100000 in
set_option maxHeartbeats 16000000 in
theorem law_whole (s t : Nat) (w : World) (hog : OG w) (hs : s < 115792089237316195423570985008687907853269984665640564039457584007913129639936) (ht : t < 256) : Calls Tryd.prog 6 #[.agg (ks s), .int .u8 (t : Int)] w (BPost true w) := by
  obtain ⟨l, hl⟩ : ∃ l, l = LL := ⟨_, rfl⟩
  have ll : l < 115792089237316195423570985008687907853269984665640564039457584007913129639936 := by rw [hl]; exact LL_lt
  obtain ⟨r, hr⟩ : ∃ r, r = s % LL := ⟨_, rfl⟩
  have lr := red_lt hr
  have hrl : r < LL := by rw [hr]; exact Nat.mod_lt _ (by rw [LL_eq]; omega)
  have lt : t < 115792089237316195423570985008687907853269984665640564039457584007913129639936 := by omega
  have hor := fun W ho => order_key W ho
  rw [← hl] at hor
  obtain ⟨z, hz⟩ : ∃ z, z = 0 := ⟨_, rfl⟩
  have hke0 : ∀ W, (Op.equalIn 10000 25 (.agg (ks z)) (.agg #[.int .u8 0, .int .u8 0, .int .u8 0, .int .u8 0, .int .u8 0, .int .u8 0, .int .u8 0, .int .u8 0, .int .u8 0, .int .u8 0, .int .u8 0, .int .u8 0, .int .u8 0, .int .u8 0, .int .u8 0, .int .u8 0, .int .u8 0, .int .u8 0, .int .u8 0, .int .u8 0, .int .u8 0, .int .u8 0, .int .u8 0, .int .u8 0, .int .u8 0, .int .u8 0, .int .u8 0, .int .u8 0, .int .u8 0, .int .u8 0, .int .u8 0, .int .u8 0])).run Tryd.prog W = .ok true W := fun W => by rw [hz, ← lit0]; exact keys_same 0 W
  have HL := Lib.hid hl
  clear hl
  have LL' := Lib.hid ll
  clear ll
  have HR := Lib.hid hr
  clear hr
  have LR := Lib.hid lr
  clear lr
  have HRL := Lib.hid hrl
  clear hrl
  have HS := Lib.hid hs
  clear hs
  have HT := Lib.hid ht
  clear ht
  have LT := Lib.hid lt
  clear lt
  have HZ := Lib.hid hz
  clear hz
  have HOR := Lib.hid hor
  clear hor
  have hfr := (Fr.start w).row (ks s) 25 (g := w.heap.size) rfl
  have HO := Lib.hid hog
  have HF := Lib.hid hfr
  clear hfr hog
  have hke := keys_same
  have l2 := HF.out.get (g := w.heap.size) (t := 25) (cs := ks s) (by simp)
  go_enter Tryd.func6, Tryd.ntmps6
  go_wp2_with (fail)
  refine (HOR.out _ (HF.out.og HO.out)).mono ?_
  rintro e v1 ⟨rfl, hb⟩
  have hf := HF.out.ext hb
  have ka : Blk (v1.alloc (.cells #[.int .u8 0, .int .u8 0, .int .u8 0, .int .u8 0, .int .u8 0, .int .u8 0, .int .u8 0, .int .u8 0, .int .u8 0, .int .u8 0, .int .u8 0, .int .u8 0, .int .u8 0, .int .u8 0, .int .u8 0, .int .u8 0, .int .u8 0, .int .u8 0, .int .u8 0, .int .u8 0, .int .u8 0, .int .u8 0, .int .u8 0, .int .u8 0, .int .u8 0, .int .u8 0, .int .u8 0, .int .u8 0, .int .u8 0, .int .u8 0, .int .u8 0, .int .u8 0] 25)) v1.heap.size 25 #[.int .u8 0, .int .u8 0, .int .u8 0, .int .u8 0, .int .u8 0, .int .u8 0, .int .u8 0, .int .u8 0, .int .u8 0, .int .u8 0, .int .u8 0, .int .u8 0, .int .u8 0, .int .u8 0, .int .u8 0, .int .u8 0, .int .u8 0, .int .u8 0, .int .u8 0, .int .u8 0, .int .u8 0, .int .u8 0, .int .u8 0, .int .u8 0, .int .u8 0, .int .u8 0, .int .u8 0, .int .u8 0, .int .u8 0, .int .u8 0, .int .u8 0, .int .u8 0] := Blk.new _ _ _
  have kc := ka.setRow_same (ks l)
  have hf3 := ((hf.pass (.cells #[.int .u8 0, .int .u8 0, .int .u8 0, .int .u8 0, .int .u8 0, .int .u8 0, .int .u8 0, .int .u8 0, .int .u8 0, .int .u8 0, .int .u8 0, .int .u8 0, .int .u8 0, .int .u8 0, .int .u8 0, .int .u8 0, .int .u8 0, .int .u8 0, .int .u8 0, .int .u8 0, .int .u8 0, .int .u8 0, .int .u8 0, .int .u8 0, .int .u8 0, .int .u8 0, .int .u8 0, .int .u8 0, .int .u8 0, .int .u8 0, .int .u8 0, .int .u8 0] 25)).setOut (g := v1.heap.size) (by have := hf.size; omega) (by intro p hp; exact Nat.ne_of_lt (hf.rows p hp).lt) (by simp) (ks l)).more kc
  have hsz : (#[.int .u8 0, .int .u8 0, .int .u8 0, .int .u8 0, .int .u8 0, .int .u8 0, .int .u8 0, .int .u8 0, .int .u8 0, .int .u8 0, .int .u8 0, .int .u8 0, .int .u8 0, .int .u8 0, .int .u8 0, .int .u8 0, .int .u8 0, .int .u8 0, .int .u8 0, .int .u8 0, .int .u8 0, .int .u8 0, .int .u8 0, .int .u8 0, .int .u8 0, .int .u8 0, .int .u8 0, .int .u8 0, .int .u8 0, .int .u8 0, .int .u8 0, .int .u8 0] : Array Value).size = (ks l).size := by rw [ks_size]; rfl
  have l5 := hf3.get (g := v1.heap.size) (t := 25) (cs := ks l) (by simp)
  have KA := Lib.hid ka
  have HSZ := Lib.hid hsz
  have HF4 := Lib.hid hf3
  clear hb hf kc ka hf3 HF hsz
  go_wp2_with (first | (refine wpList_store_row rfl 25 (.tmp 5) (.tmp 7) rfl (v1.heap.size) (ks l) rfl rfl 25 _ KA.out (info_ks _) HSZ.out (ks_one _) ?_) | (refine wpList_load_row rfl 25 (.tmp 5) rfl (v1.heap.size) rfl 25 (ks l) (0, 0) _ l5 Tryd.underlying25 rfl (info_ks _) ?_))
  have HF := HF4
  clear HF4 KA HSZ l5
  refine (mulT (wh1 HL.out HZ.out) _ (HF.out.og HO.out) LL'.out HT.out).mono ?_
  rintro e v2 ⟨rfl, hb⟩
  have hf := HF.out.ext hb
  have l5 := hf.get (g := v1.heap.size) (t := 25) (cs := ks l) (by simp)
  have HF4 := Lib.hid hf
  clear hb hf HF
  have HF := HF4
  clear HF4
  go_wp2_with (first | fail | (refine wpList_load_wanted (by kernel_rfl) 25 (.tmp 5) rfl (v1.heap.size) rfl 25 (ks l) (0, 0) _ l5 Tryd.underlying25 rfl (info_ks _) ?_))
  clear l5
  refine (mayR (wh2 HL.out) _ (HF.out.og HO.out) LL'.out).mono ?_
  rintro e v3 ⟨rfl, hb⟩
  have hf := HF.out.ext hb
  have l2 := hf.get (g := w.heap.size) (t := 25) (cs := ks s) (by simp)
  have HF4 := Lib.hid hf
  clear hb hf HF
  have HF := HF4
  clear HF4
  go_wp2_with (first | fail | (refine wpList_load_row rfl 25 (.tmp 2) rfl (w.heap.size) rfl 25 (ks s) (0, 0) _ l2 Tryd.underlying25 rfl (info_ks _) ?_))
  clear l2
  refine (mul1 (wh3 HR.out) _ (HF.out.og HO.out) HS.out).mono ?_
  rintro e v4 ⟨rfl, hb⟩
  have hf := HF.out.ext hb
  have ka : Blk (v4.alloc (.cells #[.int .u8 0, .int .u8 0, .int .u8 0, .int .u8 0, .int .u8 0, .int .u8 0, .int .u8 0, .int .u8 0, .int .u8 0, .int .u8 0, .int .u8 0, .int .u8 0, .int .u8 0, .int .u8 0, .int .u8 0, .int .u8 0, .int .u8 0, .int .u8 0, .int .u8 0, .int .u8 0, .int .u8 0, .int .u8 0, .int .u8 0, .int .u8 0, .int .u8 0, .int .u8 0, .int .u8 0, .int .u8 0, .int .u8 0, .int .u8 0, .int .u8 0, .int .u8 0] 25)) v4.heap.size 25 #[.int .u8 0, .int .u8 0, .int .u8 0, .int .u8 0, .int .u8 0, .int .u8 0, .int .u8 0, .int .u8 0, .int .u8 0, .int .u8 0, .int .u8 0, .int .u8 0, .int .u8 0, .int .u8 0, .int .u8 0, .int .u8 0, .int .u8 0, .int .u8 0, .int .u8 0, .int .u8 0, .int .u8 0, .int .u8 0, .int .u8 0, .int .u8 0, .int .u8 0, .int .u8 0, .int .u8 0, .int .u8 0, .int .u8 0, .int .u8 0, .int .u8 0, .int .u8 0] := Blk.new _ _ _
  have kc := ka.setRow_same (ks r)
  have hf3 := ((hf.pass (.cells #[.int .u8 0, .int .u8 0, .int .u8 0, .int .u8 0, .int .u8 0, .int .u8 0, .int .u8 0, .int .u8 0, .int .u8 0, .int .u8 0, .int .u8 0, .int .u8 0, .int .u8 0, .int .u8 0, .int .u8 0, .int .u8 0, .int .u8 0, .int .u8 0, .int .u8 0, .int .u8 0, .int .u8 0, .int .u8 0, .int .u8 0, .int .u8 0, .int .u8 0, .int .u8 0, .int .u8 0, .int .u8 0, .int .u8 0, .int .u8 0, .int .u8 0, .int .u8 0] 25)).setOut (g := v4.heap.size) (by have := hf.size; omega) (by intro p hp; exact Nat.ne_of_lt (hf.rows p hp).lt) (by simp) (ks r)).more kc
  have hsz : (#[.int .u8 0, .int .u8 0, .int .u8 0, .int .u8 0, .int .u8 0, .int .u8 0, .int .u8 0, .int .u8 0, .int .u8 0, .int .u8 0, .int .u8 0, .int .u8 0, .int .u8 0, .int .u8 0, .int .u8 0, .int .u8 0, .int .u8 0, .int .u8 0, .int .u8 0, .int .u8 0, .int .u8 0, .int .u8 0, .int .u8 0, .int .u8 0, .int .u8 0, .int .u8 0, .int .u8 0, .int .u8 0, .int .u8 0, .int .u8 0, .int .u8 0, .int .u8 0] : Array Value).size = (ks r).size := by rw [ks_size]; rfl
  have KA := Lib.hid ka
  have HSZ := Lib.hid hsz
  have HF4 := Lib.hid hf3
  clear hb hf kc ka hf3 HF hsz
  go_wp2_with (first | (refine wpList_store_row rfl 25 (.tmp 6) (.tmp 22) rfl (v4.heap.size) (ks r) rfl rfl 25 _ KA.out (info_ks _) HSZ.out (ks_one _) ?_))
  have HF := HF4
  clear HF4 KA HSZ
  by_cases hc : s < LL
  · as_aux_lemma =>
      have hd := decide_eq_true hc
      have hk2 : ∀ W, (Op.equalIn 10000 25 (.agg (ks r)) (.agg (ks s))).run Tryd.prog W = .ok true W := fun W => keys_eq LR.out HS.out (decide_eq_true (by rw [HR.out]; exact Nat.mod_eq_of_lt hc)) W
      have HD := Lib.hid hd
      clear hd hc
      refine wp_region_held_drew (S := fun W => Fr w W [(v4.heap.size, 25, ks r), (v1.heap.size, 25, ks l), (w.heap.size, 25, ks s)] []) (by kernel_rfl) ?_ (fun hHeld => ?_)
      · exact (HF.out.sub (by simp) (by simp)).drew
      refine wpAnyH_take (i := 0) (v := .agg (ks s)) rfl (by kernel_rfl) (by kernel_rfl) (by kernel_rfl) (fun _ _ _ h => h) (yields_row (by rfl) 25 (.tmp 2) rfl (w.heap.size) rfl 25 (ks s) _ (fun W (h : Fr _ W _ _) => h.get (by simp)) Tryd.underlying25 rfl (info_ks _)) hHeld ?_
      try simp only [Act.put, List.getElem_toArray, List.getElem_cons_succ, List.getElem_cons_zero, List.setIfInBounds_toArray, List.set_cons_zero, List.set_cons_succ]
      refine wpAnyH_take (i := 2) (v := .agg (ks r)) rfl (by kernel_rfl) (by kernel_rfl) (by kernel_rfl) (fun _ _ _ h => h) (yields_row (by rfl) 25 (.tmp 6) rfl (v4.heap.size) rfl 25 (ks r) _ (fun W (h : Fr _ W _ _) => h.get (by simp)) Tryd.underlying25 rfl (info_ks _)) hHeld ?_
      try simp only [Act.put, List.getElem_toArray, List.getElem_cons_succ, List.getElem_cons_zero, List.setIfInBounds_toArray, List.set_cons_zero, List.set_cons_succ]
      refine wpAnyH_take (i := 3) (v := .agg (ks s)) rfl (by kernel_rfl) (by kernel_rfl) (by kernel_rfl) (fun _ _ _ h => h) (yields_row (by rfl) 25 (.tmp 2) rfl (w.heap.size) rfl 25 (ks s) _ (fun W (h : Fr _ W _ _) => h.get (by simp)) Tryd.underlying25 rfl (info_ks _)) hHeld ?_
      try simp only [Act.put, List.getElem_toArray, List.getElem_cons_succ, List.getElem_cons_zero, List.setIfInBounds_toArray, List.set_cons_zero, List.set_cons_succ]
      refine wpAnyH_take (i := 4) (v := ?_) rfl (by kernel_rfl) (by kernel_rfl) (by kernel_rfl) (fun _ _ _ h => h) (Or.inl ⟨by rfl, ?_⟩) hHeld ?_
      rotate_left
      · (intro W hSw; (try dsimp only at hSw); (try simp only [List.getElem_toArray, List.getElem_cons_succ, List.getElem_cons_zero]); go_simp; try with_reducible rfl)
      try simp only [Act.put, List.getElem_toArray, List.getElem_cons_succ, List.getElem_cons_zero, List.setIfInBounds_toArray, List.set_cons_zero, List.set_cons_succ]
      refine wpAnyH_ready (rs := [1]) (by kernel_rfl) (by simp) (AllReadyH.cons rfl (fun K hK => ?_) AllReadyH.nil)
      have h0 := hHeld
      clear hHeld
      try simp only [List.getElem_toArray, List.getElem_cons_succ, List.getElem_cons_zero]
      have H0 := Lib.hid h0
      clear h0
      go_simp
      go_at_call 10
      refine (mayR HD.out _ (Fr.og H0.out HO.out) HS.out).mono ?_
      rintro e vv ⟨rfl, hb⟩
      have h1 := H0.out.ext hb
      clear hb H0
      go_wp2_with (fail)
      refine hK.out _ _ h1 (fun hHeld => ?_)
      clear hK K h1
      try simp only [Act.put, List.getElem_toArray, List.getElem_cons_succ, List.getElem_cons_zero, List.setIfInBounds_toArray, List.set_cons_zero, List.set_cons_succ]
      refine wpAnyH_take (i := 5) (v := ?_) rfl (by kernel_rfl) (by kernel_rfl) (by kernel_rfl) (fun _ _ _ h => h) (Or.inl ⟨by rfl, ?_⟩) hHeld ?_
      rotate_left
      · (intro W hSw; (try dsimp only at hSw); (try simp only [List.getElem_toArray, List.getElem_cons_succ, List.getElem_cons_zero]); go_simp; try with_reducible rfl)
      try simp only [Act.put, List.getElem_toArray, List.getElem_cons_succ, List.getElem_cons_zero, List.setIfInBounds_toArray, List.set_cons_zero, List.set_cons_succ]
      refine wpAnyH_take (i := 6) (v := ?_) rfl (by kernel_rfl) (by kernel_rfl) (by kernel_rfl) (fun _ _ _ h => h) (Or.inl ⟨by rfl, ?_⟩) hHeld ?_
      rotate_left
      · (intro W hSw; (try dsimp only at hSw); (try simp only [List.getElem_toArray, List.getElem_cons_succ, List.getElem_cons_zero]); go_simp; try with_reducible rfl)
      try simp only [Act.put, List.getElem_toArray, List.getElem_cons_succ, List.getElem_cons_zero, List.setIfInBounds_toArray, List.set_cons_zero, List.set_cons_succ]
      refine wpAnyH_take (i := 7) (v := .agg (ks l)) rfl (by kernel_rfl) (by kernel_rfl) (by kernel_rfl) (fun _ _ _ h => h) (yields_row (by rfl) 25 (.tmp 5) rfl (v1.heap.size) rfl 25 (ks l) _ (fun W (h : Fr _ W _ _) => h.get (by simp)) Tryd.underlying25 rfl (info_ks _)) hHeld ?_
      try simp only [Act.put, List.getElem_toArray, List.getElem_cons_succ, List.getElem_cons_zero, List.setIfInBounds_toArray, List.set_cons_zero, List.set_cons_succ]
      refine wpAnyH_take (i := 8) (v := ?_) rfl (by kernel_rfl) (by kernel_rfl) (by kernel_rfl) (fun _ _ _ h => h) (Or.inl ⟨by rfl, ?_⟩) hHeld ?_
      rotate_left
      · (intro W hSw; (try dsimp only at hSw); (try simp only [List.getElem_toArray, List.getElem_cons_succ, List.getElem_cons_zero]); go_simp; try with_reducible rfl)
      try simp only [Act.put, List.getElem_toArray, List.getElem_cons_succ, List.getElem_cons_zero, List.setIfInBounds_toArray, List.set_cons_zero, List.set_cons_succ]
      refine wpAnyH_take (i := 9) (v := .agg (ks t)) rfl (by kernel_rfl) (by kernel_rfl) (by kernel_rfl) (fun _ _ _ h => h) (Or.inl ⟨by rfl, ?_⟩) hHeld ?_
      · (intro W hSw; clear hSw; rw [lit_byte t HT.out]; (try simp only [List.getElem_toArray, List.getElem_cons_succ, List.getElem_cons_zero]); go_simp; try with_reducible rfl)
      try simp only [Act.put, List.getElem_toArray, List.getElem_cons_succ, List.getElem_cons_zero, List.setIfInBounds_toArray, List.set_cons_zero, List.set_cons_succ]
      refine wpAnyH_take (i := 10) (v := .agg (ks r)) rfl (by kernel_rfl) (by kernel_rfl) (by kernel_rfl) (fun _ _ _ h => h) (yields_row (by rfl) 25 (.tmp 6) rfl (v4.heap.size) rfl 25 (ks r) _ (fun W (h : Fr _ W _ _) => h.get (by simp)) Tryd.underlying25 rfl (info_ks _)) hHeld ?_
      try simp only [Act.put, List.getElem_toArray, List.getElem_cons_succ, List.getElem_cons_zero, List.setIfInBounds_toArray, List.set_cons_zero, List.set_cons_succ]
      refine wpAnyH_take (i := 12) (v := .agg (ks r)) rfl (by kernel_rfl) (by kernel_rfl) (by kernel_rfl) (fun _ _ _ h => h) (yields_row (by rfl) 25 (.tmp 6) rfl (v4.heap.size) rfl 25 (ks r) _ (fun W (h : Fr _ W _ _) => h.get (by simp)) Tryd.underlying25 rfl (info_ks _)) hHeld ?_
      try simp only [Act.put, List.getElem_toArray, List.getElem_cons_succ, List.getElem_cons_zero, List.setIfInBounds_toArray, List.set_cons_zero, List.set_cons_succ]
      refine wpAnyH_ready (rs := [11]) (by kernel_rfl) (by simp) (AllReadyH.cons rfl (fun K hK => ?_) AllReadyH.nil)
      have h0 := hHeld
      clear hHeld
      try simp only [List.getElem_toArray, List.getElem_cons_succ, List.getElem_cons_zero]
      have H0 := Lib.hid h0
      clear h0
      go_simp
      go_at_call 16
      refine (mulR (wh4 HL.out HR.out) _ (Fr.og H0.out HO.out) LL'.out LT.out LR.out).mono ?_
      rintro e vv ⟨rfl, hb⟩
      have h1 := H0.out.ext hb
      clear hb H0
      go_wp2_with (fail)
      refine hK.out _ _ h1 (fun hHeld => ?_)
      clear hK K h1
      try simp only [Act.put, List.getElem_toArray, List.getElem_cons_succ, List.getElem_cons_zero, List.setIfInBounds_toArray, List.set_cons_zero, List.set_cons_succ]
      refine wpAnyH_take (i := 13) (v := ?_) rfl (by kernel_rfl) (by kernel_rfl) (by kernel_rfl) (fun _ _ _ h => h) (Or.inl ⟨by rfl, ?_⟩) hHeld ?_
      rotate_left
      · (intro W hSw; (try dsimp only at hSw); (try simp only [List.getElem_toArray, List.getElem_cons_succ, List.getElem_cons_zero]); go_simp; try with_reducible rfl)
      try simp only [Act.put, List.getElem_toArray, List.getElem_cons_succ, List.getElem_cons_zero, List.setIfInBounds_toArray, List.set_cons_zero, List.set_cons_succ]
      refine wpAnyH_take (i := 14) (v := ?_) rfl (by kernel_rfl) (by kernel_rfl) (by kernel_rfl) (fun _ _ _ h => h) (Or.inl ⟨by rfl, ?_⟩) hHeld ?_
      rotate_left
      · (intro W hSw; (try dsimp only at hSw); (try simp only [List.getElem_toArray, List.getElem_cons_succ, List.getElem_cons_zero]); go_simp; try with_reducible rfl)
      try simp only [Act.put, List.getElem_toArray, List.getElem_cons_succ, List.getElem_cons_zero, List.setIfInBounds_toArray, List.set_cons_zero, List.set_cons_succ]
      refine wpAnyH_take (i := 15) (v := ?_) rfl (by kernel_rfl) (by kernel_rfl) (by kernel_rfl) (fun _ _ _ h => h) (Or.inl ⟨by rfl, ?_⟩) hHeld ?_
      rotate_left
      · (intro W hSw; (try dsimp only at hSw); (try simp only [List.getElem_toArray, List.getElem_cons_succ, List.getElem_cons_zero]); go_simp; try with_reducible rfl)
      try simp only [Act.put, List.getElem_toArray, List.getElem_cons_succ, List.getElem_cons_zero, List.setIfInBounds_toArray, List.set_cons_zero, List.set_cons_succ]
      refine wpAnyH_ready (rs := [16]) (by kernel_rfl) (by simp) (AllReadyH.cons rfl (fun K hK => ?_) AllReadyH.nil)
      have h0 := hHeld
      clear hHeld
      try simp only [List.getElem_toArray, List.getElem_cons_succ, List.getElem_cons_zero]
      have H0 := Lib.hid h0
      clear h0
      go_simp
      go_at_call 14
      refine (known_any _ (Fr.og H0.out HO.out)).mono ?_
      rintro e vv ⟨rfl, hb⟩
      have h1 := H0.out.ext hb
      clear hb H0
      go_wp2_with (fail)
      refine hK.out _ _ h1 (fun hHeld => ?_)
      clear hK K h1
      try simp only [Act.put, List.getElem_toArray, List.getElem_cons_succ, List.getElem_cons_zero, List.setIfInBounds_toArray, List.set_cons_zero, List.set_cons_succ]
      refine wpAnyH_take (i := 17) (v := ?_) rfl (by kernel_rfl) (by kernel_rfl) (by kernel_rfl) (fun _ _ _ h => h) (Or.inl ⟨by rfl, ?_⟩) hHeld ?_
      rotate_left
      · (intro W hSw; (try dsimp only at hSw); (try simp only [List.getElem_toArray, List.getElem_cons_succ, List.getElem_cons_zero]); go_simp; try with_reducible rfl)
      try simp only [Act.put, List.getElem_toArray, List.getElem_cons_succ, List.getElem_cons_zero, List.setIfInBounds_toArray, List.set_cons_zero, List.set_cons_succ]
      refine wpAnyH_take (i := 18) (v := ?_) rfl (by kernel_rfl) (by kernel_rfl) (by kernel_rfl) (fun _ _ _ h => h) (Or.inl ⟨by rfl, ?_⟩) hHeld ?_
      rotate_left
      · (intro W hSw; (try dsimp only at hSw); (try simp only [List.getElem_toArray, List.getElem_cons_succ, List.getElem_cons_zero]); go_simp; try with_reducible rfl)
      try simp only [Act.put, List.getElem_toArray, List.getElem_cons_succ, List.getElem_cons_zero, List.setIfInBounds_toArray, List.set_cons_zero, List.set_cons_succ]
      refine wpAnyH_done (by kernel_rfl) ?_ _
      have HB := Lib.hid hHeld.below
      clear hHeld
      go_wp2_with (fail)
      go_ret
      exact ⟨rfl, HB.out⟩
  · as_aux_lemma =>
      have hd := decide_eq_false hc
      have hk2 : ∀ W, (Op.equalIn 10000 25 (.agg (ks r)) (.agg (ks s))).run Tryd.prog W = .ok false W := fun W => keys_eq LR.out HS.out (decide_eq_false (by have := HRL.out; intro e; rw [e] at this; exact hc this)) W
      have HD := Lib.hid hd
      clear hd hc
      refine wp_region_held_drew (S := fun W => Fr w W [(v4.heap.size, 25, ks r), (v1.heap.size, 25, ks l), (w.heap.size, 25, ks s)] []) (by kernel_rfl) ?_ (fun hHeld => ?_)
      · exact (HF.out.sub (by simp) (by simp)).drew
      refine wpAnyH_take (i := 0) (v := .agg (ks s)) rfl (by kernel_rfl) (by kernel_rfl) (by kernel_rfl) (fun _ _ _ h => h) (yields_row (by rfl) 25 (.tmp 2) rfl (w.heap.size) rfl 25 (ks s) _ (fun W (h : Fr _ W _ _) => h.get (by simp)) Tryd.underlying25 rfl (info_ks _)) hHeld ?_
      try simp only [Act.put, List.getElem_toArray, List.getElem_cons_succ, List.getElem_cons_zero, List.setIfInBounds_toArray, List.set_cons_zero, List.set_cons_succ]
      refine wpAnyH_take (i := 2) (v := .agg (ks r)) rfl (by kernel_rfl) (by kernel_rfl) (by kernel_rfl) (fun _ _ _ h => h) (yields_row (by rfl) 25 (.tmp 6) rfl (v4.heap.size) rfl 25 (ks r) _ (fun W (h : Fr _ W _ _) => h.get (by simp)) Tryd.underlying25 rfl (info_ks _)) hHeld ?_
      try simp only [Act.put, List.getElem_toArray, List.getElem_cons_succ, List.getElem_cons_zero, List.setIfInBounds_toArray, List.set_cons_zero, List.set_cons_succ]
      refine wpAnyH_take (i := 3) (v := .agg (ks s)) rfl (by kernel_rfl) (by kernel_rfl) (by kernel_rfl) (fun _ _ _ h => h) (yields_row (by rfl) 25 (.tmp 2) rfl (w.heap.size) rfl 25 (ks s) _ (fun W (h : Fr _ W _ _) => h.get (by simp)) Tryd.underlying25 rfl (info_ks _)) hHeld ?_
      try simp only [Act.put, List.getElem_toArray, List.getElem_cons_succ, List.getElem_cons_zero, List.setIfInBounds_toArray, List.set_cons_zero, List.set_cons_succ]
      refine wpAnyH_take (i := 4) (v := ?_) rfl (by kernel_rfl) (by kernel_rfl) (by kernel_rfl) (fun _ _ _ h => h) (Or.inl ⟨by rfl, ?_⟩) hHeld ?_
      rotate_left
      · (intro W hSw; (try dsimp only at hSw); (try simp only [List.getElem_toArray, List.getElem_cons_succ, List.getElem_cons_zero]); go_simp; try with_reducible rfl)
      try simp only [Act.put, List.getElem_toArray, List.getElem_cons_succ, List.getElem_cons_zero, List.setIfInBounds_toArray, List.set_cons_zero, List.set_cons_succ]
      refine wpAnyH_ready (rs := [1]) (by kernel_rfl) (by simp) (AllReadyH.cons rfl (fun K hK => ?_) AllReadyH.nil)
      have h0 := hHeld
      clear hHeld
      try simp only [List.getElem_toArray, List.getElem_cons_succ, List.getElem_cons_zero]
      have H0 := Lib.hid h0
      clear h0
      go_simp
      go_at_call 10
      refine (mayR HD.out _ (Fr.og H0.out HO.out) HS.out).mono ?_
      rintro e vv ⟨rfl, hb⟩
      have h1 := H0.out.ext hb
      clear hb H0
      go_wp2_with (fail)
      refine hK.out _ _ h1 (fun hHeld => ?_)
      clear hK K h1
      try simp only [Act.put, List.getElem_toArray, List.getElem_cons_succ, List.getElem_cons_zero, List.setIfInBounds_toArray, List.set_cons_zero, List.set_cons_succ]
      refine wpAnyH_take (i := 5) (v := ?_) rfl (by kernel_rfl) (by kernel_rfl) (by kernel_rfl) (fun _ _ _ h => h) (Or.inl ⟨by rfl, ?_⟩) hHeld ?_
      rotate_left
      · (intro W hSw; (try dsimp only at hSw); (try simp only [List.getElem_toArray, List.getElem_cons_succ, List.getElem_cons_zero]); go_simp; try with_reducible rfl)
      try simp only [Act.put, List.getElem_toArray, List.getElem_cons_succ, List.getElem_cons_zero, List.setIfInBounds_toArray, List.set_cons_zero, List.set_cons_succ]
      refine wpAnyH_take (i := 6) (v := ?_) rfl (by kernel_rfl) (by kernel_rfl) (by kernel_rfl) (fun _ _ _ h => h) (Or.inl ⟨by rfl, ?_⟩) hHeld ?_
      rotate_left
      · (intro W hSw; (try dsimp only at hSw); (try simp only [List.getElem_toArray, List.getElem_cons_succ, List.getElem_cons_zero]); go_simp; try with_reducible rfl)
      try simp only [Act.put, List.getElem_toArray, List.getElem_cons_succ, List.getElem_cons_zero, List.setIfInBounds_toArray, List.set_cons_zero, List.set_cons_succ]
      refine wpAnyH_take (i := 7) (v := .agg (ks l)) rfl (by kernel_rfl) (by kernel_rfl) (by kernel_rfl) (fun _ _ _ h => h) (yields_row (by rfl) 25 (.tmp 5) rfl (v1.heap.size) rfl 25 (ks l) _ (fun W (h : Fr _ W _ _) => h.get (by simp)) Tryd.underlying25 rfl (info_ks _)) hHeld ?_
      try simp only [Act.put, List.getElem_toArray, List.getElem_cons_succ, List.getElem_cons_zero, List.setIfInBounds_toArray, List.set_cons_zero, List.set_cons_succ]
      refine wpAnyH_take (i := 8) (v := ?_) rfl (by kernel_rfl) (by kernel_rfl) (by kernel_rfl) (fun _ _ _ h => h) (Or.inl ⟨by rfl, ?_⟩) hHeld ?_
      rotate_left
      · (intro W hSw; (try dsimp only at hSw); (try simp only [List.getElem_toArray, List.getElem_cons_succ, List.getElem_cons_zero]); go_simp; try with_reducible rfl)
      try simp only [Act.put, List.getElem_toArray, List.getElem_cons_succ, List.getElem_cons_zero, List.setIfInBounds_toArray, List.set_cons_zero, List.set_cons_succ]
      refine wpAnyH_take (i := 9) (v := .agg (ks t)) rfl (by kernel_rfl) (by kernel_rfl) (by kernel_rfl) (fun _ _ _ h => h) (Or.inl ⟨by rfl, ?_⟩) hHeld ?_
      · (intro W hSw; clear hSw; rw [lit_byte t HT.out]; (try simp only [List.getElem_toArray, List.getElem_cons_succ, List.getElem_cons_zero]); go_simp; try with_reducible rfl)
      try simp only [Act.put, List.getElem_toArray, List.getElem_cons_succ, List.getElem_cons_zero, List.setIfInBounds_toArray, List.set_cons_zero, List.set_cons_succ]
      refine wpAnyH_take (i := 10) (v := .agg (ks r)) rfl (by kernel_rfl) (by kernel_rfl) (by kernel_rfl) (fun _ _ _ h => h) (yields_row (by rfl) 25 (.tmp 6) rfl (v4.heap.size) rfl 25 (ks r) _ (fun W (h : Fr _ W _ _) => h.get (by simp)) Tryd.underlying25 rfl (info_ks _)) hHeld ?_
      try simp only [Act.put, List.getElem_toArray, List.getElem_cons_succ, List.getElem_cons_zero, List.setIfInBounds_toArray, List.set_cons_zero, List.set_cons_succ]
      refine wpAnyH_take (i := 12) (v := .agg (ks r)) rfl (by kernel_rfl) (by kernel_rfl) (by kernel_rfl) (fun _ _ _ h => h) (yields_row (by rfl) 25 (.tmp 6) rfl (v4.heap.size) rfl 25 (ks r) _ (fun W (h : Fr _ W _ _) => h.get (by simp)) Tryd.underlying25 rfl (info_ks _)) hHeld ?_
      try simp only [Act.put, List.getElem_toArray, List.getElem_cons_succ, List.getElem_cons_zero, List.setIfInBounds_toArray, List.set_cons_zero, List.set_cons_succ]
      refine wpAnyH_ready (rs := [11]) (by kernel_rfl) (by simp) (AllReadyH.cons rfl (fun K hK => ?_) AllReadyH.nil)
      have h0 := hHeld
      clear hHeld
      try simp only [List.getElem_toArray, List.getElem_cons_succ, List.getElem_cons_zero]
      have H0 := Lib.hid h0
      clear h0
      go_simp
      go_at_call 16
      refine (mulR (wh4 HL.out HR.out) _ (Fr.og H0.out HO.out) LL'.out LT.out LR.out).mono ?_
      rintro e vv ⟨rfl, hb⟩
      have h1 := H0.out.ext hb
      clear hb H0
      go_wp2_with (fail)
      refine hK.out _ _ h1 (fun hHeld => ?_)
      clear hK K h1
      try simp only [Act.put, List.getElem_toArray, List.getElem_cons_succ, List.getElem_cons_zero, List.setIfInBounds_toArray, List.set_cons_zero, List.set_cons_succ]
      refine wpAnyH_take (i := 13) (v := ?_) rfl (by kernel_rfl) (by kernel_rfl) (by kernel_rfl) (fun _ _ _ h => h) (Or.inl ⟨by rfl, ?_⟩) hHeld ?_
      rotate_left
      · (intro W hSw; (try dsimp only at hSw); (try simp only [List.getElem_toArray, List.getElem_cons_succ, List.getElem_cons_zero]); go_simp; try with_reducible rfl)
      try simp only [Act.put, List.getElem_toArray, List.getElem_cons_succ, List.getElem_cons_zero, List.setIfInBounds_toArray, List.set_cons_zero, List.set_cons_succ]
      refine wpAnyH_take (i := 14) (v := ?_) rfl (by kernel_rfl) (by kernel_rfl) (by kernel_rfl) (fun _ _ _ h => h) (Or.inl ⟨by rfl, ?_⟩) hHeld ?_
      rotate_left
      · (intro W hSw; (try dsimp only at hSw); (try simp only [List.getElem_toArray, List.getElem_cons_succ, List.getElem_cons_zero]); go_simp; try with_reducible rfl)
      try simp only [Act.put, List.getElem_toArray, List.getElem_cons_succ, List.getElem_cons_zero, List.setIfInBounds_toArray, List.set_cons_zero, List.set_cons_succ]
      refine wpAnyH_take (i := 15) (v := ?_) rfl (by kernel_rfl) (by kernel_rfl) (by kernel_rfl) (fun _ _ _ h => h) (Or.inl ⟨by rfl, ?_⟩) hHeld ?_
      rotate_left
      · (intro W hSw; (try dsimp only at hSw); (try simp only [List.getElem_toArray, List.getElem_cons_succ, List.getElem_cons_zero]); go_simp; try with_reducible rfl)
      try simp only [Act.put, List.getElem_toArray, List.getElem_cons_succ, List.getElem_cons_zero, List.setIfInBounds_toArray, List.set_cons_zero, List.set_cons_succ]
      refine wpAnyH_ready (rs := [16]) (by kernel_rfl) (by simp) (AllReadyH.cons rfl (fun K hK => ?_) AllReadyH.nil)
      have h0 := hHeld
      clear hHeld
      try simp only [List.getElem_toArray, List.getElem_cons_succ, List.getElem_cons_zero]
      have H0 := Lib.hid h0
      clear h0
      go_simp
      go_at_call 14
      refine (known_any _ (Fr.og H0.out HO.out)).mono ?_
      rintro e vv ⟨rfl, hb⟩
      have h1 := H0.out.ext hb
      clear hb H0
      go_wp2_with (fail)
      refine hK.out _ _ h1 (fun hHeld => ?_)
      clear hK K h1
      try simp only [Act.put, List.getElem_toArray, List.getElem_cons_succ, List.getElem_cons_zero, List.setIfInBounds_toArray, List.set_cons_zero, List.set_cons_succ]
      refine wpAnyH_take (i := 17) (v := ?_) rfl (by kernel_rfl) (by kernel_rfl) (by kernel_rfl) (fun _ _ _ h => h) (Or.inl ⟨by rfl, ?_⟩) hHeld ?_
      rotate_left
      · (intro W hSw; (try dsimp only at hSw); (try simp only [List.getElem_toArray, List.getElem_cons_succ, List.getElem_cons_zero]); go_simp; try with_reducible rfl)
      try simp only [Act.put, List.getElem_toArray, List.getElem_cons_succ, List.getElem_cons_zero, List.setIfInBounds_toArray, List.set_cons_zero, List.set_cons_succ]
      refine wpAnyH_take (i := 18) (v := ?_) rfl (by kernel_rfl) (by kernel_rfl) (by kernel_rfl) (fun _ _ _ h => h) (Or.inl ⟨by rfl, ?_⟩) hHeld ?_
      rotate_left
      · (intro W hSw; (try dsimp only at hSw); (try simp only [List.getElem_toArray, List.getElem_cons_succ, List.getElem_cons_zero]); go_simp; try with_reducible rfl)
      try simp only [Act.put, List.getElem_toArray, List.getElem_cons_succ, List.getElem_cons_zero, List.setIfInBounds_toArray, List.set_cons_zero, List.set_cons_succ]
      refine wpAnyH_done (by kernel_rfl) ?_ _
      have HB := Lib.hid hHeld.below
      clear hHeld
      go_wp2_with (fail)
      go_ret
      exact ⟨rfl, HB.out⟩
end Go.Proofs.YtpliddkdahgbpaaDoor
