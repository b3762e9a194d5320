/- ShaConstants' walk: each start and each constant is the document's; out of range they are 0. -/
import Derived.Test.YtagifgadcbhinaaDoorHb
import Derived.Test.YtagifgadcbhinaaDoorHe
namespace Go.Proofs.YtagifgadcbhinaaDoor
set_option linter.unusedVariables false
set_option linter.unusedSimpArgs false
open Go Go.RowKit

/-- The document's start and constants, in a block g of the law's own. -/
structure CG (w W : World) (g bS oS cS bK oK cK : Nat) : Prop where
  below : Below w.heap.size w W
  row : Blk W g 33 #[.slice (some ⟨bS, oS, none⟩) 8 cS, .slice (some ⟨bK, oK, none⟩) 80 cK]
  s : US W W.heap.size (some ⟨bS, oS, none⟩) 8 cS HS
  k : US W W.heap.size (some ⟨bK, oK, none⟩) 80 cK HK
  pm : PM W
section
variable {w W W' : World} {g bS oS cS bK oK cK : Nat}
theorem CG.ext (h : CG w W g bS oS cS bK oK cK) (hb : Below W.heap.size W W') : CG w W' g bS oS cS bK oK cK :=
  ⟨h.below.trans (hb.mono h.below.size), h.row.below hb h.row.lt, (h.s.below hb).more hb.size, (h.k.below hb).more hb.size, h.pm.ext hb⟩
theorem CG.drew (h : CG w W g bS oS cS bK oK cK) : CG w W.drew g bS oS cS bK oK cK := h.ext (Below.refl _ _).drew
theorem CG.c0 (h : CG w W g bS oS cS bK oK cK) : W.cell? ⟨g, 0, none⟩ = some (.slice (some ⟨bS, oS, none⟩) 8 cS) := by rw [h.row.cell]; rfl
theorem CG.c1 (h : CG w W g bS oS cS bK oK cK) : W.cell? ⟨g, 1, none⟩ = some (.slice (some ⟨bK, oK, none⟩) 80 cK) := by rw [h.row.cell]; rfl
theorem us_cell {n c b o : Nat} {l : List Nat} (h : US W W.heap.size (some ⟨b, o, none⟩) n c l) {j : Nat} (hj : j < n) : W.cell? ⟨b, o + j, none⟩ = some (.int .u64 ((l.getD j 0 : Nat) : Int)) := by
  obtain ⟨b', o', e, _, hc⟩ := h.at_ (by omega)
  injection e with e
  injection e with e1 e2
  subst e1; subst e2
  exact hc j _ (by have := h.len; simp [List.getD, List.getElem?_eq_getElem (show j < l.length by omega)])
theorem CG.ck (h : CG w W g bS oS cS bK oK cK) {j : Nat} (hj : j < 80) : W.cell? ⟨bK, oK + j, none⟩ = some (.int .u64 ((HK.getD j 0 : Nat) : Int)) := us_cell h.k hj
theorem CG.cs (h : CG w W g bS oS cS bK oK cK) {j : Nat} (hj : j < 8) : W.cell? ⟨bS, oS + j, none⟩ = some (.int .u64 ((HS.getD j 0 : Nat) : Int)) := us_cell h.s hj
end
/-- What Begin answers, put into a variable. -/
theorem cg_of {w W v1 : World} {AS AK : Option Addr} {cS cK : Nat} (hp : PM w) (hB : Below w.heap.size w v1) (hS : US v1 v1.heap.size AS 8 cS HS) (hK : US v1 v1.heap.size AK 80 cK HK) (hb : Below v1.heap.size v1 W) (hr : Blk W v1.heap.size 33 #[.slice AS 8 cS, .slice AK 80 cK]) :
    ∃ bS oS bK oK, AS = some ⟨bS, oS, none⟩ ∧ AK = some ⟨bK, oK, none⟩ ∧ CG w W v1.heap.size bS oS cS bK oK cK := by
  obtain ⟨bS, oS, e1, _, _⟩ := hS.at_ (by omega)
  obtain ⟨bK, oK, e2, _, _⟩ := hK.at_ (by omega)
  subst e1; subst e2
  exact ⟨bS, oS, bK, oK, rfl, rfl, hB.trans (hb.mono hB.size), hr, (hS.below hb).more hb.size, (hK.below hb).more hb.size, (hp.ext hB).ext hb⟩
theorem begun_zero (w : World) : (zeroValue 33).run Tryd.prog w = .ok (.agg #[.slice none 0 0, .slice none 0 0]) w := by kernel_rfl
attribute [local irreducible] HS HK
set_option maxRecDepth 100000 in
set_option maxHeartbeats 8000000 in
theorem law_constants (i : Int) (w : World) (hp : PM w) : Calls Tryd.prog 4 #[.int .i64 i] w (BPost true w) := by
  have HP := Lib.hid hp
  clear hp
  go_enter Tryd.func4, Tryd.ntmps4
  go_wp2_with (fail)
  refine (begin_any _).mono ?_
  rintro e v1 ⟨vS, vK, AS, cS, AK, cK, rfl, rfl, hS, rfl, hK, hb⟩
  have ka : Blk (v1.alloc (.cells #[.slice none 0 0, .slice none 0 0] 33)) v1.heap.size 33 #[.slice none 0 0, .slice none 0 0] := Blk.new _ _ _
  have kc := ka.setRow_same #[.slice AS 8 cS, .slice AK 80 cK]
  have hbl := below_setRow ((Below.refl v1.heap.size v1).alloc (Nat.le_refl _) (.cells #[.slice none 0 0, .slice none 0 0] 33)) (Nat.le_refl _) #[.slice AS 8 cS, .slice AK 80 cK]
  obtain ⟨bS, oS, bK, oK, rfl, rfl, hcg⟩ := cg_of HP.out hb hS hK hbl kc
  have HC0 := Lib.hid hcg
  have KA := Lib.hid ka
  clear hb hS hK ka kc hbl hcg
  go_wp2_with (first | (refine wpList_store_row rfl 33 (.tmp 3) (.tmp 5) rfl (v1.heap.size) #[.slice (some ⟨bS, oS, none⟩) 8 cS, .slice (some ⟨bK, oK, none⟩) 80 cK] rfl rfl 33 _ KA.out info_begun rfl (one_pair _ _ _ _ _ _) ?_))
  generalize v1.heap.size = g at *
  go_loopw [4] (fun kv wq => ∃ k : Nat, kv = .int .i64 k ∧ k ≤ 80 ∧ CG w wq g bS oS cS bK oK cK) (fun kv _ => 80 - (intOf kv).toNat)
  case atStart => exact ⟨0, rfl, by omega, HC0.out⟩
  case round =>
    obtain ⟨k, rfl, hk, hC⟩ := hrel
    clear HC0 KA
    by_cases hlt : k < 80
    · have hx : HK.getD k 0 = HK.getD k 0 := rfl
      have q0 := hC.drew.c0
      have q1 := hC.drew.c1
      have qk := hC.drew.ck hlt
      have HC := Lib.hid hC.drew
      clear hC hx
      by_cases h8 : k < 8
      · have qs := HC.out.cs h8
        have HX := Lib.hid (show ∀ W : World, CG w W g bS oS cS bK oK cK → W.cell? ⟨bK, oK + k, none⟩ = some (.int .u64 ((HK.getD k 0 : Nat) : Int)) ∧ W.cell? ⟨bS, oS + k, none⟩ = some (.int .u64 ((HS.getD k 0 : Nat) : Int)) from fun W h => ⟨h.ck hlt, h.cs h8⟩)
        have HXC := Lib.hid (fun W hp => constant_in k W hlt hp)
        have HXS := Lib.hid (fun W hp => start_in k W h8 hp)
        generalize HK.getD k 0 = x at *
        generalize HS.getD k 0 = y at *
        have nxx : ((x : Int) != (x : Int)) = false := by simp
        have nyy : ((y : Int) != (y : Int)) = false := by simp
        have h8i : (k : Int) < 8 := by omega
        have dk : decide ((k : Int) < 8) = true := decide_eq_true h8i
        go_wp2_with (fail)
        refine wp_region_held_drew (S := fun W => (W.cell? ⟨g, 0, none⟩ = some (.slice (some ⟨bS, oS, none⟩) 8 cS) ∧ W.cell? ⟨g, 1, none⟩ = some (.slice (some ⟨bK, oK, none⟩) 80 cK)) ∧ W.cell? ⟨bK, oK + k, none⟩ = some (.int .u64 (x : Int)) ∧ W.cell? ⟨bS, oS + k, none⟩ = some (.int .u64 (y : Int))) (by kernel_rfl) ?_ (fun hHeld => ?_)
        · exact ⟨⟨q0, q1⟩, qk, qs⟩
        clear q0 q1 qk qs
        refine wpAnyH_take (i := 0) (v := ?_) rfl (by kernel_rfl) (by kernel_rfl) (by kernel_rfl) (fun _ _ _ h => h) (Or.inl ⟨by rfl, ?_⟩) hHeld ?_
        rotate_left
        · (intro W hSw; (try dsimp only at hSw); (try simp only [List.getElem_toArray, List.getElem_cons_succ, List.getElem_cons_zero]); go_simp; try with_reducible rfl)
        try simp only [Act.put, List.getElem_toArray, List.getElem_cons_succ, List.getElem_cons_zero, List.setIfInBounds_toArray, List.set_cons_zero, List.set_cons_succ]
        refine wpAnyH_take (i := 2) (v := ?_) rfl (by kernel_rfl) (by kernel_rfl) (by kernel_rfl) (fun _ _ _ h => h) (Or.inl ⟨by rfl, ?_⟩) hHeld ?_
        rotate_left
        · (intro W hSw; (try dsimp only at hSw); (try simp only [List.getElem_toArray, List.getElem_cons_succ, List.getElem_cons_zero]); go_simp; try with_reducible rfl)
        try simp only [Act.put, List.getElem_toArray, List.getElem_cons_succ, List.getElem_cons_zero, List.setIfInBounds_toArray, List.set_cons_zero, List.set_cons_succ]
        refine wpAnyH_take (i := 3) (v := ?_) rfl (by kernel_rfl) (by kernel_rfl) (by kernel_rfl) (fun _ _ _ h => h) (Or.inl ⟨by rfl, ?_⟩) hHeld ?_
        rotate_left
        · (intro W hSw; (try dsimp only at hSw); (try simp only [List.getElem_toArray, List.getElem_cons_succ, List.getElem_cons_zero]); go_simp; try with_reducible rfl)
        try simp only [Act.put, List.getElem_toArray, List.getElem_cons_succ, List.getElem_cons_zero, List.setIfInBounds_toArray, List.set_cons_zero, List.set_cons_succ]
        refine wpAnyH_take (i := 4) (v := ?_) rfl (by kernel_rfl) (by kernel_rfl) (by kernel_rfl) (fun _ _ _ h => h) (Or.inl ⟨by rfl, ?_⟩) hHeld ?_
        rotate_left
        · (intro W hSw; (try dsimp only at hSw); (try simp only [List.getElem_toArray, List.getElem_cons_succ, List.getElem_cons_zero]); go_simp; try with_reducible rfl)
        try simp only [Act.put, List.getElem_toArray, List.getElem_cons_succ, List.getElem_cons_zero, List.setIfInBounds_toArray, List.set_cons_zero, List.set_cons_succ]
        refine wpAnyH_take (i := 5) (v := ?_) rfl (by kernel_rfl) (by kernel_rfl) (by kernel_rfl) (fun _ _ _ h => h) (Or.inl ⟨by rfl, ?_⟩) hHeld ?_
        rotate_left
        · (intro W hSw; (try dsimp only at hSw); (try simp only [List.getElem_toArray, List.getElem_cons_succ, List.getElem_cons_zero]); go_simp; try with_reducible rfl)
        try simp only [Act.put, List.getElem_toArray, List.getElem_cons_succ, List.getElem_cons_zero, List.setIfInBounds_toArray, List.set_cons_zero, List.set_cons_succ]
        refine wpAnyH_take (i := 6) (v := ?_) rfl (by kernel_rfl) (by kernel_rfl) (by kernel_rfl) (fun _ _ _ h => h) (Or.inl ⟨by rfl, ?_⟩) hHeld ?_
        rotate_left
        · (intro W hSw; (try dsimp only at hSw); (try simp only [List.getElem_toArray, List.getElem_cons_succ, List.getElem_cons_zero]); go_simp; try with_reducible rfl)
        try simp only [Act.put, List.getElem_toArray, List.getElem_cons_succ, List.getElem_cons_zero, List.setIfInBounds_toArray, List.set_cons_zero, List.set_cons_succ]
        refine wpAnyH_ready (rs := [1]) (by kernel_rfl) (by simp) (AllReadyH.cons rfl (fun K hK => ?_) AllReadyH.nil)
        have h0 := hHeld
        clear hHeld
        try simp only [List.getElem_toArray, List.getElem_cons_succ, List.getElem_cons_zero]
        clear h0
        go_simp
        go_at_call 9
        refine (HXC.out _ HC.out.pm).mono ?_
        rintro e vv ⟨rfl, hb⟩
        have hcg := HC.out.ext hb
        have h1 := (⟨⟨hcg.c0, hcg.c1⟩, HX.out _ hcg⟩ : (vv.cell? ⟨g, 0, none⟩ = some (.slice (some ⟨bS, oS, none⟩) 8 cS) ∧ vv.cell? ⟨g, 1, none⟩ = some (.slice (some ⟨bK, oK, none⟩) 80 cK)) ∧ vv.cell? ⟨bK, oK + k, none⟩ = some (.int .u64 (x : Int)) ∧ vv.cell? ⟨bS, oS + k, none⟩ = some (.int .u64 (y : Int)))
        clear HC
        have HC := Lib.hid hcg
        have H1 := Lib.hid h1
        clear hb hcg h1
        go_wp2_with (fail)
        refine hK.out _ _ H1.out (fun hHeld => ?_)
        clear hK K H1
        try simp only [Act.put, List.getElem_toArray, List.getElem_cons_succ, List.getElem_cons_zero, List.setIfInBounds_toArray, List.set_cons_zero, List.set_cons_succ]
        refine wpAnyH_take (i := 7) (v := ?_) rfl (by kernel_rfl) (by kernel_rfl) (by kernel_rfl) (fun _ _ _ h => h) (Or.inl ⟨by rfl, ?_⟩) hHeld ?_
        rotate_left
        · (intro W hSw; (try dsimp only at hSw); (try simp only [List.getElem_toArray, List.getElem_cons_succ, List.getElem_cons_zero]); go_simp; try with_reducible rfl)
        try simp only [Act.put, List.getElem_toArray, List.getElem_cons_succ, List.getElem_cons_zero, List.setIfInBounds_toArray, List.set_cons_zero, List.set_cons_succ]
        refine wpAnyH_take (i := 8) (v := ?_) rfl (by kernel_rfl) (by kernel_rfl) (by kernel_rfl) (fun _ _ _ h => h) (Or.inl ⟨by rfl, ?_⟩) hHeld ?_
        rotate_left
        · (intro W hSw; (try dsimp only at hSw); (try simp only [List.getElem_toArray, List.getElem_cons_succ, List.getElem_cons_zero]); go_simp; try with_reducible rfl)
        try simp only [Act.put, List.getElem_toArray, List.getElem_cons_succ, List.getElem_cons_zero, List.setIfInBounds_toArray, List.set_cons_zero, List.set_cons_succ]
        refine wpAnyH_take (i := 9) (v := ?_) rfl (by kernel_rfl) (by kernel_rfl) (by kernel_rfl) (fun _ _ _ h => h) (Or.inl ⟨by rfl, ?_⟩) hHeld ?_
        rotate_left
        · (intro W hSw; (try dsimp only at hSw); (try simp only [List.getElem_toArray, List.getElem_cons_succ, List.getElem_cons_zero]); go_simp; try with_reducible rfl)
        try simp only [Act.put, List.getElem_toArray, List.getElem_cons_succ, List.getElem_cons_zero, List.setIfInBounds_toArray, List.set_cons_zero, List.set_cons_succ]
        refine wpAnyH_take (i := 10) (v := ?_) rfl (by kernel_rfl) (by kernel_rfl) (by kernel_rfl) (fun _ _ _ h => h) (Or.inl ⟨by rfl, ?_⟩) hHeld ?_
        rotate_left
        · (intro W hSw; (try dsimp only at hSw); (try simp only [List.getElem_toArray, List.getElem_cons_succ, List.getElem_cons_zero]); go_simp; try with_reducible rfl)
        try simp only [Act.put, List.getElem_toArray, List.getElem_cons_succ, List.getElem_cons_zero, List.setIfInBounds_toArray, List.set_cons_zero, List.set_cons_succ]
        refine wpAnyH_take (i := 11) (v := ?_) rfl (by kernel_rfl) (by kernel_rfl) (by kernel_rfl) (fun _ _ _ h => h) (Or.inl ⟨by rfl, ?_⟩) hHeld ?_
        rotate_left
        · (intro W hSw; (try dsimp only at hSw); (try simp only [List.getElem_toArray, List.getElem_cons_succ, List.getElem_cons_zero]); go_simp; try with_reducible rfl)
        try simp only [Act.put, List.getElem_toArray, List.getElem_cons_succ, List.getElem_cons_zero, List.setIfInBounds_toArray, List.set_cons_zero, List.set_cons_succ]
        refine wpAnyH_take (i := 12) (v := ?_) rfl (by kernel_rfl) (by kernel_rfl) (by kernel_rfl) (fun _ _ _ h => h) (Or.inl ⟨by rfl, ?_⟩) hHeld ?_
        rotate_left
        · (intro W hSw; (try dsimp only at hSw); (try simp only [List.getElem_toArray, List.getElem_cons_succ, List.getElem_cons_zero]); go_simp; try with_reducible rfl)
        try simp only [Act.put, List.getElem_toArray, List.getElem_cons_succ, List.getElem_cons_zero, List.setIfInBounds_toArray, List.set_cons_zero, List.set_cons_succ]
        refine wpAnyH_take (i := 14) (v := ?_) rfl (by kernel_rfl) (by kernel_rfl) (by kernel_rfl) (fun _ _ _ h => h) (Or.inl ⟨by rfl, ?_⟩) hHeld ?_
        rotate_left
        · (intro W hSw; (try dsimp only at hSw); (try simp only [List.getElem_toArray, List.getElem_cons_succ, List.getElem_cons_zero]); go_simp; try with_reducible rfl)
        try simp only [Act.put, List.getElem_toArray, List.getElem_cons_succ, List.getElem_cons_zero, List.setIfInBounds_toArray, List.set_cons_zero, List.set_cons_succ]
        refine wpAnyH_take (i := 15) (v := ?_) rfl (by kernel_rfl) (by kernel_rfl) (by kernel_rfl) (fun _ _ _ h => h) (Or.inl ⟨by rfl, ?_⟩) hHeld ?_
        rotate_left
        · (intro W hSw; (try dsimp only at hSw); (try simp only [List.getElem_toArray, List.getElem_cons_succ, List.getElem_cons_zero]); go_simp; try with_reducible rfl)
        try simp only [Act.put, List.getElem_toArray, List.getElem_cons_succ, List.getElem_cons_zero, List.setIfInBounds_toArray, List.set_cons_zero, List.set_cons_succ]
        refine wpAnyH_take (i := 16) (v := ?_) rfl (by kernel_rfl) (by kernel_rfl) (by kernel_rfl) (fun _ _ _ h => h) (Or.inl ⟨by rfl, ?_⟩) hHeld ?_
        rotate_left
        · (intro W hSw; (try dsimp only at hSw); (try simp only [List.getElem_toArray, List.getElem_cons_succ, List.getElem_cons_zero]); go_simp; try with_reducible rfl)
        try simp only [Act.put, List.getElem_toArray, List.getElem_cons_succ, List.getElem_cons_zero, List.setIfInBounds_toArray, List.set_cons_zero, List.set_cons_succ]
        refine wpAnyH_take (i := 17) (v := ?_) rfl (by kernel_rfl) (by kernel_rfl) (by kernel_rfl) (fun _ _ _ h => h) (Or.inl ⟨by rfl, ?_⟩) hHeld ?_
        rotate_left
        · (intro W hSw; (try dsimp only at hSw); (try simp only [List.getElem_toArray, List.getElem_cons_succ, List.getElem_cons_zero]); go_simp; try with_reducible rfl)
        try simp only [Act.put, List.getElem_toArray, List.getElem_cons_succ, List.getElem_cons_zero, List.setIfInBounds_toArray, List.set_cons_zero, List.set_cons_succ]
        refine wpAnyH_take (i := 18) (v := ?_) rfl (by kernel_rfl) (by kernel_rfl) (by kernel_rfl) (fun _ _ _ h => h) (Or.inl ⟨by rfl, ?_⟩) hHeld ?_
        rotate_left
        · (intro W hSw; (try dsimp only at hSw); (try simp only [List.getElem_toArray, List.getElem_cons_succ, List.getElem_cons_zero]); go_simp; try with_reducible rfl)
        try simp only [Act.put, List.getElem_toArray, List.getElem_cons_succ, List.getElem_cons_zero, List.setIfInBounds_toArray, List.set_cons_zero, List.set_cons_succ]
        refine wpAnyH_ready (rs := [13]) (by kernel_rfl) (by simp) (AllReadyH.cons rfl (fun K hK => ?_) AllReadyH.nil)
        have h0 := hHeld
        clear hHeld
        try simp only [List.getElem_toArray, List.getElem_cons_succ, List.getElem_cons_zero]
        clear h0
        go_simp
        go_at_call 10
        refine (HXS.out _ HC.out.pm).mono ?_
        rintro e vv ⟨rfl, hb⟩
        have hcg := HC.out.ext hb
        have h1 := (⟨⟨hcg.c0, hcg.c1⟩, HX.out _ hcg⟩ : (vv.cell? ⟨g, 0, none⟩ = some (.slice (some ⟨bS, oS, none⟩) 8 cS) ∧ vv.cell? ⟨g, 1, none⟩ = some (.slice (some ⟨bK, oK, none⟩) 80 cK)) ∧ vv.cell? ⟨bK, oK + k, none⟩ = some (.int .u64 (x : Int)) ∧ vv.cell? ⟨bS, oS + k, none⟩ = some (.int .u64 (y : Int)))
        clear HC
        have HC := Lib.hid hcg
        have H1 := Lib.hid h1
        clear hb hcg h1
        go_wp2_with (fail)
        refine hK.out _ _ H1.out (fun hHeld => ?_)
        clear hK K H1
        try simp only [Act.put, List.getElem_toArray, List.getElem_cons_succ, List.getElem_cons_zero, List.setIfInBounds_toArray, List.set_cons_zero, List.set_cons_succ]
        refine wpAnyH_take (i := 19) (v := ?_) rfl (by kernel_rfl) (by kernel_rfl) (by kernel_rfl) (fun _ _ _ h => h) (Or.inl ⟨by rfl, ?_⟩) hHeld ?_
        rotate_left
        · (intro W hSw; (try dsimp only at hSw); (try simp only [List.getElem_toArray, List.getElem_cons_succ, List.getElem_cons_zero]); go_simp; try with_reducible rfl)
        try simp only [Act.put, List.getElem_toArray, List.getElem_cons_succ, List.getElem_cons_zero, List.setIfInBounds_toArray, List.set_cons_zero, List.set_cons_succ]
        refine wpAnyH_take (i := 20) (v := ?_) rfl (by kernel_rfl) (by kernel_rfl) (by kernel_rfl) (fun _ _ _ h => h) (Or.inl ⟨by rfl, ?_⟩) hHeld ?_
        rotate_left
        · (intro W hSw; (try dsimp only at hSw); (try simp only [List.getElem_toArray, List.getElem_cons_succ, List.getElem_cons_zero]); go_simp; try with_reducible rfl)
        try simp only [Act.put, List.getElem_toArray, List.getElem_cons_succ, List.getElem_cons_zero, List.setIfInBounds_toArray, List.set_cons_zero, List.set_cons_succ]
        refine wpAnyH_take (i := 21) (v := ?_) rfl (by kernel_rfl) (by kernel_rfl) (by kernel_rfl) (fun _ _ _ h => h) (Or.inl ⟨by rfl, ?_⟩) hHeld ?_
        rotate_left
        · (intro W hSw; (try dsimp only at hSw); (try simp only [List.getElem_toArray, List.getElem_cons_succ, List.getElem_cons_zero]); go_simp; try with_reducible rfl)
        try simp only [Act.put, List.getElem_toArray, List.getElem_cons_succ, List.getElem_cons_zero, List.setIfInBounds_toArray, List.set_cons_zero, List.set_cons_succ]
        refine wpAnyH_done (by kernel_rfl) ?_ _
        go_wp2_with (fail)
        go_roundw
        case rel => exact ⟨k + 1, by go_num, by omega, HC.out⟩
        case measure => simp [intOf] <;> omega
      · have HX := Lib.hid (show ∀ W : World, CG w W g bS oS cS bK oK cK → W.cell? ⟨bK, oK + k, none⟩ = some (.int .u64 ((HK.getD k 0 : Nat) : Int)) from fun W h => h.ck hlt)
        have HXC := Lib.hid (fun W hp => constant_in k W hlt hp)
        generalize HK.getD k 0 = x at *
        have nxx : ((x : Int) != (x : Int)) = false := by simp
        have dk : decide ((k : Int) < 8) = false := decide_eq_false (by omega)
        go_wp2_with (fail)
        refine wp_region_held_drew (S := fun W => (W.cell? ⟨g, 0, none⟩ = some (.slice (some ⟨bS, oS, none⟩) 8 cS) ∧ W.cell? ⟨g, 1, none⟩ = some (.slice (some ⟨bK, oK, none⟩) 80 cK)) ∧ W.cell? ⟨bK, oK + k, none⟩ = some (.int .u64 (x : Int))) (by kernel_rfl) ?_ (fun hHeld => ?_)
        · exact ⟨⟨q0, q1⟩, qk⟩
        clear q0 q1 qk
        refine wpAnyH_take (i := 0) (v := ?_) rfl (by kernel_rfl) (by kernel_rfl) (by kernel_rfl) (fun _ _ _ h => h) (Or.inl ⟨by rfl, ?_⟩) hHeld ?_
        rotate_left
        · (intro W hSw; (try dsimp only at hSw); (try simp only [List.getElem_toArray, List.getElem_cons_succ, List.getElem_cons_zero]); go_simp; try with_reducible rfl)
        try simp only [Act.put, List.getElem_toArray, List.getElem_cons_succ, List.getElem_cons_zero, List.setIfInBounds_toArray, List.set_cons_zero, List.set_cons_succ]
        refine wpAnyH_take (i := 2) (v := ?_) rfl (by kernel_rfl) (by kernel_rfl) (by kernel_rfl) (fun _ _ _ h => h) (Or.inl ⟨by rfl, ?_⟩) hHeld ?_
        rotate_left
        · (intro W hSw; (try dsimp only at hSw); (try simp only [List.getElem_toArray, List.getElem_cons_succ, List.getElem_cons_zero]); go_simp; try with_reducible rfl)
        try simp only [Act.put, List.getElem_toArray, List.getElem_cons_succ, List.getElem_cons_zero, List.setIfInBounds_toArray, List.set_cons_zero, List.set_cons_succ]
        refine wpAnyH_take (i := 3) (v := ?_) rfl (by kernel_rfl) (by kernel_rfl) (by kernel_rfl) (fun _ _ _ h => h) (Or.inl ⟨by rfl, ?_⟩) hHeld ?_
        rotate_left
        · (intro W hSw; (try dsimp only at hSw); (try simp only [List.getElem_toArray, List.getElem_cons_succ, List.getElem_cons_zero]); go_simp; try with_reducible rfl)
        try simp only [Act.put, List.getElem_toArray, List.getElem_cons_succ, List.getElem_cons_zero, List.setIfInBounds_toArray, List.set_cons_zero, List.set_cons_succ]
        refine wpAnyH_take (i := 4) (v := ?_) rfl (by kernel_rfl) (by kernel_rfl) (by kernel_rfl) (fun _ _ _ h => h) (Or.inl ⟨by rfl, ?_⟩) hHeld ?_
        rotate_left
        · (intro W hSw; (try dsimp only at hSw); (try simp only [List.getElem_toArray, List.getElem_cons_succ, List.getElem_cons_zero]); go_simp; try with_reducible rfl)
        try simp only [Act.put, List.getElem_toArray, List.getElem_cons_succ, List.getElem_cons_zero, List.setIfInBounds_toArray, List.set_cons_zero, List.set_cons_succ]
        refine wpAnyH_take (i := 5) (v := ?_) rfl (by kernel_rfl) (by kernel_rfl) (by kernel_rfl) (fun _ _ _ h => h) (Or.inl ⟨by rfl, ?_⟩) hHeld ?_
        rotate_left
        · (intro W hSw; (try dsimp only at hSw); (try simp only [List.getElem_toArray, List.getElem_cons_succ, List.getElem_cons_zero]); go_simp; try with_reducible rfl)
        try simp only [Act.put, List.getElem_toArray, List.getElem_cons_succ, List.getElem_cons_zero, List.setIfInBounds_toArray, List.set_cons_zero, List.set_cons_succ]
        refine wpAnyH_take (i := 6) (v := ?_) rfl (by kernel_rfl) (by kernel_rfl) (by kernel_rfl) (fun _ _ _ h => h) (Or.inl ⟨by rfl, ?_⟩) hHeld ?_
        rotate_left
        · (intro W hSw; (try dsimp only at hSw); (try simp only [List.getElem_toArray, List.getElem_cons_succ, List.getElem_cons_zero]); go_simp; try with_reducible rfl)
        try simp only [Act.put, List.getElem_toArray, List.getElem_cons_succ, List.getElem_cons_zero, List.setIfInBounds_toArray, List.set_cons_zero, List.set_cons_succ]
        refine wpAnyH_ready (rs := [1]) (by kernel_rfl) (by simp) (AllReadyH.cons rfl (fun K hK => ?_) AllReadyH.nil)
        have h0 := hHeld
        clear hHeld
        try simp only [List.getElem_toArray, List.getElem_cons_succ, List.getElem_cons_zero]
        clear h0
        go_simp
        go_at_call 9
        refine (HXC.out _ HC.out.pm).mono ?_
        rintro e vv ⟨rfl, hb⟩
        have hcg := HC.out.ext hb
        have h1 := (⟨⟨hcg.c0, hcg.c1⟩, HX.out _ hcg⟩ : (vv.cell? ⟨g, 0, none⟩ = some (.slice (some ⟨bS, oS, none⟩) 8 cS) ∧ vv.cell? ⟨g, 1, none⟩ = some (.slice (some ⟨bK, oK, none⟩) 80 cK)) ∧ vv.cell? ⟨bK, oK + k, none⟩ = some (.int .u64 (x : Int)))
        clear HC
        have HC := Lib.hid hcg
        have H1 := Lib.hid h1
        clear hb hcg h1
        go_wp2_with (fail)
        refine hK.out _ _ H1.out (fun hHeld => ?_)
        clear hK K H1
        try simp only [Act.put, List.getElem_toArray, List.getElem_cons_succ, List.getElem_cons_zero, List.setIfInBounds_toArray, List.set_cons_zero, List.set_cons_succ]
        refine wpAnyH_take (i := 7) (v := ?_) rfl (by kernel_rfl) (by kernel_rfl) (by kernel_rfl) (fun _ _ _ h => h) (Or.inl ⟨by rfl, ?_⟩) hHeld ?_
        rotate_left
        · (intro W hSw; (try dsimp only at hSw); (try simp only [List.getElem_toArray, List.getElem_cons_succ, List.getElem_cons_zero]); go_simp; try with_reducible rfl)
        try simp only [Act.put, List.getElem_toArray, List.getElem_cons_succ, List.getElem_cons_zero, List.setIfInBounds_toArray, List.set_cons_zero, List.set_cons_succ]
        refine wpAnyH_take (i := 8) (v := ?_) rfl (by kernel_rfl) (by kernel_rfl) (by kernel_rfl) (fun _ _ _ h => h) (Or.inl ⟨by rfl, ?_⟩) hHeld ?_
        rotate_left
        · (intro W hSw; (try dsimp only at hSw); (try simp only [List.getElem_toArray, List.getElem_cons_succ, List.getElem_cons_zero]); go_simp; try with_reducible rfl)
        try simp only [Act.put, List.getElem_toArray, List.getElem_cons_succ, List.getElem_cons_zero, List.setIfInBounds_toArray, List.set_cons_zero, List.set_cons_succ]
        refine wpAnyH_take (i := 9) (v := ?_) rfl (by kernel_rfl) (by kernel_rfl) (by kernel_rfl) (fun _ _ _ h => h) (Or.inl ⟨by rfl, ?_⟩) hHeld ?_
        rotate_left
        · (intro W hSw; (try dsimp only at hSw); (try simp only [List.getElem_toArray, List.getElem_cons_succ, List.getElem_cons_zero]); go_simp; try with_reducible rfl)
        try simp only [Act.put, List.getElem_toArray, List.getElem_cons_succ, List.getElem_cons_zero, List.setIfInBounds_toArray, List.set_cons_zero, List.set_cons_succ]
        refine wpAnyH_take (i := 10) (v := ?_) rfl (by kernel_rfl) (by kernel_rfl) (by kernel_rfl) (fun _ _ _ h => h) (Or.inl ⟨by rfl, ?_⟩) hHeld ?_
        rotate_left
        · (intro W hSw; (try dsimp only at hSw); (try simp only [List.getElem_toArray, List.getElem_cons_succ, List.getElem_cons_zero]); go_simp; try with_reducible rfl)
        try simp only [Act.put, List.getElem_toArray, List.getElem_cons_succ, List.getElem_cons_zero, List.setIfInBounds_toArray, List.set_cons_zero, List.set_cons_succ]
        refine wpAnyH_take (i := 11) (v := ?_) rfl (by kernel_rfl) (by kernel_rfl) (by kernel_rfl) (fun _ _ _ h => h) (Or.inl ⟨by rfl, ?_⟩) hHeld ?_
        rotate_left
        · (intro W hSw; (try dsimp only at hSw); (try simp only [List.getElem_toArray, List.getElem_cons_succ, List.getElem_cons_zero]); go_simp; try with_reducible rfl)
        try simp only [Act.put, List.getElem_toArray, List.getElem_cons_succ, List.getElem_cons_zero, List.setIfInBounds_toArray, List.set_cons_zero, List.set_cons_succ]
        refine wpAnyH_take (i := 12) (v := undef) rfl (by kernel_rfl) (by kernel_rfl) (by kernel_rfl) (fun _ _ _ h => h) (Or.inr ⟨by rfl, rfl⟩) hHeld ?_
        try simp only [Act.put, List.getElem_toArray, List.getElem_cons_succ, List.getElem_cons_zero, List.setIfInBounds_toArray, List.set_cons_zero, List.set_cons_succ]
        refine wpAnyH_take (i := 13) (v := undef) rfl (by kernel_rfl) (by kernel_rfl) (by kernel_rfl) (fun _ _ _ h => h) (Or.inr ⟨by rfl, rfl⟩) hHeld ?_
        try simp only [Act.put, List.getElem_toArray, List.getElem_cons_succ, List.getElem_cons_zero, List.setIfInBounds_toArray, List.set_cons_zero, List.set_cons_succ]
        refine wpAnyH_take (i := 14) (v := undef) rfl (by kernel_rfl) (by kernel_rfl) (by kernel_rfl) (fun _ _ _ h => h) (Or.inr ⟨by rfl, rfl⟩) hHeld ?_
        try simp only [Act.put, List.getElem_toArray, List.getElem_cons_succ, List.getElem_cons_zero, List.setIfInBounds_toArray, List.set_cons_zero, List.set_cons_succ]
        refine wpAnyH_take (i := 15) (v := undef) rfl (by kernel_rfl) (by kernel_rfl) (by kernel_rfl) (fun _ _ _ h => h) (Or.inr ⟨by rfl, rfl⟩) hHeld ?_
        try simp only [Act.put, List.getElem_toArray, List.getElem_cons_succ, List.getElem_cons_zero, List.setIfInBounds_toArray, List.set_cons_zero, List.set_cons_succ]
        refine wpAnyH_take (i := 16) (v := undef) rfl (by kernel_rfl) (by kernel_rfl) (by kernel_rfl) (fun _ _ _ h => h) (Or.inr ⟨by rfl, rfl⟩) hHeld ?_
        try simp only [Act.put, List.getElem_toArray, List.getElem_cons_succ, List.getElem_cons_zero, List.setIfInBounds_toArray, List.set_cons_zero, List.set_cons_succ]
        refine wpAnyH_take (i := 17) (v := undef) rfl (by kernel_rfl) (by kernel_rfl) (by kernel_rfl) (fun _ _ _ h => h) (Or.inr ⟨by rfl, rfl⟩) hHeld ?_
        try simp only [Act.put, List.getElem_toArray, List.getElem_cons_succ, List.getElem_cons_zero, List.setIfInBounds_toArray, List.set_cons_zero, List.set_cons_succ]
        refine wpAnyH_take (i := 18) (v := undef) rfl (by kernel_rfl) (by kernel_rfl) (by kernel_rfl) (fun _ _ _ h => h) (Or.inr ⟨by rfl, rfl⟩) hHeld ?_
        try simp only [Act.put, List.getElem_toArray, List.getElem_cons_succ, List.getElem_cons_zero, List.setIfInBounds_toArray, List.set_cons_zero, List.set_cons_succ]
        refine wpAnyH_take (i := 19) (v := undef) rfl (by kernel_rfl) (by kernel_rfl) (by kernel_rfl) (fun _ _ _ h => h) (Or.inr ⟨by rfl, rfl⟩) hHeld ?_
        try simp only [Act.put, List.getElem_toArray, List.getElem_cons_succ, List.getElem_cons_zero, List.setIfInBounds_toArray, List.set_cons_zero, List.set_cons_succ]
        refine wpAnyH_take (i := 20) (v := ?_) rfl (by kernel_rfl) (by kernel_rfl) (by kernel_rfl) (fun _ _ _ h => h) (Or.inl ⟨by rfl, ?_⟩) hHeld ?_
        rotate_left
        · (intro W hSw; (try dsimp only at hSw); (try simp only [List.getElem_toArray, List.getElem_cons_succ, List.getElem_cons_zero]); go_simp; try with_reducible rfl)
        try simp only [Act.put, List.getElem_toArray, List.getElem_cons_succ, List.getElem_cons_zero, List.setIfInBounds_toArray, List.set_cons_zero, List.set_cons_succ]
        refine wpAnyH_take (i := 21) (v := ?_) rfl (by kernel_rfl) (by kernel_rfl) (by kernel_rfl) (fun _ _ _ h => h) (Or.inl ⟨by rfl, ?_⟩) hHeld ?_
        rotate_left
        · (intro W hSw; (try dsimp only at hSw); (try simp only [List.getElem_toArray, List.getElem_cons_succ, List.getElem_cons_zero]); go_simp; try with_reducible rfl)
        try simp only [Act.put, List.getElem_toArray, List.getElem_cons_succ, List.getElem_cons_zero, List.setIfInBounds_toArray, List.set_cons_zero, List.set_cons_succ]
        refine wpAnyH_done (by kernel_rfl) ?_ _
        go_wp2_with (fail)
        go_roundw
        case rel => exact ⟨k + 1, by go_num, by omega, HC.out⟩
        case measure => simp [intOf] <;> omega
    · obtain rfl : k = 80 := by omega
      have HC := Lib.hid hC
      clear hC
      rcases Int.lt_or_le i 0 with h1 | h1
      · have HO1 := Lib.hid (fun W => constant_out i W (Or.inl h1))
        have HO2 := Lib.hid (fun W => start_out i W (Or.inl h1))
        have h2 : ¬ (0 ≤ i) := by omega
        go_wp2_with (fail)
        refine (HO1.out _).mono ?_
        rintro e w' ⟨rfl, rfl⟩
        go_wp2_with (fail)
        refine (HO2.out _).mono ?_
        rintro e w' ⟨rfl, rfl⟩
        go_wp2_with (fail)
        refine (lknown_any _ HC.out.pm).mono ?_
        rintro e w' ⟨rfl, hb⟩
        have HB := Lib.hid (HC.out.ext hb).below
        clear hb
        go_wp2_with (fail)
        go_ret
        exact ⟨rfl, HB.out⟩
      · rcases Int.lt_or_le i 8 with h2 | h2
        · have h3 : i < 80 := by omega
          go_wp2_with (fail)
          refine (lknown_any _ HC.out.pm).mono ?_
          rintro e w' ⟨rfl, hb⟩
          have HB := Lib.hid (HC.out.ext hb).below
          clear hb
          go_wp2_with (fail)
          go_ret
          exact ⟨rfl, HB.out⟩
        · rcases Int.lt_or_le i 80 with h3 | h3
          · have HO2 := Lib.hid (fun W => start_out i W (Or.inr h2))
            have h4 : ¬ (i < 8) := by omega
            go_wp2_with (fail)
            refine (HO2.out _).mono ?_
            rintro e w' ⟨rfl, rfl⟩
            go_wp2_with (fail)
            refine (lknown_any _ HC.out.pm).mono ?_
            rintro e w' ⟨rfl, hb⟩
            have HB := Lib.hid (HC.out.ext hb).below
            clear hb
            go_wp2_with (fail)
            go_ret
            exact ⟨rfl, HB.out⟩
          · have HO1 := Lib.hid (fun W => constant_out i W (Or.inr h3))
            have HO2 := Lib.hid (fun W => start_out i W (Or.inr h2))
            have h4 : ¬ (i < 8) := by omega
            have h5 : ¬ (i < 80) := by omega
            go_wp2_with (fail)
            refine (HO1.out _).mono ?_
            rintro e w' ⟨rfl, rfl⟩
            go_wp2_with (fail)
            refine (HO2.out _).mono ?_
            rintro e w' ⟨rfl, rfl⟩
            go_wp2_with (fail)
            refine (lknown_any _ HC.out.pm).mono ?_
            rintro e w' ⟨rfl, hb⟩
            have HB := Lib.hid (HC.out.ext hb).below
            clear hb
            go_wp2_with (fail)
            go_ret
            exact ⟨rfl, HB.out⟩
end Go.Proofs.YtagifgadcbhinaaDoor
