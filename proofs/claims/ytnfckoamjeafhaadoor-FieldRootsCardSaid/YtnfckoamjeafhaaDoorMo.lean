/- The document's Mod. -/
import Derived.Test.YtnfckoamjeafhaaDoorMp
import Derived.Test.YtnfckoamjeafhaaDoorRn
import Derived.Deep.DeepCutAuto
import Derived.Deep.CutBlock
namespace Go.Proofs.YtnfckoamjeafhaaDoor
set_option linter.unusedVariables false
set_option linter.unusedSimpArgs false
open Go Go.RowKit

/-- Columns that Mod takes. -/
def Cols (n : Nat) (l : List Nat) : Prop := 16 ≤ n ∧ n ≤ 32 ∧ (n = 16 ∨ ∀ j, l.getD j 0 < 65536) ∧ ∀ j, l.getD j 0 ≤ 1048576
theorem cols_low {n : Nat} {l : List Nat} (h : Cols n l) (hl : l.length = n) : ∀ j, (lowl l (n - 16)).getD j 0 ≤ 40894464 := by
  intro j
  by_cases hj : j < 16
  · have h1 := h.2.2.2 j
    have h2 := h.2.2.2 (16 + j)
    simp only [lowl, List.getD, List.getElem?_map, List.getElem?_range hj, Option.map_some, Option.getD_some] at h1 h2 ⊢
    split <;> omega
  · simp [lowl, List.getD, hj]
theorem low_digits {n m : Nat} {l : List Nat} (h : Cols n l) (hl : l.length = n) (hm : 16 ≤ m) (hm2 : m = 16 ∨ 65536 ^ (m - 1) ≤ dval (lowl l (n - 16))) : m ≤ 17 := by
  rcases hm2 with h2 | h2
  · omega
  · have hb := dval_bound (lowl l (n - 16)) 40894464 (cols_low h hl)
    rw [lowl_len] at hb
    have h3 : 65535 * 65536 ^ (m - 1) ≤ 40894464 * 65536 ^ 16 := by
      have := Nat.mul_le_mul_left 65535 h2
      omega
    apply Nat.le_of_not_lt
    intro hlt
    have h4 : 65536 ^ 17 ≤ 65536 ^ (m - 1) := Nat.pow_le_pow_right (by omega) (by omega)
    have h5 : (65536 : Nat) ^ 17 = 65536 * 65536 ^ 16 := by rw [Nat.pow_succ, Nat.mul_comm]
    have hp : 0 < (65536 : Nat) ^ 16 := Nat.pow_pos (by omega)
    generalize (65536 : Nat) ^ 16 = P at *
    omega
/-- Folded and carried, a number and its digits come down. -/
theorem fold_less {n m : Nat} {l : List Nat} (h : Cols n l) (hl : l.length = n) (hn : 16 < n) (hm : 16 ≤ m) (hm2 : m = 16 ∨ 65536 ^ (m - 1) ≤ dval (lowl l (n - 16))) : 64 * dval (lowl l (n - 16)) + m < 64 * dval l + n := by
  have hm17 := low_digits h hl hm hm2
  have hsm : ∀ j, l.getD j 0 < 65536 := by
    rcases h.2.2.1 with h3 | h3
    · omega
    · exact h3
  have hsp := dval_split l 16
  have hf := dval_fold l hl h.1 h.2.1
  have hp : (65536 : Nat) ^ 16 = 115792089237316195423570985008687907853269984665640564039457584007913129639936 := d16
  have ht : dval (l.take 16) < 65536 ^ 16 := by
    have := small_dval (l.take 16) (fun j => by
      by_cases hj : j < 16
      · have := hsm j
        simpa [List.getD, List.getElem?_take, hj] using this
      · simp [List.getD, List.getElem?_take, hj])
    rw [List.length_take] at this
    refine Nat.lt_of_lt_of_le this (Nat.pow_le_pow_right (by omega) (by omega))
  rw [hf] at hm2 ⊢
  rw [hp] at hsp ht
  generalize dval (l.take 16) = x at *
  generalize dval (l.drop 16) = y at *
  rcases Nat.eq_zero_or_pos y with h0 | h0
  · subst h0
    rcases hm2 with h2 | h2
    · omega
    · have h4 : (65536 : Nat) ^ 16 ≤ 65536 ^ (m - 1) ∨ m = 16 := by
        by_cases hmm : m = 16
        · exact .inr hmm
        · exact .inl (Nat.pow_le_pow_right (by omega) (by omega))
      rw [hp] at h4
      rcases h4 with h4 | h4 <;> omega
  · omega
theorem cols_dgl {T m : Nat} (h1 : 16 ≤ m) (h2 : m ≤ 17) : Cols m (dgl T m) := ⟨h1, by omega, .inr (dgl_small T m), fun j => by have := dgl_small T m j; omega⟩
theorem Fr.grow {w W W' : World} {L : List (Nat × TypeId × Array Value)} {R : List (Nat × TypeId × Nat)} {row : Option Nat} (h : Fr w W L R) (hg : W.grownBy W' row) (hL : ∀ p ∈ L, some p.1 ≠ row) (hR : ∀ p ∈ R, some p.1 ≠ row) (hw : ∀ g, row = some g → w.heap.size ≤ g) : Fr w W' L R :=
  ⟨h.below.grown hg h.below.size hw, fun p hp => (h.rows p hp).grown hg (hL p hp), fun p hp => by
    obtain ⟨cs, e, k⟩ := h.some_ p hp
    exact ⟨cs, e, k.grown hg (hR p hp)⟩, h.own⟩
theorem Fr.keep {w W W' : World} {L : List (Nat × TypeId × Array Value)} {R : List (Nat × TypeId × Nat)} {B : Nat} (h : Fr w W L R) (hb : Below B W W') (hB : w.heap.size ≤ B) (hL : ∀ p ∈ L, p.1 < B) (hR : ∀ p ∈ R, p.1 < B) : Fr w W' L R :=
  ⟨h.below.trans (hb.mono hB), fun p hp => (h.rows p hp).below hb (hL p hp), fun p hp => by
    obtain ⟨cs, e, k⟩ := h.some_ p hp
    exact ⟨cs, e, k.below hb (hR p hp)⟩, h.own⟩
theorem ds_dgl (T : Nat) : ds T = cs64 (dgl T 16) := rfl
theorem splice_ds (x T : Nat) : (splice (ds x).toList 0 ((dgl T 16).map (nc .u64))).toArray = ds T := by
  have h1 : (ds x).toList.length = 16 := by rw [Array.length_toList, ds_size]
  have h2 : ((dgl T 16).map (nc .u64)).length = 16 := by rw [List.length_map, dgl_len]
  unfold splice
  rw [h2, List.take_zero, List.nil_append, List.drop_eq_nil_of_le (by omega), List.append_nil]
  rfl
theorem top_mod {t h : Nat} (hh : h = t / 65536 ^ 15) : t = putd 65536 t 15 (h % 32768) + 57896044618658097711785492504343953926634992332820282019728792003956564819968 * (h / 32768) ∨ ¬ t < 65536 ^ 16 := by
  by_cases ht : t < 65536 ^ 16
  · left
    have hp := putd_eq 65536 t 15 (h % 32768)
    have e : (65536 : Nat) ^ 15 = 1766847064778384329583297500742918515827483896875618958121606201292619776 := by decide
    rw [← hh] at hp
    rw [e] at hp hh
    have h1 : h < 65536 := by rw [d16] at ht; omega
    rw [Nat.mod_eq_of_lt h1] at hp
    omega
  · exact .inr ht
theorem dgl_at0 (T : Nat) : (dgl T 16)[0]? = some (T % 65536) := by simp [dgl]
theorem PP_255 : PP + 19 = 57896044618658097711785492504343953926634992332820282019728792003956564819968 := by rw [PP_eq]
/-- 2^255 is 19: what stands above is folded. -/
theorem top_fold {t h t1 : Nat} (hh : h = t / 65536 ^ 15) (ht : t < 65536 ^ 16) (hb : 32767 < h) (hl : h < 65536) (h1 : t1 = putd 65536 t 15 (h % 32768)) : t1 < 65536 ^ 16 ∧ (t1 + 19 * (h / 32768)) < 65536 ^ 16 ∧ (t1 + 19 * (h / 32768)) % PP = t % PP ∧ t1 + 19 * (h / 32768) < t := by
  have e : t = t1 + 57896044618658097711785492504343953926634992332820282019728792003956564819968 * (h / 32768) := by
    rcases top_mod hh with e | e
    · rw [h1]
      exact e
    · exact absurd ht e
  clear h1 hh
  have h3 : h / 32768 = 1 := by omega
  have hp := PP_255
  rw [d16] at ht ⊢
  rw [h3] at e ⊢
  clear h3 hb hl
  have e2 : t = (t1 + 19 * 1) + PP := by omega
  refine ⟨by omega, by omega, ?_, by omega⟩
  rw [e2, Nat.add_mod_right]
theorem OwnU.frozen {w : World} {base g n cap : Nat} {e : TypeId} {l : List Nat} (h : OwnU w base e (.slice (some ⟨g, 0, none⟩) n cap) l) (hn : n = l.length) (j : Nat) : w.frozen? ⟨g, j, none⟩ = false := by
  subst hn
  exact World.ownsRow.frozenAt (size := 1) h j
theorem us_ds {W : World} {g t : Nat} (h : Blk W g 32 (ds t)) {B : Nat} (hB : g < B) : US W B (some ⟨g, 0, none⟩) 16 16 (dgl t 16) := by
  rw [ds_dgl] at h
  exact US.ofBlk h 16 (by rw [dgl_len]) B hB
theorem read_ds {W : World} {g t : Nat} (h : Blk W g 32 (ds t)) (ht : t < 65536 ^ 16) : readU W (.slice (some ⟨g, 0, none⟩) 16 16) = t := by
  rw [readU_eq (us_ds h h.lt) (by omega), dval_dgl, Nat.mod_eq_of_lt ht]
/-- What Mod is asked of a slice of columns, and answers. -/
def ModOf (n : Nat) (l : List Nat) : Prop := ∀ (A : Option Addr) (c B : Nat) (w : World), US w B A n c l → B ≤ w.heap.size → Calls Tryd.prog 39 #[.slice A n c] w (NumPost (dval l % PP) w)
set_option maxRecDepth 100000 in
set_option maxHeartbeats 4000000 in
theorem mod_gen (norm : Bool) (hrec : norm = false → ∀ T, ModOf 17 (dgl T 17)) (n : Nat) (l : List Nat) (hcol : Cols n l) (hnorm : norm = true → ∀ j, l.getD j 0 < 65536) : ModOf n l := by
  intro A c B w hl hB
  have hfr := (Fr.start w).any (ds 0) 32 16 (ds_size 0) (g := w.heap.size) rfl
  rw [ds_zero] at hfr
  have HFR := Lib.hid hfr
  obtain ⟨V, hV⟩ : ∃ V, V = dval l % PP := ⟨_, rfl⟩
  rw [← hV]
  have HV := Lib.hid hV
  have HC := Lib.hid hcol
  have HN := Lib.hid hnorm
  have HREC := Lib.hid hrec
  clear hfr hV hcol hnorm hrec
  have hl2 := (hl.alloc hB (.cells #[Value.int .u64 0, Value.int .u64 0, Value.int .u64 0, Value.int .u64 0, Value.int .u64 0, Value.int .u64 0, Value.int .u64 0, Value.int .u64 0, Value.int .u64 0, Value.int .u64 0, Value.int .u64 0, Value.int .u64 0, Value.int .u64 0, Value.int .u64 0, Value.int .u64 0, Value.int .u64 0] 32)).more (B' := w.heap.size + 1) (by omega)
  have HL := Lib.hid hl2
  clear hl hl2
  go_enter Tryd.func39, Tryd.ntmps39
  go_wp2_with (fail)
  go_loopw [0] (fun d wr => ∃ A n c l, d = .slice A n c ∧ US wr wr.heap.size A n c l ∧ Cols n l ∧ dval l % PP = V ∧ (norm = true → ∀ j, l.getD j 0 < 65536) ∧ Fr w wr [] [(w.heap.size, 32, 16)]) (fun d wr => 64 * readU wr d + lenU d)
  case atStart => exact ⟨A, n, c, l, rfl, HL.out.more (by simp), HC.out, HV.out.symm, HN.out, HFR.out⟩
  case round =>
    obtain ⟨A, n, c, l, rfl, hU, hC, hM, hN, hF⟩ := hrel
    clear HFR HL HC HN
    by_cases hgt : 16 < n
    · have hlen := hU.len
      have hcap := hU.cap
      have hread := readU_eq hU (by omega)
      have hhead := fun W => run_headU (P := Tryd.prog) 61 24 Tryd.underlying61 info_u64 A n c 16 (by omega) W
      rw [show ((16 : Nat) : Int) = 16 from rfl] at hhead
      have ngt : (16 : Int) < (n : Int) := by omega
      have hU16 := hU.head (k := 16) (by omega)
      have HREAD := Lib.hid hread
      have HM := Lib.hid hM
      have HC := Lib.hid hC
      have HN2 := Lib.hid hN
      have HF := Lib.hid hF
      have HUU := Lib.hid hU
      clear hread hM hC hN hF hU
      go_wp2_with (at_builtin; refine wpList_app_ownU rfl (.tmp 11) (.tmp 13) 61 rfl 24 Tryd.underlying61 info_u64 wr.heap.size (.slice none 0 0) [] rfl (OwnU.nil _ _ _) wr.heap.size 16 c A (l.take 16) rfl hU16 (by simp) (Nat.le_refl _) ?_; intro v1 w1 hown1 hg1 hat1)
      rw [List.nil_append, ← lowl_zero l (by omega)] at hown1
      obtain ⟨gl, cap, rfl, hgl1, hgl2⟩ := hown1.slice (by rw [lowl_len]; omega)
      rw [lowl_len] at hown1 ⊢
      have hU1 := HUU.out.grown hg1 (Nat.le_refl _) (by intro g h; cases h)
      have hF1 := HF.out.grow hg1 (by simp) (by simp [Value.ownBlock]) (by intro g h; cases h)
      have hres : w.heap.size < wr.heap.size := by obtain ⟨cs, _, k⟩ := HF.out.old (g := w.heap.size) (t := 32) (n := 16) (by simp); exact k.lt
      have hsw1 := hg1.size
      have hsw0 := HF.out.size
      obtain ⟨b0, hb0⟩ : ∃ b0, b0 = wr.heap.size := ⟨_, rfl⟩
      rw [← hb0] at hown1 hgl1 hU1 hres hsw1 hsw0
      have HU1 := Lib.hid hU1
      have HF1 := Lib.hid hF1
      have HO1 := Lib.hid hown1
      clear hU1 hF1 hown1 hg1 hat1 hhead hU16
      try rw [decide_eq_true ngt]
      go_loopw [3, 4] (fun v i wq => ∃ j : Nat, j ≤ n - 16 ∧ i = .int .i64 (16 + (j : Int)) ∧ v = .slice (some ⟨gl, 0, none⟩) 16 cap ∧ OwnU wq b0 24 (.slice (some ⟨gl, 0, none⟩) 16 cap) (lowl l j) ∧ US wq b0 A n c l ∧ b0 ≤ wq.heap.size ∧ Fr w wq [] [(w.heap.size, 32, 16)]) (fun _ i _ => n - (intOf i).toNat)
      case atStart => exact ⟨0, by omega, rfl, rfl, HO1.out, HU1.out, hsw1, HF1.out⟩
      case round =>
        obtain ⟨j, hj, rfl, rfl, hO, hU, hwq, hF⟩ := hrel
        clear HO1 HU1 HF1
        by_cases hlt : j < n - 16
        · have hC := HC.out
          have cl := hO.cell (by rw [lowl_len]) (lowl_at l (j := j) (by have := hC.2.1; omega))
          have hf : wr.frozen? ⟨gl, j, none⟩ = false := by have h2 := hO; unfold OwnU at h2; rw [lowl_len] at h2; exact World.ownsRow.frozenAt (size := 1) h2 j
          obtain ⟨b, o, x, rfl, hbb, hx, cx⟩ := hU.at' (k := 16 + j) (by omega)
          have hxd : l.getD (16 + j) 0 = x := by simp [List.getD, hx]
          have hxb := hC.2.2.2 (16 + j)
          rw [hxd] at hxb
          have hyb := hC.2.2.2 j
          have hst := lowl_step l (j := j) (by have := hC.2.1; omega)
          rw [hxd] at hst
          obtain ⟨hS1, hS2⟩ := hO.set (by rw [lowl_len]) j (l.getD j 0 + 38 * x)
          rw [hst] at hS1
          have hU2 := hU.grown hS2 hwq (by intro g h; injection h with h; omega)
          have hF2 := hF.grow hS2 (by simp) (by simp <;> omega) (by intro g h; injection h with h; omega)
          have hsz2 := hS2.size
          have HS1 := Lib.hid hS1
          have HU2 := Lib.hid hU2
          have HF2 := Lib.hid hF2
          have hj16 : j < 16 := by have := hC.2.1; omega
          clear hS1 hS2 hU2 hF2 hO hU hF hst hxd hx hC
          generalize l.getD j 0 = y at *
          have hsum : IntKind.u64.wrap ((y : Int) + 38 * (x : Int)) = ((y + 38 * x : Nat) : Int) := by rw [IntKind.wrap_u64]; omega
          have b2 : (16 : Int) + (j : Int) < (n : Int) := by omega
          have b1 : (0 : Int) ≤ 16 + (j : Int) := by omega
          have bw : IntKind.i64.wrap ((16 : Int) + (j : Int) - 16) = (j : Int) := by rw [IntKind.wrap_i64]; omega
          have hm38 : IntKind.u64.wrap (38 * (x : Int)) = 38 * (x : Int) := by rw [IntKind.wrap_u64]; omega
          have b3 : ((16 : Int) + (j : Int)).toNat = 16 + j := by omega
          have j16 : (j : Int) < 16 := by omega
          have hne : gl ≠ b := by omega
          go_wp2_with (fail)
          refine wp_region_held_drew (S := fun W => W.cell? ⟨b, o + (16 + j), none⟩ = some (.int .u64 (x : Int))) (by kernel_rfl) ?_ (fun hHeld => ?_)
          · exact cx
          refine wpAnyH_take (i := 0) (v := ?_) rfl (by kernel_rfl) (by kernel_rfl) (by kernel_rfl) (fun _ _ _ h => h) (Or.inl ⟨by rfl, ?_⟩) hHeld ?_
          rotate_left
          · (intro W hSw; (try dsimp only at hSw); (try simp only [List.getElem_toArray, List.getElem_cons_succ, List.getElem_cons_zero]); go_simp; try with_reducible rfl)
          try simp only [Act.put, List.getElem_toArray, List.getElem_cons_succ, List.getElem_cons_zero, List.setIfInBounds_toArray, List.set_cons_zero, List.set_cons_succ]
          refine wpAnyH_take (i := 1) (v := ?_) rfl (by kernel_rfl) (by kernel_rfl) (by kernel_rfl) (fun _ _ _ h => h) (Or.inl ⟨by rfl, ?_⟩) hHeld ?_
          rotate_left
          · (intro W hSw; (try dsimp only at hSw); (try simp only [List.getElem_toArray, List.getElem_cons_succ, List.getElem_cons_zero]); go_simp; try with_reducible rfl)
          try simp only [Act.put, List.getElem_toArray, List.getElem_cons_succ, List.getElem_cons_zero, List.setIfInBounds_toArray, List.set_cons_zero, List.set_cons_succ]
          refine wpAnyH_take (i := 2) (v := ?_) rfl (by kernel_rfl) (by kernel_rfl) (by kernel_rfl) (fun _ _ _ h => h) (Or.inl ⟨by rfl, ?_⟩) hHeld ?_
          rotate_left
          · (intro W hSw; (try dsimp only at hSw); (try simp only [List.getElem_toArray, List.getElem_cons_succ, List.getElem_cons_zero]); go_simp; try with_reducible rfl)
          try simp only [Act.put, List.getElem_toArray, List.getElem_cons_succ, List.getElem_cons_zero, List.setIfInBounds_toArray, List.set_cons_zero, List.set_cons_succ]
          refine wpAnyH_take (i := 3) (v := ?_) rfl (by kernel_rfl) (by kernel_rfl) (by kernel_rfl) (fun _ _ _ h => h) (Or.inl ⟨by rfl, ?_⟩) hHeld ?_
          rotate_left
          · (intro W hSw; (try dsimp only at hSw); (try simp only [List.getElem_toArray, List.getElem_cons_succ, List.getElem_cons_zero]); go_simp; try with_reducible rfl)
          try simp only [Act.put, List.getElem_toArray, List.getElem_cons_succ, List.getElem_cons_zero, List.setIfInBounds_toArray, List.set_cons_zero, List.set_cons_succ]
          refine wpAnyH_take (i := 4) (v := ?_) rfl (by kernel_rfl) (by kernel_rfl) (by kernel_rfl) (fun _ _ _ h => h) (Or.inl ⟨by rfl, ?_⟩) hHeld ?_
          rotate_left
          · (intro W hSw; (try dsimp only at hSw); (try simp only [List.getElem_toArray, List.getElem_cons_succ, List.getElem_cons_zero]); go_simp; try with_reducible rfl)
          try simp only [Act.put, List.getElem_toArray, List.getElem_cons_succ, List.getElem_cons_zero, List.setIfInBounds_toArray, List.set_cons_zero, List.set_cons_succ]
          refine wpAnyH_take (i := 5) (v := ?_) rfl (by kernel_rfl) (by kernel_rfl) (by kernel_rfl) (fun _ _ _ h => h) (Or.inl ⟨by rfl, ?_⟩) hHeld ?_
          rotate_left
          · (intro W hSw; (try dsimp only at hSw); (try simp only [List.getElem_toArray, List.getElem_cons_succ, List.getElem_cons_zero]); go_simp; try with_reducible rfl)
          try simp only [Act.put, List.getElem_toArray, List.getElem_cons_succ, List.getElem_cons_zero, List.setIfInBounds_toArray, List.set_cons_zero, List.set_cons_succ]
          refine wpAnyH_take (i := 6) (v := ?_) rfl (by kernel_rfl) (by kernel_rfl) (by kernel_rfl) (fun _ _ _ h => h) (Or.inl ⟨by rfl, ?_⟩) hHeld ?_
          rotate_left
          · (intro W hSw; (try dsimp only at hSw); (try simp only [List.getElem_toArray, List.getElem_cons_succ, List.getElem_cons_zero]); go_simp; try with_reducible rfl)
          try simp only [Act.put, List.getElem_toArray, List.getElem_cons_succ, List.getElem_cons_zero, List.setIfInBounds_toArray, List.set_cons_zero, List.set_cons_succ]
          refine wpAnyH_take (i := 8) (v := ?_) rfl (by kernel_rfl) (by kernel_rfl) (by kernel_rfl) (fun _ _ _ h => h) (Or.inl ⟨by rfl, ?_⟩) hHeld ?_
          rotate_left
          · (intro W hSw; (try dsimp only at hSw); (try simp only [List.getElem_toArray, List.getElem_cons_succ, List.getElem_cons_zero]); go_simp; try with_reducible rfl)
          try simp only [Act.put, List.getElem_toArray, List.getElem_cons_succ, List.getElem_cons_zero, List.setIfInBounds_toArray, List.set_cons_zero, List.set_cons_succ]
          refine wpAnyH_take (i := 9) (v := ?_) rfl (by kernel_rfl) (by kernel_rfl) (by kernel_rfl) (fun _ _ _ h => h) (Or.inl ⟨by rfl, ?_⟩) hHeld ?_
          rotate_left
          · (intro W hSw; (try dsimp only at hSw); (try simp only [List.getElem_toArray, List.getElem_cons_succ, List.getElem_cons_zero]); go_simp; try with_reducible rfl)
          try simp only [Act.put, List.getElem_toArray, List.getElem_cons_succ, List.getElem_cons_zero, List.setIfInBounds_toArray, List.set_cons_zero, List.set_cons_succ]
          refine wpAnyH_take (i := 10) (v := ?_) rfl (by kernel_rfl) (by kernel_rfl) (by kernel_rfl) (fun _ _ _ h => h) (Or.inl ⟨by rfl, ?_⟩) hHeld ?_
          rotate_left
          · (intro W hSw; (try dsimp only at hSw); (try simp only [List.getElem_toArray, List.getElem_cons_succ, List.getElem_cons_zero]); go_simp; try with_reducible rfl)
          try simp only [Act.put, List.getElem_toArray, List.getElem_cons_succ, List.getElem_cons_zero, List.setIfInBounds_toArray, List.set_cons_zero, List.set_cons_succ]
          refine wpAnyH_take (i := 11) (v := ?_) rfl (by kernel_rfl) (by kernel_rfl) (by kernel_rfl) (fun _ _ _ h => h) (Or.inl ⟨by rfl, ?_⟩) hHeld ?_
          rotate_left
          · (intro W hSw; (try dsimp only at hSw); (try simp only [List.getElem_toArray, List.getElem_cons_succ, List.getElem_cons_zero]); go_simp; try with_reducible rfl)
          try simp only [Act.put, List.getElem_toArray, List.getElem_cons_succ, List.getElem_cons_zero, List.setIfInBounds_toArray, List.set_cons_zero, List.set_cons_succ]
          refine wpAnyH_take (i := 12) (v := ?_) rfl (by kernel_rfl) (by kernel_rfl) (by kernel_rfl) (fun _ _ _ h => h) (Or.inl ⟨by rfl, ?_⟩) hHeld ?_
          rotate_left
          · (intro W hSw; (try dsimp only at hSw); (try simp only [List.getElem_toArray, List.getElem_cons_succ, List.getElem_cons_zero]); go_simp; try with_reducible rfl)
          try simp only [Act.put, List.getElem_toArray, List.getElem_cons_succ, List.getElem_cons_zero, List.setIfInBounds_toArray, List.set_cons_zero, List.set_cons_succ]
          refine wpAnyH_ready (rs := [7]) (by kernel_rfl) (by simp) (AllReadyH.cons rfl (fun K hK => ?_) AllReadyH.nil)
          have h0 := hHeld
          clear hHeld
          try simp only [List.getElem_toArray, List.getElem_cons_succ, List.getElem_cons_zero]
          go_simp
          refine hK.out _ _ (h0) (fun hHeld => ?_)
          clear hK K h0
          try simp only [Act.put, List.getElem_toArray, List.getElem_cons_succ, List.getElem_cons_zero, List.setIfInBounds_toArray, List.set_cons_zero, List.set_cons_succ]
          refine wpAnyH_take (i := 13) (v := ?_) rfl (by kernel_rfl) (by kernel_rfl) (by kernel_rfl) (fun _ _ _ h => h) (Or.inl ⟨by rfl, ?_⟩) hHeld ?_
          rotate_left
          · (intro W hSw; (try dsimp only at hSw); (try simp only [List.getElem_toArray, List.getElem_cons_succ, List.getElem_cons_zero]); go_simp; try with_reducible rfl)
          try simp only [Act.put, List.getElem_toArray, List.getElem_cons_succ, List.getElem_cons_zero, List.setIfInBounds_toArray, List.set_cons_zero, List.set_cons_succ]
          refine wpAnyH_take (i := 14) (v := ?_) rfl (by kernel_rfl) (by kernel_rfl) (by kernel_rfl) (fun _ _ _ h => h) (Or.inl ⟨by rfl, ?_⟩) hHeld ?_
          rotate_left
          · (intro W hSw; (try dsimp only at hSw); (try simp only [List.getElem_toArray, List.getElem_cons_succ, List.getElem_cons_zero]); go_simp; try with_reducible rfl)
          try simp only [Act.put, List.getElem_toArray, List.getElem_cons_succ, List.getElem_cons_zero, List.setIfInBounds_toArray, List.set_cons_zero, List.set_cons_succ]
          refine wpAnyH_ready (rs := [15]) (by kernel_rfl) (by simp) (AllReadyH.cons rfl (fun K hK => ?_) AllReadyH.nil)
          have h0 := hHeld
          clear hHeld
          try simp only [List.getElem_toArray, List.getElem_cons_succ, List.getElem_cons_zero]
          go_simp
          refine hK.out _ _ ((World.cell?_setCell_far _ _ _ _ (by simp <;> omega)).trans h0) (fun hHeld => ?_)
          clear hK K h0
          try simp only [Act.put, List.getElem_toArray, List.getElem_cons_succ, List.getElem_cons_zero, List.setIfInBounds_toArray, List.set_cons_zero, List.set_cons_succ]
          refine wpAnyH_done (by kernel_rfl) ?_ _
          go_wp2_with (fail)
          go_roundw
          case rel => exact ⟨j + 1, by omega, by go_num, rfl, HS1.out, HU2.out.drew, by simp at hsz2 ⊢; omega, HF2.out.drew⟩
          case measure => simp [intOf] <;> omega
        · obtain rfl : j = n - 16 := by omega
          have hcar := carried_any b0 gl cap (lowl l (n - 16)) wr (by rw [lowl_len]; exact hO) (by rw [lowl_len]; omega) (fun j => by have := cols_low HC.out hlen j; omega) (by rw [lowl_len]; omega) hwq
          rw [lowl_len] at hcar
          have HCAR := Lib.hid hcar
          have HF := Lib.hid hF
          have hsq := hF.size
          have eni : (16 : Int) + ((n - 16 : Nat) : Int) = (n : Int) := by omega
          rw [eni]
          clear hcar hF hO hU eni
          go_wp2_with (fail)
          refine HCAR.out.mono ?_
          rintro e w3 ⟨v', m, rfl, hown3, hg3, hown4, hm16, hTm, hm2⟩
          rw [lowl_len] at hm16 hm2
          have hF3 := HF.out.grow hg3 (by simp) (by simp <;> omega) (by intro g h; injection h with h; omega)
          obtain ⟨A3, n3, c3, rfl, hU3, _⟩ := hown3.form
          have hl3 := hU3.len
          rw [dgl_len] at hl3
          subst hl3
          have hm17 := low_digits HC.out hlen hm16 hm2
          have hlt2 := fold_less HC.out hlen (by omega) hm16 hm2
          have hfm := fold_mod l hlen HC.out.1 HC.out.2.1
          have hdd : dval (dgl (dval (lowl l (n - 16))) m) = dval (lowl l (n - 16)) := by rw [dval_dgl, Nat.mod_eq_of_lt hTm]
          have hr3 := readU_eq hU3 (by omega)
          rw [hdd] at hr3
          have HU3 := Lib.hid hU3
          have HF3 := Lib.hid hF3
          have HL2 := Lib.hid hlt2
          have HFM := Lib.hid hfm
          have HDD := Lib.hid hdd
          have HR3 := Lib.hid hr3
          clear hown3 hg3 hown4 hTm hm2 hU3 hF3 hlt2 hfm hdd hr3
          go_wp2_with (fail)
          go_roundw
          case rel => exact ⟨A3, m, c3, _, rfl, HU3.out, cols_dgl hm16 hm17, by rw [HDD.out, HFM.out, HM.out], fun _ => dgl_small _ _, HF3.out⟩
          case measure =>
            show 64 * readU w3 (.slice A3 m c3) + m < 64 * readU _ (.slice A n c) + n
            rw [HR3.out, HREAD.out]
            exact HL2.out
    · obtain rfl : n = 16 := by have := hC.1; omega
      have hlen := hU.len
      have hTb := dval_bound l 1048576 hC.2.2.2
      rw [hlen] at hTb
      obtain ⟨T, hT⟩ : ∃ T, T = dval l := ⟨_, rfl⟩
      have hns : norm = true → T < 65536 ^ 16 := fun h => by rw [hT]; have := small_dval l (hN h); rwa [hlen] at this
      have HC := Lib.hid hC
      have HM := Lib.hid hM
      have HNS := Lib.hid hns
      have HF := Lib.hid hF
      have HT := Lib.hid hT
      have HTB := Lib.hid hTb
      have HUU := Lib.hid hU
      clear hC hM hN hns hF hT hTb hgt
      go_wp2_with (at_builtin; refine wpList_app_ownU rfl (.const (.slice none 0 0)) (.tmp 49) 61 rfl 24 Tryd.underlying61 info_u64 wr.heap.size (.slice none 0 0) [] rfl (OwnU.nil _ _ _) wr.heap.size 16 c A l rfl HUU.out (by simp) (Nat.le_refl _) ?_; intro v1 w1 hown1 hg1 hat1)
      rw [List.nil_append] at hown1
      obtain ⟨gc, cap, rfl, hgc1, hgc2⟩ := hown1.slice (by rw [hlen]; omega)
      have hsw1 := hg1.size
      have hF1 := HF.out.grow hg1 (by simp) (by simp [Value.ownBlock]) (by intro g h; cases h)
      have hres : w.heap.size < wr.heap.size := by obtain ⟨cs, _, k⟩ := HF.out.old (g := w.heap.size) (t := 32) (n := 16) (by simp); exact k.lt
      have hsw0 := HF.out.size
      have hcar := carried_any wr.heap.size gc cap l w1 hown1 (by rw [hlen]; omega) (fun j => by have := HC.out.2.2.2 j; omega) (by rw [hlen]; omega) hsw1
      rw [hlen] at hcar ⊢
      have HCAR := Lib.hid hcar
      have HF1 := Lib.hid hF1
      clear hcar hF1 hown1 hg1 hat1 HF
      refine HCAR.out.mono ?_
      rintro e w3 ⟨v', m, rfl, hown3, hg3, hown4, hm16, hTm, hm2⟩
      rw [hlen] at hm16 hm2
      rw [← HT.out] at hown3 hTm hm2
      have hF3 := HF1.out.grow hg3 (by simp) (by simp <;> omega) (by intro g h; injection h with h; omega)
      obtain ⟨A3, n3, c3, rfl, hU3, _⟩ := hown3.form
      have hl3 := hU3.len
      rw [dgl_len] at hl3
      subst hl3
      have hm17 : m ≤ 17 := by
        rcases hm2 with h | h
        · omega
        · apply Nat.le_of_not_lt
          intro hlt
          have h4 : 65536 ^ 17 ≤ 65536 ^ (m - 1) := Nat.pow_le_pow_right (by omega) (by omega)
          have h5 : (65536 : Nat) ^ 17 = 65536 * 65536 ^ 16 := by rw [Nat.pow_succ, Nat.mul_comm]
          have h6 := HTB.out
          rw [← HT.out] at h6
          have hp : 0 < (65536 : Nat) ^ 16 := Nat.pow_pos (by omega)
          generalize (65536 : Nat) ^ 16 = P at *
          omega
      have HU3 := Lib.hid hU3
      have HF3 := Lib.hid hF3
      have hdd : dval (dgl T m) = T := by rw [dval_dgl, Nat.mod_eq_of_lt hTm]
      have HDD := Lib.hid hdd
      have HTM := Lib.hid hTm
      have hMT := HM.out
      rw [← HT.out] at hMT
      have HMT := Lib.hid hMT
      have hm2' := hm2
      have HM2 := Lib.hid hm2'
      clear hown3 hg3 hown4 hTm hm2 hm2' hU3 hF3 hdd hMT HF1 HCAR HM HTB HUU HC
      go_wp2_with (fail)
      go_loopw [54] (fun _ wq => wq = w3) (fun _ _ => 0)
      case atStart => rfl
      case round =>
        obtain rfl : wr = w3 := hrel
        rcases (show m = 17 ∨ m = 16 by omega) with rfl | rfl
        · have hnf : norm = false := by
            cases hb : norm with
            | false => rfl
            | true =>
              have h1 := HNS.out hb
              rcases HM2.out with h2 | h2
              · omega
              · exact absurd h1 (by omega)
          have hmod := HREC.out hnf T A3 c3 wr.heap.size wr HU3.out (Nat.le_refl _)
          rw [HDD.out, HMT.out] at hmod
          have HMOD := Lib.hid hmod
          clear hmod hnf
          go_wp2_with (fail)
          refine HMOD.out.mono ?_
          rintro e v2 ⟨rfl, hb⟩
          have hf := HF3.out.ext hb
          obtain ⟨old, hold, kR⟩ := hf.old (g := w.heap.size) (t := 32) (n := 16) (by simp)
          have kS := kR.setRow_same (ds V)
          have hB2 := below_setRow hf.below (Nat.le_refl _) (ds V)
          have hold' : old.size = (ds V).size := by rw [hold, ds_size]
          have HS := Lib.hid kS
          have HB2 := Lib.hid hB2
          have HO := Lib.hid hold'
          clear hb hf kS hB2 hold hold'
          go_wp2_with (first | (refine wpList_store_row rfl 32 (.tmp 2) (.tmp 56) rfl (w.heap.size) (ds V) rfl rfl 32 old kR (info_ds V) HO.out (ds_one _) ?_))
          exact bodyPost_ret (results_cell_row rfl _ _ (w.heap.size) 32 (ds V) (0, 0) _ rfl HS.out Tryd.underlying32 rfl (info_ds V)) rfl ⟨rfl, HB2.out⟩
        · have hTm := HTM.out
          obtain ⟨ad, had⟩ : ∃ ad, A3 = some ad := by obtain ⟨b, o, e, _⟩ := HU3.out.at_ (by omega); exact ⟨_, e⟩
          subst had
          have hres3 : w.heap.size < wr.heap.size := by obtain ⟨cs, _, k⟩ := HF3.out.old (g := w.heap.size) (t := 32) (n := 16) (by simp); exact k.lt
          have hsw3 := HF3.out.size
          have hz := (Blk.new wr 32 (ds 0))
          rw [ds_zero] at hz
          have hz2 : (wr.alloc (.cells #[.int .u64 0, .int .u64 0, .int .u64 0, .int .u64 0, .int .u64 0, .int .u64 0, .int .u64 0, .int .u64 0, .int .u64 0, .int .u64 0, .int .u64 0, .int .u64 0, .int .u64 0, .int .u64 0, .int .u64 0, .int .u64 0] 32)).heap[wr.heap.size]? = some (.cells (ds 0).toList.toArray 32 (0, 0)) := by rw [Array.toArray_toList, ds_zero]; exact hz
          have HZ2 := Lib.hid hz2
          clear hz hz2
          go_wp2_with (with_reducible refine wpList_copy_splice rfl (.tmp 57) (.tmp 58) 61 61 rfl 24 Tryd.underlying61 (by kernel_rfl) (some ⟨wr.heap.size, 0, none⟩) (some ad) 16 16 16 c3 rfl rfl wr.heap.size 0 (ds 0).toList 32 HZ2.out ((dgl T 16).map (nc .u64)) (by simp [dgl_len]) (fun _ => ⟨rfl, ad, rfl, us_cells (HU3.out.alloc (Nat.le_refl _) _) ad rfl⟩) (by simp [ds_size, dgl_len]) (nc_all _) wr.heap.size wr ((Below.refl _ wr).alloc (Nat.le_refl _) _) (Nat.le_refl _) ?_; intro w4 hg4 hb4)
          have hk4 : Blk w4 wr.heap.size 32 (ds T) := by have := hg4.out; rw [splice_ds] at this; exact this
          have hF4 := (HF3.out.keep hb4 hsw3 (by simp) (by simp <;> omega)).more hk4
          obtain ⟨gn, hgn⟩ : ∃ gn, gn = wr.heap.size := ⟨_, rfl⟩
          rw [← hgn] at hF4 hres3 hsw3 ⊢
          have HF4 := Lib.hid hF4
          clear hF4 hk4 hg4 hb4 HZ2 HU3 HF3 hgn
          go_loopw [6, 7] (fun _ _ wq => ∃ t : Nat, t < 65536 ^ 16 ∧ t % PP = V ∧ Fr w wq [(gn, 32, ds t)] [(w.heap.size, 32, 16)]) (fun _ _ wq => readU wq (.slice (some ⟨gn, 0, none⟩) 16 16))
          case atStart => exact ⟨T, HTM.out, HMT.out, HF4.out⟩
          case round =>
            obtain ⟨t, ht, htV, hF⟩ := hrel
            clear HF4
            have hK := hF.get (g := gn) (t := 32) (cs := ds t) (by simp)
            have c15 : wr.cell? ⟨gn, 15, none⟩ = some (.int .u64 ((t / 65536 ^ 15 % 65536 : Nat) : Int)) := by rw [hK.cell, ds_get _ (by omega)]
            have hh15 : t / 65536 ^ 15 % 65536 = t / 65536 ^ 15 := Nat.mod_eq_of_lt (by rw [Nat.div_lt_iff_lt_mul (Nat.pow_pos (by omega))]; rw [Nat.pow_succ, Nat.mul_comm] at ht; exact ht)
            rw [hh15] at c15
            have hl15 : t / 65536 ^ 15 < 65536 := by rw [← hh15]; exact Nat.mod_lt _ (by omega)
            have htop := top_mod (t := t) rfl
            have HTOP := Lib.hid htop
            have HT4 := Lib.hid ht
            have HV4 := Lib.hid htV
            have HF := Lib.hid hF
            have HK := Lib.hid hK
            have f15 := hK.frozen 15
            obtain ⟨h, hh⟩ : ∃ h, h = t / 65536 ^ 15 := ⟨_, rfl⟩
            rw [← hh] at c15 hl15 HTOP
            have HH := Lib.hid hh
            clear htop ht htV hF hK hh15 hh
            by_cases hbig : 32767 < h
            · obtain ⟨t1, ht1⟩ : ∃ t1, t1 = putd 65536 t 15 (h % 32768) := ⟨_, rfl⟩
              obtain ⟨q1, q2, q3, q4⟩ := top_fold HH.out HT4.out hbig hl15 ht1
              have hpt := ds_put (n := t) (k := 15) (x := h % 32768) (by omega) (by omega)
              rw [← ht1] at hpt
              have hcast : ((h % 32768 : Nat) : Int) = (h : Int) % 32768 := by omega
              rw [hcast] at hpt
              have hreadt := read_ds HK.out HT4.out
              have hF1 := HF.out.setHead (by simp) (by simp <;> omega) 15 (.int .u64 ((h : Int) % 32768)) (by omega)
              rw [hpt] at hF1
              have hK1 := hF1.get (g := gn) (t := 32) (cs := ds t1) (by simp)
              have hus := us_ds hK1 HK.out.lt
              have hgnl := HK.out.lt
              have hsw := HF.out.size
              have hd0 : t1 % 65536 < 65536 := Nat.mod_lt _ (by omega)
              have HF1 := Lib.hid hF1
              have HK1 := Lib.hid hK1
              have HUS := Lib.hid hus
              have HRT := Lib.hid hreadt
              have HQ1 := Lib.hid q1
              have HQ2 := Lib.hid q2
              have HQ3 := Lib.hid q3
              have HQ4 := Lib.hid q4
              clear hF1 hK1 hus hreadt q1 q2 q3 q4 hpt ht1 HF HH HTOP HK
              have hda := dgl_at0 t1
              generalize hdd : t1 % 65536 = d0 at *
              have HDA := Lib.hid hda
              have HDD := Lib.hid hdd
              clear hda hdd
              have hbg : decide ((32767 : Int) < (h : Int)) = true := decide_eq_true (by omega)
              clear hcast
              have hw1 : IntKind.u64.wrap (19 * ((h : Int) / 32768)) = 19 * ((h : Int) / 32768) := by rw [IntKind.wrap_u64]; omega
              have hw2 : IntKind.u64.wrap ((d0 : Int) + 19 * ((h : Int) / 32768)) = (d0 : Int) + 19 * ((h : Int) / 32768) := by rw [IntKind.wrap_u64]; omega
              go_upto_region 21 with (at_builtin; refine wpList_app_ownU rfl (.tmp 70) (.tmp 71) 61 rfl 24 Tryd.underlying61 info_u64 wr.heap.size (.slice none 0 0) [] rfl (OwnU.nil _ _ _) wr.heap.size 16 16 (some ⟨gn, 0, none⟩) (dgl t1 16) rfl HUS.out (by simp) (by simp) ?_; intro v5 w5 hown5 hg5 hat5; rw [List.nil_append] at hown5; obtain ⟨ge, cap5, rfl, hge1, hge2⟩ := hown5.slice (by rw [dgl_len]; omega); rw [dgl_len] at hown5 ⊢; have c50 := hown5.cell (by rw [dgl_len]) HDA.out; have f50 := hown5.frozen (by rw [dgl_len]) 0; have HO5 := Lib.hid hown5; have HG5 := Lib.hid hg5; have HGE1 := Lib.hid hge1; have HGE2 := Lib.hid hge2; clear hown5 hg5 hat5 hge1 hge2)
              rw [dgl_len]
              go_wp2_with (fail)
              have hown5 := HO5.out
              have hg5 := HG5.out
              have hge1 := HGE1.out
              have hge2 := HGE2.out
              clear HO5 HG5 HGE1 HGE2
              obtain ⟨le, hle⟩ : ∃ le, le = (dgl t1 16).set 0 (d0 + 19 * (h / 32768)) := ⟨_, rfl⟩
              obtain ⟨hS1, hS2⟩ := hown5.set (by rw [dgl_len]) 0 (d0 + 19 * (h / 32768))
              rw [← hle] at hS1
              have hcst : ((d0 + 19 * (h / 32768) : Nat) : Int) = (d0 : Int) + 19 * ((h : Int) / 32768) := by omega
              rw [hcst] at hS1 hS2
              have hlel : le.length = 16 := by rw [hle, List.length_set, dgl_len]
              have hled : dval le = t1 + 19 * (h / 32768) := by
                have h5 := dval_set (dgl t1 16) 0 (d0 + 19 * (h / 32768)) (by rw [dgl_len]; omega)
                rw [← hle, dval_dgl, Nat.mod_eq_of_lt HQ1.out, dgl_get t1 16 (by omega), Nat.pow_zero, Nat.div_one, HDD.out] at h5
                omega
              have hleb : ∀ j, le.getD j 0 ≤ 1099511627776 := by
                intro j
                rw [hle, getD_set _ _ _ _ (by rw [dgl_len]; omega)]
                have := dgl_small t1 16 j
                split <;> omega
              have hsz5 := hg5.size
              simp at hsz5
              have hF6 := (((HF1.out.sub (L' := []) (R' := [(w.heap.size, 32, 16)]) (by simp) (by simp)).grow hg5 (by simp) (by simp [Value.ownBlock]) (by intro g h; cases h))).grow hS2 (by simp) (by simp <;> omega) (by intro g h; injection h with h; omega)
              have hK6 := (HK1.out.grown hg5 (by simp [Value.ownBlock])).grown hS2 (by intro e; injection e with e; omega)
              have hsz6 := hS2.size
              obtain ⟨w6, hw6⟩ : ∃ w6, w6 = w5.setCell ⟨ge, 0, none⟩ (.int .u64 ((d0 : Int) + 19 * ((h : Int) / 32768))) := ⟨_, rfl⟩
              rw [← hw6] at hS1 hF6 hK6 hsz6 ⊢
              clear hw6 hS2 hown5 hg5 c50 f50
              have hcar := carried_any wr.heap.size ge cap5 le w6.drew (by rw [hlel]; exact hS1.drew) (by omega) hleb (by omega) (by simp; omega)
              rw [hlel] at hcar
              have HCAR := Lib.hid hcar
              have HF6 := Lib.hid hF6
              have KZ := Lib.hid hK6.drew
              have HLD := Lib.hid hled
              have HLL := Lib.hid hlel
              clear hcar hF6 hK6 hled hleb hle hS1 hlel hcst
              go_wp2_with (fail)
              refine wp_region_held_drew (S := fun W => Fr w W [] [(w.heap.size, 32, 16)]) (by kernel_rfl) ?_ (fun hHeld => ?_)
              · exact HF6.out.drew
              refine wpAnyH_take (i := 0) (v := ?_) rfl (by kernel_rfl) (by kernel_rfl) (by kernel_rfl) (fun _ _ _ h => h) (Or.inl ⟨by rfl, ?_⟩) hHeld ?_
              rotate_left
              · (intro W hSw; (try dsimp only at hSw); (try simp only [List.getElem_toArray, List.getElem_cons_succ, List.getElem_cons_zero]); go_simp; try with_reducible rfl)
              try simp only [Act.put, List.getElem_toArray, List.getElem_cons_succ, List.getElem_cons_zero, List.setIfInBounds_toArray, List.set_cons_zero, List.set_cons_succ]
              refine wpAnyH_take (i := 1) (v := ?_) rfl (by kernel_rfl) (by kernel_rfl) (by kernel_rfl) (fun _ _ _ h => h) (Or.inl ⟨by rfl, ?_⟩) hHeld ?_
              rotate_left
              · (intro W hSw; (try dsimp only at hSw); (try simp only [List.getElem_toArray, List.getElem_cons_succ, List.getElem_cons_zero]); go_simp; try with_reducible rfl)
              try simp only [Act.put, List.getElem_toArray, List.getElem_cons_succ, List.getElem_cons_zero, List.setIfInBounds_toArray, List.set_cons_zero, List.set_cons_succ]
              refine wpAnyH_ready (rs := [2]) (by kernel_rfl) (by simp) (AllReadyH.cons rfl (fun K hK => ?_) AllReadyH.nil)
              have h0 := hHeld
              clear hHeld
              try simp only [List.getElem_toArray, List.getElem_cons_succ, List.getElem_cons_zero]
              go_simp
              go_at_call 41
              refine HCAR.out.mono ?_
              rintro e w7 ⟨v', m, rfl, hown7, hg7, hown8, hm16, hTm, hm2⟩
              rw [HLL.out] at hm16 hm2
              rw [HLD.out] at hown7 hTm hm2
              have hm : m = 16 := by
                rcases hm2 with h2 | h2
                · exact h2
                · have h3 := HQ2.out
                  apply Nat.le_antisymm _ hm16
                  apply Nat.le_of_not_lt
                  intro hlt
                  have h4 : 65536 ^ 16 ≤ 65536 ^ (m - 1) := Nat.pow_le_pow_right (by omega) (by omega)
                  omega
              subst hm
              obtain ⟨A7, n7, c7, rfl, hU7, _⟩ := hown7.form
              have hl7 := hU7.len
              rw [dgl_len] at hl7
              subst hl7
              have h1 := h0.grow hg7 (by simp) (by simp <;> omega) (by intro g h; injection h with h; omega)
              have kz7 := KZ.out.grown hg7 (by intro e; injection e with e; omega)
              have HU7 := Lib.hid hU7
              have KZ7 := Lib.hid kz7
              clear hown7 hg7 hown8 hTm hm2 hm16 h0 kz7 hU7 KZ HCAR
              go_wp2_with (fail)
              refine hK.out _ _ h1 (fun hHeld => ?_)
              clear hK K h1
              try simp only [Act.put, List.getElem_toArray, List.getElem_cons_succ, List.getElem_cons_zero, List.setIfInBounds_toArray, List.set_cons_zero, List.set_cons_succ]
              obtain ⟨ad, had⟩ : ∃ ad, A7 = some ad := by obtain ⟨b, o, e, _⟩ := HU7.out.at_ (by omega); exact ⟨_, e⟩
              subst had
              have hz7 : w7.heap[gn]? = some (.cells (ds t1).toList.toArray 32 (0, 0)) := by rw [Array.toArray_toList]; exact KZ7.out
              have hgn7 := KZ7.out.lt
              refine wpAnyH_ready (rs := [3]) (by kernel_rfl) (by simp) (AllReadyH.cons rfl (fun K hK => ?_) AllReadyH.nil)
              have h0 := hHeld
              clear hHeld
              refine step_copy_splice rfl (.tmp 81) (.tmp 83) 61 61 rfl 24 Tryd.underlying61 (by kernel_rfl) (some ⟨gn, 0, none⟩) (some ad) 16 16 16 c7 rfl rfl gn 0 (ds t1).toList 32 hz7 ((dgl (t1 + 19 * (h / 32768)) 16).map (nc .u64)) (by simp [dgl_len]) (fun _ => ⟨rfl, ad, rfl, us_cells HU7.out ad rfl⟩) (by simp [ds_size, dgl_len]) (nc_all _) gn w7 (Below.refl _ w7) (Nat.le_refl _) ?_
              intro w8 hg8 hb8
              have hk8 : Blk w8 gn 32 (ds (t1 + 19 * (h / 32768))) := by have := hg8.out; rw [splice_ds] at this; exact this
              have HK8 := Lib.hid hk8
              refine hK.out _ _ (h0.keep hb8 (by omega) (by simp) (by simp <;> omega)) (fun hHeld => ?_)
              clear hK K h0 hk8 hg8 hb8
              try simp only [Act.put, List.getElem_toArray, List.getElem_cons_succ, List.getElem_cons_zero, List.setIfInBounds_toArray, List.set_cons_zero, List.set_cons_succ]
              refine wpAnyH_done (by kernel_rfl) ?_ _
              have hF8 := hHeld.more HK8.out
              have HF8 := Lib.hid hF8
              clear hHeld hF8
              have hr8 := read_ds HK8.out HQ2.out
              have HR8 := Lib.hid hr8
              clear hr8
              go_wp2_with (fail)
              refine ⟨?_, ?measure⟩
              · (repeat apply Exists.intro)
                refine ⟨?rel, rfl⟩
                exact ⟨t1 + 19 * (h / 32768), HQ2.out, by rw [HQ3.out, HV4.out], HF8.out⟩
              case measure =>
                show readU w8 _ < readU wr _
                rw [HR8.out, HRT.out]
                exact HQ4.out
            · have ht255 : t < 57896044618658097711785492504343953926634992332820282019728792003956564819968 := by
                have h1 := HH.out
                have h2 := HT4.out
                have e : (65536 : Nat) ^ 15 = 1766847064778384329583297500742918515827483896875618958121606201292619776 := by decide
                rw [e] at h1
                omega
              have HT5 := Lib.hid ht255
              clear ht255
              have hnb : decide ((32767 : Int) < (h : Int)) = false := decide_eq_false (by omega)
              go_wp2_with (fail)
              have hPl : PP < 115792089237316195423570985008687907853269984665640564039457584007913129639936 := by rw [PP_eq]; omega
              have htl := HT4.out
              rw [d16] at htl
              have hless := fun W => rless_any t PP W htl hPl
              have HPL := Lib.hid hPl
              have HTL := Lib.hid htl
              by_cases hc : t < PP
              · rw [decide_eq_true hc] at hless
                have htv := HV4.out
                rw [Nat.mod_eq_of_lt hc] at htv
                have hlv := hless
                have HLESS := Lib.hid hless
                have HTV := Lib.hid htv
                clear hless hlv htv hPl htl
                refine wp_region_held_drew (S := fun W => Fr w W [(gn, 32, ds t)] [(w.heap.size, 32, 16)]) (by kernel_rfl) ?_ (fun hHeld => ?_)
                · exact HF.out.drew
                refine wpAnyH_take (i := 0) (v := .agg (ds t)) rfl (by kernel_rfl) (by kernel_rfl) (by kernel_rfl) (fun _ _ _ h => h) (yields_row (by rfl) 32 (.tmp 5) rfl (gn) rfl 32 (ds t) _ (fun W (h : Fr _ W _ _) => h.get (by simp)) Tryd.underlying32 rfl (info_ds _)) hHeld ?_
                try simp only [Act.put, List.getElem_toArray, List.getElem_cons_succ, List.getElem_cons_zero, List.setIfInBounds_toArray, List.set_cons_zero, List.set_cons_succ]
                refine wpAnyH_ready (rs := [1]) (by kernel_rfl) (by simp) (AllReadyH.cons rfl (fun K hK => ?_) AllReadyH.nil)
                have h0 := hHeld
                clear hHeld
                try simp only [List.getElem_toArray, List.getElem_cons_succ, List.getElem_cons_zero]
                have H0 := Lib.hid h0
                clear h0
                go_simp
                go_at_call 42
                refine (rprime_any _).mono ?_
                rintro e vv ⟨rfl, hb⟩
                have h1 := H0.out.ext hb
                clear hb H0
                go_wp2_with (fail)
                refine hK.out _ _ h1 (fun hHeld => ?_)
                clear hK K h1
                try simp only [Act.put, List.getElem_toArray, List.getElem_cons_succ, List.getElem_cons_zero, List.setIfInBounds_toArray, List.set_cons_zero, List.set_cons_succ]
                refine wpAnyH_ready (rs := [2]) (by kernel_rfl) (by simp) (AllReadyH.cons rfl (fun K hK => ?_) AllReadyH.nil)
                have h0 := hHeld
                clear hHeld
                try simp only [List.getElem_toArray, List.getElem_cons_succ, List.getElem_cons_zero]
                have H0 := Lib.hid h0
                clear h0
                go_simp
                go_at_call 48
                refine (HLESS.out _).mono ?_
                rintro e vv ⟨rfl, hb⟩
                have h1 := H0.out.ext hb
                clear hb H0
                go_wp2_with (fail)
                refine hK.out _ _ h1 (fun hHeld => ?_)
                clear hK K h1
                try simp only [Act.put, List.getElem_toArray, List.getElem_cons_succ, List.getElem_cons_zero, List.setIfInBounds_toArray, List.set_cons_zero, List.set_cons_succ]
                refine wpAnyH_take (i := 3) (v := ?_) rfl (by kernel_rfl) (by kernel_rfl) (by kernel_rfl) (fun _ _ _ h => h) (Or.inl ⟨by rfl, ?_⟩) hHeld ?_
                rotate_left
                · (intro W hSw; (try dsimp only at hSw); (try simp only [List.getElem_toArray, List.getElem_cons_succ, List.getElem_cons_zero]); go_simp; try with_reducible rfl)
                try simp only [Act.put, List.getElem_toArray, List.getElem_cons_succ, List.getElem_cons_zero, List.setIfInBounds_toArray, List.set_cons_zero, List.set_cons_succ]
                refine wpAnyH_done (by kernel_rfl) ?_ _
                have HFF := Lib.hid hHeld
                clear hHeld
                have hfv := HFF.out
                rw [HTV.out] at hfv
                clear HFF
                have HFF := Lib.hid hfv
                clear hfv
                obtain ⟨old, hold, kR⟩ := HFF.out.old (g := w.heap.size) (t := 32) (n := 16) (by simp)
                have kT := HFF.out.get (g := gn) (t := 32) (cs := ds V) (by simp)
                have kS := kR.setRow_same (ds V)
                have hB2 := below_setRow HFF.out.below (Nat.le_refl _) (ds V)
                have hold' : old.size = (ds V).size := by rw [hold, ds_size]
                have HS := Lib.hid kS
                have HB2 := Lib.hid hB2
                have HO := Lib.hid hold'
                clear kS hB2 hold hold'
                go_wp2_with (first | (refine wpList_load_row rfl 32 (.tmp 5) rfl gn rfl 32 (ds V) (0, 0) _ kT Tryd.underlying32 rfl (info_ds _) ?_) | (refine wpList_store_row rfl 32 (.tmp 2) (.tmp 92) rfl (w.heap.size) (ds V) rfl rfl 32 old kR (info_ds _) HO.out (ds_one _) ?_))
                exact bodyPost_ret (results_cell_row rfl _ _ (w.heap.size) 32 (ds V) (0, 0) _ rfl HS.out Tryd.underlying32 rfl (info_ds _)) rfl ⟨rfl, HB2.out⟩
              · rw [decide_eq_false hc] at hless
                have htv : t - PP = V := by rw [← HV4.out, Nat.mod_eq_sub_mod (by omega), Nat.mod_eq_of_lt (by have := HT5.out; rw [PP_eq] at hc ⊢; omega)]
                have HLESS := Lib.hid hless
                have HTV := Lib.hid htv
                have hmin := fun W => rminus_any t PP W HTL.out (by omega)
                rw [htv] at hmin
                have HMIN := Lib.hid hmin
                clear hless htv hPl htl hmin
                refine wp_region_held_drew (S := fun W => Fr w W [(gn, 32, ds t)] [(w.heap.size, 32, 16)]) (by kernel_rfl) ?_ (fun hHeld => ?_)
                · exact HF.out.drew
                refine wpAnyH_take (i := 0) (v := .agg (ds t)) rfl (by kernel_rfl) (by kernel_rfl) (by kernel_rfl) (fun _ _ _ h => h) (yields_row (by rfl) 32 (.tmp 5) rfl (gn) rfl 32 (ds t) _ (fun W (h : Fr _ W _ _) => h.get (by simp)) Tryd.underlying32 rfl (info_ds _)) hHeld ?_
                try simp only [Act.put, List.getElem_toArray, List.getElem_cons_succ, List.getElem_cons_zero, List.setIfInBounds_toArray, List.set_cons_zero, List.set_cons_succ]
                refine wpAnyH_ready (rs := [1]) (by kernel_rfl) (by simp) (AllReadyH.cons rfl (fun K hK => ?_) AllReadyH.nil)
                have h0 := hHeld
                clear hHeld
                try simp only [List.getElem_toArray, List.getElem_cons_succ, List.getElem_cons_zero]
                have H0 := Lib.hid h0
                clear h0
                go_simp
                go_at_call 42
                refine (rprime_any _).mono ?_
                rintro e vv ⟨rfl, hb⟩
                have h1 := H0.out.ext hb
                clear hb H0
                go_wp2_with (fail)
                refine hK.out _ _ h1 (fun hHeld => ?_)
                clear hK K h1
                try simp only [Act.put, List.getElem_toArray, List.getElem_cons_succ, List.getElem_cons_zero, List.setIfInBounds_toArray, List.set_cons_zero, List.set_cons_succ]
                refine wpAnyH_ready (rs := [2]) (by kernel_rfl) (by simp) (AllReadyH.cons rfl (fun K hK => ?_) AllReadyH.nil)
                have h0 := hHeld
                clear hHeld
                try simp only [List.getElem_toArray, List.getElem_cons_succ, List.getElem_cons_zero]
                have H0 := Lib.hid h0
                clear h0
                go_simp
                go_at_call 48
                refine (HLESS.out _).mono ?_
                rintro e vv ⟨rfl, hb⟩
                have h1 := H0.out.ext hb
                clear hb H0
                go_wp2_with (fail)
                refine hK.out _ _ h1 (fun hHeld => ?_)
                clear hK K h1
                try simp only [Act.put, List.getElem_toArray, List.getElem_cons_succ, List.getElem_cons_zero, List.setIfInBounds_toArray, List.set_cons_zero, List.set_cons_succ]
                refine wpAnyH_take (i := 3) (v := ?_) rfl (by kernel_rfl) (by kernel_rfl) (by kernel_rfl) (fun _ _ _ h => h) (Or.inl ⟨by rfl, ?_⟩) hHeld ?_
                rotate_left
                · (intro W hSw; (try dsimp only at hSw); (try simp only [List.getElem_toArray, List.getElem_cons_succ, List.getElem_cons_zero]); go_simp; try with_reducible rfl)
                try simp only [Act.put, List.getElem_toArray, List.getElem_cons_succ, List.getElem_cons_zero, List.setIfInBounds_toArray, List.set_cons_zero, List.set_cons_succ]
                refine wpAnyH_done (by kernel_rfl) ?_ _
                have HFF := Lib.hid hHeld
                clear hHeld
                go_wp2_with (fail)
                have kz := HFF.out.get (g := gn) (t := 32) (cs := ds t) (by simp)
                have hS2 := HFF.out.sub (L' := []) (R' := [(w.heap.size, 32, 16)]) (by simp) (by simp)
                have KZ := Lib.hid kz.drew
                have HS2 := Lib.hid hS2
                clear kz hS2 HFF
                refine wp_region_held_drew (S := fun W => Fr w W [] [(w.heap.size, 32, 16)]) (by kernel_rfl) ?_ (fun hHeld => ?_)
                · exact HS2.out.drew
                refine wpAnyH_ready (rs := [0, 1]) (by kernel_rfl) (by simp) (AllReadyH.cons rfl (fun K hK => ?_) (AllReadyH.cons rfl (fun K hK => ?_) AllReadyH.nil))
                · have h0 := hHeld
                  clear hHeld
                  try simp only [List.getElem_toArray, List.getElem_cons_succ, List.getElem_cons_zero]
                  rw [if_pos (by rfl)]
                  refine wp_load_row 32 (.tmp 5) rfl (gn) rfl 32 (ds t) (0, 0) _ KZ.out Tryd.underlying32 rfl (info_ds _) ?_
                  refine hK.out _ _ h0 (fun hHeld => ?_)
                  clear hK K h0
                  try simp only [Act.put, List.getElem_toArray, List.getElem_cons_succ, List.getElem_cons_zero, List.setIfInBounds_toArray, List.set_cons_zero, List.set_cons_succ]
                  refine wpAnyH_ready (rs := [1]) (by kernel_rfl) (by simp) (AllReadyH.cons rfl (fun K hK => ?_) AllReadyH.nil)
                  have h0 := hHeld
                  clear hHeld
                  try simp only [List.getElem_toArray, List.getElem_cons_succ, List.getElem_cons_zero]
                  have H0 := Lib.hid h0
                  clear h0
                  go_simp
                  go_at_call 42
                  refine (rprime_any _).mono ?_
                  rintro e vv ⟨rfl, hb⟩
                  have kz := KZ.out.below hb KZ.out.lt
                  clear KZ
                  have KZ := Lib.hid kz
                  clear kz
                  have h1 := H0.out.ext hb
                  clear hb H0
                  go_wp2_with (fail)
                  refine hK.out _ _ h1 (fun hHeld => ?_)
                  clear hK K h1
                  try simp only [Act.put, List.getElem_toArray, List.getElem_cons_succ, List.getElem_cons_zero, List.setIfInBounds_toArray, List.set_cons_zero, List.set_cons_succ]
                  refine wpAnyH_ready (rs := [2]) (by kernel_rfl) (by simp) (AllReadyH.cons rfl (fun K hK => ?_) AllReadyH.nil)
                  have h0 := hHeld
                  clear hHeld
                  try simp only [List.getElem_toArray, List.getElem_cons_succ, List.getElem_cons_zero]
                  have H0 := Lib.hid h0
                  clear h0
                  go_simp
                  go_at_call 44
                  refine (HMIN.out _).mono ?_
                  rintro e vv ⟨rfl, hb⟩
                  have kz := KZ.out.below hb KZ.out.lt
                  clear KZ
                  have KZ := Lib.hid kz
                  clear kz
                  have h1 := H0.out.ext hb
                  clear hb H0
                  go_wp2_with (fail)
                  refine hK.out _ _ h1 (fun hHeld => ?_)
                  clear hK K h1
                  try simp only [Act.put, List.getElem_toArray, List.getElem_cons_succ, List.getElem_cons_zero, List.setIfInBounds_toArray, List.set_cons_zero, List.set_cons_succ]
                  refine wpAnyH_ready (rs := [3]) (by kernel_rfl) (by simp) (AllReadyH.cons rfl (fun K hK => ?_) AllReadyH.nil)
                  have h0 := hHeld
                  clear hHeld
                  try simp only [List.getElem_toArray, List.getElem_cons_succ, List.getElem_cons_zero]
                  rw [if_pos (by rfl)]
                  refine wp_store_row 32 (.tmp 5) (.tmp 91) rfl (gn) (ds V) rfl rfl 32 _ KZ.out (info_ds _) (by rw [ds_size, ds_size]) (ds_one _) ?_
                  refine hK.out _ _ (Fr.setOut h0 (g := gn) (by omega) (by simp <;> omega) (by simp <;> omega) _) (fun hHeld => ?_)
                  have kb := KZ.out.setRow_same (ds V)
                  clear hK K h0
                  try simp only [Act.put, List.getElem_toArray, List.getElem_cons_succ, List.getElem_cons_zero, List.setIfInBounds_toArray, List.set_cons_zero, List.set_cons_succ]
                  refine wpAnyH_done (by kernel_rfl) ?_ _
                  have hff := hHeld.more kb
                  have HFF := Lib.hid hff
                  clear hHeld hff kb
                  obtain ⟨old, hold, kR⟩ := HFF.out.old (g := w.heap.size) (t := 32) (n := 16) (by simp)
                  have kT := HFF.out.get (g := gn) (t := 32) (cs := ds V) (by simp)
                  have kS := kR.setRow_same (ds V)
                  have hB2 := below_setRow HFF.out.below (Nat.le_refl _) (ds V)
                  have hold' : old.size = (ds V).size := by rw [hold, ds_size]
                  have HS := Lib.hid kS
                  have HB2 := Lib.hid hB2
                  have HO := Lib.hid hold'
                  clear kS hB2 hold hold'
                  go_wp2_with (first | (refine wpList_load_row rfl 32 (.tmp 5) rfl gn rfl 32 (ds V) (0, 0) _ kT Tryd.underlying32 rfl (info_ds _) ?_) | (refine wpList_store_row rfl 32 (.tmp 2) (.tmp 92) rfl (w.heap.size) (ds V) rfl rfl 32 old kR (info_ds _) HO.out (ds_one _) ?_))
                  exact bodyPost_ret (results_cell_row rfl _ _ (w.heap.size) 32 (ds V) (0, 0) _ rfl HS.out Tryd.underlying32 rfl (info_ds _)) rfl ⟨rfl, HB2.out⟩
                · have h0 := hHeld
                  clear hHeld
                  try simp only [List.getElem_toArray, List.getElem_cons_succ, List.getElem_cons_zero]
                  have H0 := Lib.hid h0
                  clear h0
                  go_simp
                  go_at_call 42
                  refine (rprime_any _).mono ?_
                  rintro e vv ⟨rfl, hb⟩
                  have kz := KZ.out.below hb KZ.out.lt
                  clear KZ
                  have KZ := Lib.hid kz
                  clear kz
                  have h1 := H0.out.ext hb
                  clear hb H0
                  go_wp2_with (fail)
                  refine hK.out _ _ h1 (fun hHeld => ?_)
                  clear hK K h1
                  try simp only [Act.put, List.getElem_toArray, List.getElem_cons_succ, List.getElem_cons_zero, List.setIfInBounds_toArray, List.set_cons_zero, List.set_cons_succ]
                  refine wpAnyH_ready (rs := [0]) (by kernel_rfl) (by simp) (AllReadyH.cons rfl (fun K hK => ?_) AllReadyH.nil)
                  have h0 := hHeld
                  clear hHeld
                  try simp only [List.getElem_toArray, List.getElem_cons_succ, List.getElem_cons_zero]
                  rw [if_pos (by rfl)]
                  refine wp_load_row 32 (.tmp 5) rfl (gn) rfl 32 (ds t) (0, 0) _ KZ.out Tryd.underlying32 rfl (info_ds _) ?_
                  refine hK.out _ _ h0 (fun hHeld => ?_)
                  clear hK K h0
                  try simp only [Act.put, List.getElem_toArray, List.getElem_cons_succ, List.getElem_cons_zero, List.setIfInBounds_toArray, List.set_cons_zero, List.set_cons_succ]
                  refine wpAnyH_ready (rs := [2]) (by kernel_rfl) (by simp) (AllReadyH.cons rfl (fun K hK => ?_) AllReadyH.nil)
                  have h0 := hHeld
                  clear hHeld
                  try simp only [List.getElem_toArray, List.getElem_cons_succ, List.getElem_cons_zero]
                  have H0 := Lib.hid h0
                  clear h0
                  go_simp
                  go_at_call 44
                  refine (HMIN.out _).mono ?_
                  rintro e vv ⟨rfl, hb⟩
                  have kz := KZ.out.below hb KZ.out.lt
                  clear KZ
                  have KZ := Lib.hid kz
                  clear kz
                  have h1 := H0.out.ext hb
                  clear hb H0
                  go_wp2_with (fail)
                  refine hK.out _ _ h1 (fun hHeld => ?_)
                  clear hK K h1
                  try simp only [Act.put, List.getElem_toArray, List.getElem_cons_succ, List.getElem_cons_zero, List.setIfInBounds_toArray, List.set_cons_zero, List.set_cons_succ]
                  refine wpAnyH_ready (rs := [3]) (by kernel_rfl) (by simp) (AllReadyH.cons rfl (fun K hK => ?_) AllReadyH.nil)
                  have h0 := hHeld
                  clear hHeld
                  try simp only [List.getElem_toArray, List.getElem_cons_succ, List.getElem_cons_zero]
                  rw [if_pos (by rfl)]
                  refine wp_store_row 32 (.tmp 5) (.tmp 91) rfl (gn) (ds V) rfl rfl 32 _ KZ.out (info_ds _) (by rw [ds_size, ds_size]) (ds_one _) ?_
                  refine hK.out _ _ (Fr.setOut h0 (g := gn) (by omega) (by simp <;> omega) (by simp <;> omega) _) (fun hHeld => ?_)
                  have kb := KZ.out.setRow_same (ds V)
                  clear hK K h0
                  try simp only [Act.put, List.getElem_toArray, List.getElem_cons_succ, List.getElem_cons_zero, List.setIfInBounds_toArray, List.set_cons_zero, List.set_cons_succ]
                  refine wpAnyH_done (by kernel_rfl) ?_ _
                  have hff := hHeld.more kb
                  have HFF := Lib.hid hff
                  clear hHeld hff kb
                  obtain ⟨old, hold, kR⟩ := HFF.out.old (g := w.heap.size) (t := 32) (n := 16) (by simp)
                  have kT := HFF.out.get (g := gn) (t := 32) (cs := ds V) (by simp)
                  have kS := kR.setRow_same (ds V)
                  have hB2 := below_setRow HFF.out.below (Nat.le_refl _) (ds V)
                  have hold' : old.size = (ds V).size := by rw [hold, ds_size]
                  have HS := Lib.hid kS
                  have HB2 := Lib.hid hB2
                  have HO := Lib.hid hold'
                  clear kS hB2 hold hold'
                  go_wp2_with (first | (refine wpList_load_row rfl 32 (.tmp 5) rfl gn rfl 32 (ds V) (0, 0) _ kT Tryd.underlying32 rfl (info_ds _) ?_) | (refine wpList_store_row rfl 32 (.tmp 2) (.tmp 92) rfl (w.heap.size) (ds V) rfl rfl 32 old kR (info_ds _) HO.out (ds_one _) ?_))
                  exact bodyPost_ret (results_cell_row rfl _ _ (w.heap.size) 32 (ds V) (0, 0) _ rfl HS.out Tryd.underlying32 rfl (info_ds _)) rfl ⟨rfl, HB2.out⟩
end Go.Proofs.YtnfckoamjeafhaaDoor
