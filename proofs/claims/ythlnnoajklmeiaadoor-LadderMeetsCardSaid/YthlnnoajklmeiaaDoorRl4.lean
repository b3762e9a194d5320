/- The document's ladder. -/
import Derived.Test.YthlnnoajklmeiaaDoorLy
import Derived.Test.YthlnnoajklmeiaaDoorRz
import Derived.Deep.DeepCutAuto
import Derived.Deep.CutBlock
namespace Go.Proofs.YthlnnoajklmeiaaDoor
set_option linter.unusedVariables false
set_option linter.unusedSimpArgs false
open Go Go.RowKit

theorem addE {x y z : Fin PP} (h : z = x + y) (w : World) : Calls Tryd.prog 18 #[.agg (dv x), .agg (dv y)] w (DPost z w) := addD' h w
theorem bit_value {K i x : Nat} (hx : x = K / 256 ^ (i / 8) % 256) : (((x : Int) / 2 ^ (i % 8)).tmod 2 == 1) = bitB K i := by
  rw [tmod_bit, hx, bit_at]
  unfold bitB
  generalize K / 2 ^ i % 2 = m
  rw [Bool.eq_iff_iff]
  simp
  omega
theorem dbl_comm (u e q : Fin PP) : e * (u + q * e) = e * (u + e * q) := by rw [fq_mul_comm q e]
theorem dv_lit : dv 0 = #[.int .u64 0, .int .u64 0, .int .u64 0, .int .u64 0, .int .u64 0, .int .u64 0, .int .u64 0, .int .u64 0, .int .u64 0, .int .u64 0, .int .u64 0, .int .u64 0, .int .u64 0, .int .u64 0, .int .u64 0, .int .u64 0] := ds_zero
theorem frZ {wc W : World} {L : List (Nat × TypeId × Array Value)} (h : Fn wc W L) : Blk (W.alloc (.cells #[.int .u64 0, .int .u64 0, .int .u64 0, .int .u64 0, .int .u64 0, .int .u64 0, .int .u64 0, .int .u64 0, .int .u64 0, .int .u64 0, .int .u64 0, .int .u64 0, .int .u64 0, .int .u64 0, .int .u64 0, .int .u64 0] 35)) W.heap.size 35 #[.int .u64 0, .int .u64 0, .int .u64 0, .int .u64 0, .int .u64 0, .int .u64 0, .int .u64 0, .int .u64 0, .int .u64 0, .int .u64 0, .int .u64 0, .int .u64 0, .int .u64 0, .int .u64 0, .int .u64 0, .int .u64 0] ∧ wc.heap.size ≤ W.heap.size := Fn.fresh h 35 _
theorem alZ {W : World} {g : Nat} {t : TypeId} {cs : Array Value} (h : Blk W g t cs) : Blk (W.alloc (.cells #[.int .u64 0, .int .u64 0, .int .u64 0, .int .u64 0, .int .u64 0, .int .u64 0, .int .u64 0, .int .u64 0, .int .u64 0, .int .u64 0, .int .u64 0, .int .u64 0, .int .u64 0, .int .u64 0, .int .u64 0, .int .u64 0] 35)) g t cs := h.alloc _
open List renaming getElem_toArray → e1, getElem_cons_succ → e2, getElem_cons_zero → e3, setIfInBounds_toArray → e4, set_cons_zero → e5, set_cons_succ → e6
attribute [local irreducible] lad lgo dv
set_option maxRecDepth 100000 in
set_option maxHeartbeats 16000000 in
theorem r4mul_any {k n : Nat} {y : Fin PP} (hy0 : y = lad Q0 (clampN k) (ofK n)) (w : World) (hk : k < 115792089237316195423570985008687907853269984665640564039457584007913129639936) (hn : n < 115792089237316195423570985008687907853269984665640564039457584007913129639936) : Calls Tryd.prog 7 #[.agg (ks k),.agg (ks n)] w (KeyPost y.val w) := by
 obtain ⟨K,hK⟩ : ∃ K,K = clampN k := ⟨_,rfl⟩
 obtain ⟨x,hx⟩ : ∃ x,x = ofK n := ⟨_,rfl⟩
 rw [← hK,← hx] at hy0
 have hcl := fun W => rclamp_any k W
 rw [← hK] at hcl
 obtain ⟨z,hz⟩ : ∃ z,z = n / 256 ^ 31 % 256 := ⟨_,rfl⟩
 have hzl : z < 256 := by rw [hz]; exact Nat.mod_lt _ (by omega)
 have hrow := ks_top hn hz
 obtain ⟨n2,hn2⟩ : ∃ m,m = n % 57896044618658097711785492504343953926634992332820282019728792003956564819968 := ⟨_,rfl⟩
 rw [← hn2] at hrow
 have hnl : n2 < 57896044618658097711785492504343953926634992332820282019728792003956564819968 := by rw [hn2]; exact Nat.mod_lt _ (by omega)
 have hx2 : x = ofK n2 := by rw [hx,hn2]; unfold ofK; rw [Nat.mod_mod]
 have hof := fun W => rof_any n2 W (by omega)
 have hnum := fun W => numD hnl hx2 W
 rw [ds_zero] at hnum
 have c31 : (ks n)[31]? = some (.int .u8 (z : Int)) := by rw [ks_get _ (by omega),hz]
 have hfr := (((Fr.start w).row (ks k) 23 (g := w.heap.size) rfl).row (ks n) 23 (g := w.heap.size + 1) (by simp)).any (ks 0) 23 32 (ks_size 0) (g := w.heap.size + 1 + 1) (by simp)
 rw [ks_zero] at hfr
 have k0 := hfr.get (g := w.heap.size) (t := 23) (cs := ks k) (by simp)
 have HY0 := Lib.hid hy0
 have HCL := Lib.hid hcl
 have HROW := Lib.hid hrow
 have HOF := Lib.hid hof
 have HNUM := Lib.hid hnum
 have C31 := Lib.hid c31
 have HF := Lib.hid hfr
 have K0 := Lib.hid k0
 clear hy0 hcl hrow hof hnum c31 hfr k0 hx2 hnl hn2 hz hx hK hn hk
 go_enter Tryd.func7,Tryd.ntmps7
 go_wp2_with (first | (refine wpList_load_row rfl 23 (.tmp 2) rfl (w.heap.size) rfl 23 (ks k) (0,0) _ K0.out Tryd.underlying23 rfl (info_ks _) ?_))
 clear K0
 refine (HCL.out _).mono ?_
 rintro e v1 ⟨rfl,hb⟩
 have hf := HF.out.ext hb
 have ka : Blk (v1.alloc (.cells #[.int .u8 0,.int .u8 0,.int .u8 0,.int .u8 0,.int .u8 0,.int .u8 0,.int .u8 0,.int .u8 0,.int .u8 0,.int .u8 0,.int .u8 0,.int .u8 0,.int .u8 0,.int .u8 0,.int .u8 0,.int .u8 0,.int .u8 0,.int .u8 0,.int .u8 0,.int .u8 0,.int .u8 0,.int .u8 0,.int .u8 0,.int .u8 0,.int .u8 0,.int .u8 0,.int .u8 0,.int .u8 0,.int .u8 0,.int .u8 0,.int .u8 0,.int .u8 0] 23)) v1.heap.size 23 #[.int .u8 0,.int .u8 0,.int .u8 0,.int .u8 0,.int .u8 0,.int .u8 0,.int .u8 0,.int .u8 0,.int .u8 0,.int .u8 0,.int .u8 0,.int .u8 0,.int .u8 0,.int .u8 0,.int .u8 0,.int .u8 0,.int .u8 0,.int .u8 0,.int .u8 0,.int .u8 0,.int .u8 0,.int .u8 0,.int .u8 0,.int .u8 0,.int .u8 0,.int .u8 0,.int .u8 0,.int .u8 0,.int .u8 0,.int .u8 0,.int .u8 0,.int .u8 0] := Blk.new _ _ _
 have kc := ka.setRow_same (ks K)
 have hf3 := ((hf.pass (.cells #[.int .u8 0,.int .u8 0,.int .u8 0,.int .u8 0,.int .u8 0,.int .u8 0,.int .u8 0,.int .u8 0,.int .u8 0,.int .u8 0,.int .u8 0,.int .u8 0,.int .u8 0,.int .u8 0,.int .u8 0,.int .u8 0,.int .u8 0,.int .u8 0,.int .u8 0,.int .u8 0,.int .u8 0,.int .u8 0,.int .u8 0,.int .u8 0,.int .u8 0,.int .u8 0,.int .u8 0,.int .u8 0,.int .u8 0,.int .u8 0,.int .u8 0,.int .u8 0] 23)).setOut (g := v1.heap.size) (by have := hf.size; omega) (by intro p hp; exact Nat.ne_of_lt (hf.rows p hp).lt) (by intro p hp; obtain ⟨cs,_,k⟩ := hf.some_ p hp; exact Nat.ne_of_lt k.lt) (ks K)).more kc
 have hsz : (#[.int .u8 0,.int .u8 0,.int .u8 0,.int .u8 0,.int .u8 0,.int .u8 0,.int .u8 0,.int .u8 0,.int .u8 0,.int .u8 0,.int .u8 0,.int .u8 0,.int .u8 0,.int .u8 0,.int .u8 0,.int .u8 0,.int .u8 0,.int .u8 0,.int .u8 0,.int .u8 0,.int .u8 0,.int .u8 0,.int .u8 0,.int .u8 0,.int .u8 0,.int .u8 0,.int .u8 0,.int .u8 0,.int .u8 0,.int .u8 0,.int .u8 0,.int .u8 0] : Array Value).size = (ks K).size := by rw [ks_size]; rfl
 have hszw := hb.size
 have KA := Lib.hid ka
 have HSZ := Lib.hid hsz
 have HF4 := Lib.hid hf3
 clear hb hf kc ka hf3 HF hsz
 go_upto_region 2 with (first | (refine wpList_store_row rfl 23 (.tmp 5) (.tmp 24) rfl (v1.heap.size) (ks K) rfl rfl 23 _ KA.out (info_ks _) HSZ.out (ks_one _) ?_))
 obtain ⟨g5,h_gn⟩ : ∃ g,g = v1.heap.size := ⟨_,rfl⟩
 obtain ⟨w1,h_wn⟩ : ∃ z : World,z = (v1.alloc (.cells #[.int .u8 0,.int .u8 0,.int .u8 0,.int .u8 0,.int .u8 0,.int .u8 0,.int .u8 0,.int .u8 0,.int .u8 0,.int .u8 0,.int .u8 0,.int .u8 0,.int .u8 0,.int .u8 0,.int .u8 0,.int .u8 0,.int .u8 0,.int .u8 0,.int .u8 0,.int .u8 0,.int .u8 0,.int .u8 0,.int .u8 0,.int .u8 0,.int .u8 0,.int .u8 0,.int .u8 0,.int .u8 0,.int .u8 0,.int .u8 0,.int .u8 0,.int .u8 0] 23)).setRow v1.heap.size (ks K) := ⟨_,rfl⟩
 have hsz_w1 : w1.heap.size = v1.heap.size + 1 := by rw [h_wn]; simp
 rw [← h_wn] at HF4 ⊢
 rw [← h_gn] at HF4 hszw hsz_w1 ⊢
 clear h_wn h_gn
 have HF := HF4
 clear HF4 KA HSZ
 try simp only [Act.put,e1,e4,e5,e6]
 have hf1 := HF.out.sub (L' := [(w.heap.size + 1,23,ks n),(g5,23,ks K)]) (R' := [(w.heap.size + 1 + 1,23,32)]) (by simp) (by simp)
 have k1 := hf1.get (g := w.heap.size + 1) (t := 23) (cs := ks n) (by simp)
 have q31 := k1.cell 31
 rw [C31.out] at q31
 have f31 := k1.frozen 31
 have hg5 : w.heap.size + 1 + 1 < g5 := by have h := hszw; simp at h; omega
 have hf2 := hf1.setHead (by simp <;> omega) (by simp) 31 (.int .u8 ((z : Int) % 128)) (by omega)
 rw [HROW.out] at hf2
 have k2 := hf2.get (g := w.heap.size + 1) (t := 23) (cs := ks n2) (by simp)
 have HF2 := Lib.hid hf2
 clear hf1 k1 hf2 HF
 go_wp2_with (first | (refine wpList_load_row rfl 23 (.tmp 3) rfl (w.heap.size + 1) rfl 23 (ks n2) (0,0) _ k2 Tryd.underlying23 rfl (info_ks _) ?_))
 clear k2 q31 f31
 have HF := HF2
 clear HF2
 refine (HOF.out _).mono ?_
 rintro e v2 ⟨rfl,hb⟩
 have hf := HF.out.ext hb
 have HF4 := Lib.hid hf
 clear hf hb HF
 have HF := HF4
 clear HF4
 go_wp2_with (fail)
 refine (HNUM.out _).mono ?_
 rintro e v3 ⟨rfl,hb⟩
 have hf := HF.out.ext hb
 have ka : Blk (v3.alloc (.cells #[.int .u64 0,.int .u64 0,.int .u64 0,.int .u64 0,.int .u64 0,.int .u64 0,.int .u64 0,.int .u64 0,.int .u64 0,.int .u64 0,.int .u64 0,.int .u64 0,.int .u64 0,.int .u64 0,.int .u64 0,.int .u64 0] 35)) v3.heap.size 35 #[.int .u64 0,.int .u64 0,.int .u64 0,.int .u64 0,.int .u64 0,.int .u64 0,.int .u64 0,.int .u64 0,.int .u64 0,.int .u64 0,.int .u64 0,.int .u64 0,.int .u64 0,.int .u64 0,.int .u64 0,.int .u64 0] := Blk.new _ _ _
 have kc := ka.setRow_same (dv x)
 have hf3 := ((hf.pass (.cells #[.int .u64 0,.int .u64 0,.int .u64 0,.int .u64 0,.int .u64 0,.int .u64 0,.int .u64 0,.int .u64 0,.int .u64 0,.int .u64 0,.int .u64 0,.int .u64 0,.int .u64 0,.int .u64 0,.int .u64 0,.int .u64 0] 35)).setOut (g := v3.heap.size) (by have := hf.size; omega) (by intro p hp; exact Nat.ne_of_lt (hf.rows p hp).lt) (by intro p hp; obtain ⟨cs,_,k⟩ := hf.some_ p hp; exact Nat.ne_of_lt k.lt) (dv x)).more kc
 have hsz : (#[.int .u64 0,.int .u64 0,.int .u64 0,.int .u64 0,.int .u64 0,.int .u64 0,.int .u64 0,.int .u64 0,.int .u64 0,.int .u64 0,.int .u64 0,.int .u64 0,.int .u64 0,.int .u64 0,.int .u64 0,.int .u64 0] : Array Value).size = (dv x).size := by rw [dv_size]; rfl
 have hszw := hb.size
 have KA := Lib.hid ka
 have HSZ := Lib.hid hsz
 have HF4 := Lib.hid hf3
 clear hb hf kc ka hf3 HF hsz
 go_upto_region 4 with (first | (refine wpList_store_row rfl 35 (.tmp 6) (.tmp 32) rfl (v3.heap.size) (dv x) rfl rfl 35 _ KA.out (info_dv _) HSZ.out (dv_one _) ?_))
 obtain ⟨g6,h_gn⟩ : ∃ g,g = v3.heap.size := ⟨_,rfl⟩
 obtain ⟨w3,h_wn⟩ : ∃ z : World,z = (v3.alloc (.cells #[.int .u64 0,.int .u64 0,.int .u64 0,.int .u64 0,.int .u64 0,.int .u64 0,.int .u64 0,.int .u64 0,.int .u64 0,.int .u64 0,.int .u64 0,.int .u64 0,.int .u64 0,.int .u64 0,.int .u64 0,.int .u64 0] 35)).setRow v3.heap.size (dv x) := ⟨_,rfl⟩
 have hsz_w3 : w3.heap.size = v3.heap.size + 1 := by rw [h_wn]; simp
 rw [← h_wn] at HF4 ⊢
 rw [← h_gn] at HF4 hszw hsz_w3 ⊢
 clear h_wn h_gn
 have HF := HF4
 clear HF4 KA HSZ
 try simp only [Act.put,e1,e4,e5,e6]
 go_wp2_with (fail)
 refine (smallD 1 rfl (by omega) _).mono ?_
 rintro e v4 ⟨rfl,hb⟩
 have hf := HF.out.ext hb
 have ka : Blk (v4.alloc (.cells #[.int .u64 0,.int .u64 0,.int .u64 0,.int .u64 0,.int .u64 0,.int .u64 0,.int .u64 0,.int .u64 0,.int .u64 0,.int .u64 0,.int .u64 0,.int .u64 0,.int .u64 0,.int .u64 0,.int .u64 0,.int .u64 0] 35)) v4.heap.size 35 #[.int .u64 0,.int .u64 0,.int .u64 0,.int .u64 0,.int .u64 0,.int .u64 0,.int .u64 0,.int .u64 0,.int .u64 0,.int .u64 0,.int .u64 0,.int .u64 0,.int .u64 0,.int .u64 0,.int .u64 0,.int .u64 0] := Blk.new _ _ _
 have kc := ka.setRow_same (dv (sm 1))
 have hf3 := ((hf.pass (.cells #[.int .u64 0,.int .u64 0,.int .u64 0,.int .u64 0,.int .u64 0,.int .u64 0,.int .u64 0,.int .u64 0,.int .u64 0,.int .u64 0,.int .u64 0,.int .u64 0,.int .u64 0,.int .u64 0,.int .u64 0,.int .u64 0] 35)).setOut (g := v4.heap.size) (by have := hf.size; omega) (by intro p hp; exact Nat.ne_of_lt (hf.rows p hp).lt) (by intro p hp; obtain ⟨cs,_,k⟩ := hf.some_ p hp; exact Nat.ne_of_lt k.lt) (dv (sm 1))).more kc
 have hsz : (#[.int .u64 0,.int .u64 0,.int .u64 0,.int .u64 0,.int .u64 0,.int .u64 0,.int .u64 0,.int .u64 0,.int .u64 0,.int .u64 0,.int .u64 0,.int .u64 0,.int .u64 0,.int .u64 0,.int .u64 0,.int .u64 0] : Array Value).size = (dv (sm 1)).size := by rw [dv_size]; rfl
 have hszw := hb.size
 have KA := Lib.hid ka
 have HSZ := Lib.hid hsz
 have HF4 := Lib.hid hf3
 clear hb hf kc ka hf3 HF hsz
 go_wp2_with (first | (refine wpList_store_row rfl 35 (.tmp 7) (.tmp 33) rfl (v4.heap.size) (dv (sm 1)) rfl rfl 35 _ KA.out (info_dv _) HSZ.out (dv_one _) ?_))
 obtain ⟨g7,h_gn⟩ : ∃ g,g = v4.heap.size := ⟨_,rfl⟩
 obtain ⟨w4,h_wn⟩ : ∃ z : World,z = (v4.alloc (.cells #[.int .u64 0,.int .u64 0,.int .u64 0,.int .u64 0,.int .u64 0,.int .u64 0,.int .u64 0,.int .u64 0,.int .u64 0,.int .u64 0,.int .u64 0,.int .u64 0,.int .u64 0,.int .u64 0,.int .u64 0,.int .u64 0] 35)).setRow v4.heap.size (dv (sm 1)) := ⟨_,rfl⟩
 have hsz_w4 : w4.heap.size = v4.heap.size + 1 := by rw [h_wn]; simp
 rw [← h_wn] at HF4 ⊢
 rw [← h_gn] at HF4 hszw hsz_w4 ⊢
 clear h_wn h_gn
 have HF := HF4
 clear HF4 KA HSZ
 try simp only [Act.put,e1,e4,e5,e6]
 obtain ⟨nb0,hnb0⟩ : ∃ m,m = w4.heap.size := ⟨_,rfl⟩
 have hq5 : g5 < w4.heap.size := (HF.out.get (g := g5) (t := 23) (cs := ks K) (by simp)).lt
 have hq6 : g6 < w4.heap.size := (HF.out.get (g := g6) (t := 35) (cs := dv x) (by simp)).lt
 have hqr : w.heap.size + 1 + 1 < w4.heap.size := by obtain ⟨cs,_,k⟩ := HF.out.old (g := w.heap.size + 1 + 1) (t := 23) (n := 32) (by simp); exact k.lt
 have n6r : g6 ≠ w.heap.size + 1 + 1 := by
  intro e
  obtain ⟨cs,_,kk⟩ := HF.out.old (g := w.heap.size + 1 + 1) (t := 23) (n := 32) (by simp)
  rw [← e] at kk
  exact absurd ((HF.out.get (g := g6) (t := 35) (cs := dv x) (by simp)).inj kk).1 (by decide)
 go_cut [8,9,10,11] (fun s8 s9 s10 s11 wz => ∃ g8 g9 g10 g11 : Nat,s8 = .pointer (some ⟨g8,0,none⟩) ∧ s9 = .pointer (some ⟨g9,0,none⟩) ∧ s10 = .pointer (some ⟨g10,0,none⟩) ∧ s11 = .pointer (some ⟨g11,0,none⟩) ∧ w4.heap.size ≤ g8 ∧ w4.heap.size ≤ g9 ∧ w4.heap.size ≤ g10 ∧ w4.heap.size ≤ g11 ∧ g8 ≠ g9 ∧ g8 ≠ g10 ∧ g8 ≠ g11 ∧ g9 ≠ g10 ∧ g9 ≠ g11 ∧ g10 ≠ g11 ∧ Blk wz g8 35 (dv (sm 1)) ∧ Blk wz g9 35 (dv 0) ∧ Blk wz g10 35 (dv x) ∧ Blk wz g11 35 (dv (sm 1)) ∧ Below w4.heap.size w4 wz)
 case first =>
  as_aux_lemma =>
   have hn := (HF.out.now.sub (L' := [(g7,35,dv (sm 1)),(g6,35,dv x),(g5,23,ks K)]) (by simp))
   have HN := Lib.hid hn
   clear hn
   refine wp_region_held_drew (S := fun W => Fn w4 W [(g7,35,dv (sm 1)),(g6,35,dv x),(g5,23,ks K)]) (by kernel_rfl) ?_ (fun hHeld => ?_)
   ·
    exact HN.out.drew
   refine wpAnyH_take (i := 0) (v := .agg (dv (sm 1))) rfl (by kernel_rfl) (by kernel_rfl) (by kernel_rfl) (fun _ _ _ h => h) (yields_row (by rfl) 35 (.tmp 7) rfl (g7) rfl 35 (dv (sm 1)) _ (fun W (h : Fn _ W _) => h.get (by simp)) Tryd.underlying35 rfl (info_dv _)) hHeld ?_
   try simp only [Act.put,e1,e2,e3,e4,e5,e6]
   refine wpAnyH_take (i := 2) (v := .agg (dv x)) rfl (by kernel_rfl) (by kernel_rfl) (by kernel_rfl) (fun _ _ _ h => h) (yields_row (by rfl) 35 (.tmp 6) rfl (g6) rfl 35 (dv x) _ (fun W (h : Fn _ W _) => h.get (by simp)) Tryd.underlying35 rfl (info_dv _)) hHeld ?_
   try simp only [Act.put,e1,e2,e3,e4,e5,e6]
   refine wpAnyH_take (i := 3) (v := .agg (dv (sm 1))) rfl (by kernel_rfl) (by kernel_rfl) (by kernel_rfl) (fun _ _ _ h => h) (yields_row (by rfl) 35 (.tmp 7) rfl (g7) rfl 35 (dv (sm 1)) _ (fun W (h : Fn _ W _) => h.get (by simp)) Tryd.underlying35 rfl (info_dv _)) hHeld ?_
   try simp only [Act.put,e1,e2,e3,e4,e5,e6]
   refine wpAnyH_take (i := 1) (v := ?_) rfl (by kernel_rfl) (by kernel_rfl) (by kernel_rfl) (fun _ _ _ h => h) (Or.inl ⟨by rfl,?_⟩) hHeld ?_
   rotate_left
   ·
    (intro W hSw; (try dsimp only at hSw); (try simp only [e1,e2,e3]); go_simp; try with_reducible rfl)
   try simp only [Act.put,e1,e2,e3,e4,e5,e6]
   refine wpAnyH_name ?_
   intro ops Q hops hQ
   obtain ⟨fF,hfF⟩ : ∃ f : Value → Value → Value → Value → Array Value,∀ p0 p1 p2 p3,f p0 p1 p2 p3 = #[.agg (ks k),.agg (ks n),.pointer (some ⟨w.heap.size,0,none⟩),.pointer (some ⟨w.heap.size + 1,0,none⟩),.pointer (some ⟨w.heap.size + 1 + 1,0,none⟩),.pointer (some ⟨g5,0,none⟩),.pointer (some ⟨g6,0,none⟩),.pointer (some ⟨g7,0,none⟩),p0,p1,p2,p3,undef,undef,undef,undef,undef,undef,undef,undef,undef,undef,undef,.agg (ks k),.agg (ks K),.pointer (some ⟨w.heap.size + 1,31,none⟩),.int .u8 (z : Int),.int .u8 ((z : Int) % 128),.pointer (some ⟨w.heap.size + 1,31,none⟩),.agg (ks n2),.agg (ds n2),.agg #[.int .u64 0,.int .u64 0,.int .u64 0,.int .u64 0,.int .u64 0,.int .u64 0,.int .u64 0,.int .u64 0,.int .u64 0,.int .u64 0,.int .u64 0,.int .u64 0,.int .u64 0,.int .u64 0,.int .u64 0,.int .u64 0],.agg (dv x),.agg (dv (sm 1)),.agg (dv (sm 1)),.agg #[.int .u64 0,.int .u64 0,.int .u64 0,.int .u64 0,.int .u64 0,.int .u64 0,.int .u64 0,.int .u64 0,.int .u64 0,.int .u64 0,.int .u64 0,.int .u64 0,.int .u64 0,.int .u64 0,.int .u64 0,.int .u64 0],.agg (dv x),.agg (dv (sm 1)),undef,undef,undef,undef,undef,undef,undef,undef,undef,undef,undef,undef,undef,undef,undef,undef,undef,undef,undef,undef,undef,undef,undef,undef,undef,undef,undef,undef,undef,undef,undef,undef,undef,undef,undef,undef,undef,undef,undef,undef,undef,undef,undef,undef,undef,undef,undef,undef,undef,undef,undef,undef,undef,undef,undef,undef,undef,undef,undef,undef,undef,undef,undef,undef,undef,undef,undef,undef,undef,undef,undef,undef,undef,undef,undef,undef,undef,undef] := ⟨_,fun _ _ _ _ => rfl⟩
   have st0_4567 : ∀ (g8 g9 g10 g11 : Nat) (W : World),Fn w4 W [(g7,35,dv (sm 1)),(g6,35,dv x),(g5,23,ks K)] → Blk W g8 35 #[.int .u64 0,.int .u64 0,.int .u64 0,.int .u64 0,.int .u64 0,.int .u64 0,.int .u64 0,.int .u64 0,.int .u64 0,.int .u64 0,.int .u64 0,.int .u64 0,.int .u64 0,.int .u64 0,.int .u64 0,.int .u64 0] → w4.heap.size ≤ g8 → Blk W g9 35 #[.int .u64 0,.int .u64 0,.int .u64 0,.int .u64 0,.int .u64 0,.int .u64 0,.int .u64 0,.int .u64 0,.int .u64 0,.int .u64 0,.int .u64 0,.int .u64 0,.int .u64 0,.int .u64 0,.int .u64 0,.int .u64 0] → w4.heap.size ≤ g9 → Blk W g10 35 #[.int .u64 0,.int .u64 0,.int .u64 0,.int .u64 0,.int .u64 0,.int .u64 0,.int .u64 0,.int .u64 0,.int .u64 0,.int .u64 0,.int .u64 0,.int .u64 0,.int .u64 0,.int .u64 0,.int .u64 0,.int .u64 0] → w4.heap.size ≤ g10 → Blk W g11 35 #[.int .u64 0,.int .u64 0,.int .u64 0,.int .u64 0,.int .u64 0,.int .u64 0,.int .u64 0,.int .u64 0,.int .u64 0,.int .u64 0,.int .u64 0,.int .u64 0,.int .u64 0,.int .u64 0,.int .u64 0,.int .u64 0] → w4.heap.size ≤ g11 → g8 ≠ g9 → g8 ≠ g10 → g8 ≠ g11 → g9 ≠ g10 → g9 ≠ g11 → g10 ≠ g11 → wpAnyH Tryd.prog .any ops Q (fun W => Fn w4 W [(g7,35,dv (sm 1)),(g6,35,dv x),(g5,23,ks K)]) 4 #[true,true,true,true,true,true,true,true,false,false,false,false] { tmps := fF (.pointer (some ⟨g8,0,none⟩)) (.pointer (some ⟨g9,0,none⟩)) (.pointer (some ⟨g10,0,none⟩)) (.pointer (some ⟨g11,0,none⟩)),defers := [] } W := by
    as_aux_lemma =>
     intro g8 g9 g10 g11 W hHeld K4 Z4 K5 Z5 K6 Z6 K7 Z7 n4_5 n4_6 n4_7 n5_6 n5_7 n6_7
     rw [← hops,hfF]
     rw [← hQ]
     have KK4 := Lib.hid K4
     clear K4
     have KK5 := Lib.hid K5
     clear K5
     have KK6 := Lib.hid K6
     clear K6
     have KK7 := Lib.hid K7
     clear K7
     refine wpAnyH_ready (rs := [8]) (by kernel_rfl) (by simp) (AllReadyH.cons rfl (fun K hK => ?_) AllReadyH.nil)
     have h0 := hHeld
     clear hHeld
     try simp only [e1,e2,e3]
     rw [if_pos (by rfl)]
     refine wp_store_row 35 (.tmp 8) (.tmp 34) rfl g8 (dv (sm 1)) rfl rfl 35 _ KK4.out (info_dv _) (by rw [dv_size]; rfl) (dv_one _) ?_
     refine hK.out _ _ (Fn.setFresh h0 Z4 _) (fun hHeld => ?_)
     have J4 := Lib.hid (KK4.out.setRow_same (dv (sm 1)))
     clear KK4
     have KK4 := J4
     clear J4
     have J5 := Lib.hid (KK5.out.setRow_other (Ne.symm n4_5) (dv (sm 1)))
     clear KK5
     have KK5 := J5
     clear J5
     have J6 := Lib.hid (KK6.out.setRow_other (Ne.symm n4_6) (dv (sm 1)))
     clear KK6
     have KK6 := J6
     clear J6
     have J7 := Lib.hid (KK7.out.setRow_other (Ne.symm n4_7) (dv (sm 1)))
     clear KK7
     have KK7 := J7
     clear J7
     clear hK K h0
     try simp only [Act.put,e1,e2,e3,e4,e5,e6]
     refine wpAnyH_ready (rs := [9]) (by kernel_rfl) (by simp) (AllReadyH.cons rfl (fun K hK => ?_) AllReadyH.nil)
     have h0 := hHeld
     clear hHeld
     try simp only [e1,e2,e3]
     rw [if_pos (by rfl)]
     refine wp_store_row 35 (.tmp 9) (.tmp 35) rfl g9 (#[.int .u64 0,.int .u64 0,.int .u64 0,.int .u64 0,.int .u64 0,.int .u64 0,.int .u64 0,.int .u64 0,.int .u64 0,.int .u64 0,.int .u64 0,.int .u64 0,.int .u64 0,.int .u64 0,.int .u64 0,.int .u64 0]) rfl rfl 35 _ KK5.out (by rw [← ds_zero]; exact info_ds 0) rfl (by rw [← ds_zero]; exact ds_one 0) ?_
     refine hK.out _ _ (Fn.setFresh h0 Z5 _) (fun hHeld => ?_)
     have J5 := Lib.hid (KK5.out.setRow_same (#[.int .u64 0,.int .u64 0,.int .u64 0,.int .u64 0,.int .u64 0,.int .u64 0,.int .u64 0,.int .u64 0,.int .u64 0,.int .u64 0,.int .u64 0,.int .u64 0,.int .u64 0,.int .u64 0,.int .u64 0,.int .u64 0]))
     clear KK5
     have KK5 := J5
     clear J5
     have J4 := Lib.hid (KK4.out.setRow_other n4_5 (#[.int .u64 0,.int .u64 0,.int .u64 0,.int .u64 0,.int .u64 0,.int .u64 0,.int .u64 0,.int .u64 0,.int .u64 0,.int .u64 0,.int .u64 0,.int .u64 0,.int .u64 0,.int .u64 0,.int .u64 0,.int .u64 0]))
     clear KK4
     have KK4 := J4
     clear J4
     have J6 := Lib.hid (KK6.out.setRow_other (Ne.symm n5_6) (#[.int .u64 0,.int .u64 0,.int .u64 0,.int .u64 0,.int .u64 0,.int .u64 0,.int .u64 0,.int .u64 0,.int .u64 0,.int .u64 0,.int .u64 0,.int .u64 0,.int .u64 0,.int .u64 0,.int .u64 0,.int .u64 0]))
     clear KK6
     have KK6 := J6
     clear J6
     have J7 := Lib.hid (KK7.out.setRow_other (Ne.symm n5_7) (#[.int .u64 0,.int .u64 0,.int .u64 0,.int .u64 0,.int .u64 0,.int .u64 0,.int .u64 0,.int .u64 0,.int .u64 0,.int .u64 0,.int .u64 0,.int .u64 0,.int .u64 0,.int .u64 0,.int .u64 0,.int .u64 0]))
     clear KK7
     have KK7 := J7
     clear J7
     clear hK K h0
     try simp only [Act.put,e1,e2,e3,e4,e5,e6]
     refine wpAnyH_ready (rs := [10]) (by kernel_rfl) (by simp) (AllReadyH.cons rfl (fun K hK => ?_) AllReadyH.nil)
     have h0 := hHeld
     clear hHeld
     try simp only [e1,e2,e3]
     rw [if_pos (by rfl)]
     refine wp_store_row 35 (.tmp 10) (.tmp 36) rfl g10 (dv x) rfl rfl 35 _ KK6.out (info_dv _) (by rw [dv_size]; rfl) (dv_one _) ?_
     refine hK.out _ _ (Fn.setFresh h0 Z6 _) (fun hHeld => ?_)
     have J6 := Lib.hid (KK6.out.setRow_same (dv x))
     clear KK6
     have KK6 := J6
     clear J6
     have J4 := Lib.hid (KK4.out.setRow_other n4_6 (dv x))
     clear KK4
     have KK4 := J4
     clear J4
     have J5 := Lib.hid (KK5.out.setRow_other n5_6 (dv x))
     clear KK5
     have KK5 := J5
     clear J5
     have J7 := Lib.hid (KK7.out.setRow_other (Ne.symm n6_7) (dv x))
     clear KK7
     have KK7 := J7
     clear J7
     clear hK K h0
     try simp only [Act.put,e1,e2,e3,e4,e5,e6]
     refine wpAnyH_ready (rs := [11]) (by kernel_rfl) (by simp) (AllReadyH.cons rfl (fun K hK => ?_) AllReadyH.nil)
     have h0 := hHeld
     clear hHeld
     try simp only [e1,e2,e3]
     rw [if_pos (by rfl)]
     refine wp_store_row 35 (.tmp 11) (.tmp 37) rfl g11 (dv (sm 1)) rfl rfl 35 _ KK7.out (info_dv _) (by rw [dv_size]; rfl) (dv_one _) ?_
     refine hK.out _ _ (Fn.setFresh h0 Z7 _) (fun hHeld => ?_)
     have J7 := Lib.hid (KK7.out.setRow_same (dv (sm 1)))
     clear KK7
     have KK7 := J7
     clear J7
     have J4 := Lib.hid (KK4.out.setRow_other n4_7 (dv (sm 1)))
     clear KK4
     have KK4 := J4
     clear J4
     have J5 := Lib.hid (KK5.out.setRow_other n5_7 (dv (sm 1)))
     clear KK5
     have KK5 := J5
     clear J5
     have J6 := Lib.hid (KK6.out.setRow_other n6_7 (dv (sm 1)))
     clear KK6
     have KK6 := J6
     clear J6
     clear hK K h0
     try simp only [Act.put,e1,e2,e3,e4,e5,e6]
     refine wpAnyH_done (by kernel_rfl) ?_ _
     have HB := Lib.hid hHeld.below
     clear hHeld
     go_wp2_with (fail)
     go_meet
     exact ⟨g8,g9,g10,g11,rfl,rfl,rfl,rfl,Z4,Z5,Z6,Z7,n4_5,n4_6,n4_7,n5_6,n5_7,n6_7,KK4.out,(by have h9 := KK5.out; rw [dv_lit]; exact h9),KK6.out,KK7.out,HB.out⟩
   have st0_456 : ∀ (g8 g9 g10 : Nat) (W : World),Fn w4 W [(g7,35,dv (sm 1)),(g6,35,dv x),(g5,23,ks K)] → Blk W g8 35 #[.int .u64 0,.int .u64 0,.int .u64 0,.int .u64 0,.int .u64 0,.int .u64 0,.int .u64 0,.int .u64 0,.int .u64 0,.int .u64 0,.int .u64 0,.int .u64 0,.int .u64 0,.int .u64 0,.int .u64 0,.int .u64 0] → w4.heap.size ≤ g8 → Blk W g9 35 #[.int .u64 0,.int .u64 0,.int .u64 0,.int .u64 0,.int .u64 0,.int .u64 0,.int .u64 0,.int .u64 0,.int .u64 0,.int .u64 0,.int .u64 0,.int .u64 0,.int .u64 0,.int .u64 0,.int .u64 0,.int .u64 0] → w4.heap.size ≤ g9 → Blk W g10 35 #[.int .u64 0,.int .u64 0,.int .u64 0,.int .u64 0,.int .u64 0,.int .u64 0,.int .u64 0,.int .u64 0,.int .u64 0,.int .u64 0,.int .u64 0,.int .u64 0,.int .u64 0,.int .u64 0,.int .u64 0,.int .u64 0] → w4.heap.size ≤ g10 → g8 ≠ g9 → g8 ≠ g10 → g9 ≠ g10 → wpAnyH Tryd.prog .any ops Q (fun W => Fn w4 W [(g7,35,dv (sm 1)),(g6,35,dv x),(g5,23,ks K)]) 5 #[true,true,true,true,true,true,true,false,false,false,false,false] { tmps := fF (.pointer (some ⟨g8,0,none⟩)) (.pointer (some ⟨g9,0,none⟩)) (.pointer (some ⟨g10,0,none⟩)) (undef),defers := [] } W := by
    as_aux_lemma =>
     intro g8 g9 g10 W hHeld K4 Z4 K5 Z5 K6 Z6 n4_5 n4_6 n5_6
     rw [← hops,hfF]
     refine wpAnyH_ready (rs := [7]) (by kernel_rfl) (by simp) (AllReadyH.cons rfl (fun K hK => ?_) AllReadyH.nil)
     have h0 := hHeld
     clear hHeld
     try simp only [e1,e2,e3]
     obtain ⟨kz,hg⟩ := frZ h0
     have KZ := Lib.hid kz
     have HG := Lib.hid hg
     have H0 := Lib.hid h0
     clear kz hg h0
     have KH4 := Lib.hid K4
     have KH5 := Lib.hid K5
     have KH6 := Lib.hid K6
     go_simp
     refine hK.out _ _ (Fn.pass H0.out _) (fun hHeld => ?_)
     clear hK K H0
     try simp only [Act.put,e1,e2,e3,e4,e5,e6]
     have k4 := alZ KH4.out
     have k5 := alZ KH5.out
     have k6 := alZ KH6.out
     have z4 := Z4
     have z5 := Z5
     have z6 := Z6
     have k7 := KZ.out
     have z7 := HG.out
     have hh := st0_4567 g8 g9 g10 _ _ hHeld k4 z4 k5 z5 k6 z6 k7 z7 n4_5 n4_6 (Nat.ne_of_lt K4.lt) n5_6 (Nat.ne_of_lt K5.lt) (Nat.ne_of_lt K6.lt)
     rw [← hops,hfF] at hh
     exact wpAnyH_cast (by kernel_rfl) (by kernel_rfl) hh
   have st0_457 : ∀ (g8 g9 g11 : Nat) (W : World),Fn w4 W [(g7,35,dv (sm 1)),(g6,35,dv x),(g5,23,ks K)] → Blk W g8 35 #[.int .u64 0,.int .u64 0,.int .u64 0,.int .u64 0,.int .u64 0,.int .u64 0,.int .u64 0,.int .u64 0,.int .u64 0,.int .u64 0,.int .u64 0,.int .u64 0,.int .u64 0,.int .u64 0,.int .u64 0,.int .u64 0] → w4.heap.size ≤ g8 → Blk W g9 35 #[.int .u64 0,.int .u64 0,.int .u64 0,.int .u64 0,.int .u64 0,.int .u64 0,.int .u64 0,.int .u64 0,.int .u64 0,.int .u64 0,.int .u64 0,.int .u64 0,.int .u64 0,.int .u64 0,.int .u64 0,.int .u64 0] → w4.heap.size ≤ g9 → Blk W g11 35 #[.int .u64 0,.int .u64 0,.int .u64 0,.int .u64 0,.int .u64 0,.int .u64 0,.int .u64 0,.int .u64 0,.int .u64 0,.int .u64 0,.int .u64 0,.int .u64 0,.int .u64 0,.int .u64 0,.int .u64 0,.int .u64 0] → w4.heap.size ≤ g11 → g8 ≠ g9 → g8 ≠ g11 → g9 ≠ g11 → wpAnyH Tryd.prog .any ops Q (fun W => Fn w4 W [(g7,35,dv (sm 1)),(g6,35,dv x),(g5,23,ks K)]) 5 #[true,true,true,true,true,true,false,true,false,false,false,false] { tmps := fF (.pointer (some ⟨g8,0,none⟩)) (.pointer (some ⟨g9,0,none⟩)) (undef) (.pointer (some ⟨g11,0,none⟩)),defers := [] } W := by
    as_aux_lemma =>
     clear st0_456
     intro g8 g9 g11 W hHeld K4 Z4 K5 Z5 K7 Z7 n4_5 n4_7 n5_7
     rw [← hops,hfF]
     refine wpAnyH_ready (rs := [6]) (by kernel_rfl) (by simp) (AllReadyH.cons rfl (fun K hK => ?_) AllReadyH.nil)
     have h0 := hHeld
     clear hHeld
     try simp only [e1,e2,e3]
     obtain ⟨kz,hg⟩ := frZ h0
     have KZ := Lib.hid kz
     have HG := Lib.hid hg
     have H0 := Lib.hid h0
     clear kz hg h0
     have KH4 := Lib.hid K4
     have KH5 := Lib.hid K5
     have KH7 := Lib.hid K7
     go_simp
     refine hK.out _ _ (Fn.pass H0.out _) (fun hHeld => ?_)
     clear hK K H0
     try simp only [Act.put,e1,e2,e3,e4,e5,e6]
     have k4 := alZ KH4.out
     have k5 := alZ KH5.out
     have k7 := alZ KH7.out
     have z4 := Z4
     have z5 := Z5
     have z7 := Z7
     have k6 := KZ.out
     have z6 := HG.out
     have hh := st0_4567 g8 g9 _ g11 _ hHeld k4 z4 k5 z5 k6 z6 k7 z7 n4_5 (Nat.ne_of_lt K4.lt) n4_7 (Nat.ne_of_lt K5.lt) n5_7 (Ne.symm (Nat.ne_of_lt K7.lt))
     rw [← hops,hfF] at hh
     exact wpAnyH_cast (by kernel_rfl) (by kernel_rfl) hh
   have st0_467 : ∀ (g8 g10 g11 : Nat) (W : World),Fn w4 W [(g7,35,dv (sm 1)),(g6,35,dv x),(g5,23,ks K)] → Blk W g8 35 #[.int .u64 0,.int .u64 0,.int .u64 0,.int .u64 0,.int .u64 0,.int .u64 0,.int .u64 0,.int .u64 0,.int .u64 0,.int .u64 0,.int .u64 0,.int .u64 0,.int .u64 0,.int .u64 0,.int .u64 0,.int .u64 0] → w4.heap.size ≤ g8 → Blk W g10 35 #[.int .u64 0,.int .u64 0,.int .u64 0,.int .u64 0,.int .u64 0,.int .u64 0,.int .u64 0,.int .u64 0,.int .u64 0,.int .u64 0,.int .u64 0,.int .u64 0,.int .u64 0,.int .u64 0,.int .u64 0,.int .u64 0] → w4.heap.size ≤ g10 → Blk W g11 35 #[.int .u64 0,.int .u64 0,.int .u64 0,.int .u64 0,.int .u64 0,.int .u64 0,.int .u64 0,.int .u64 0,.int .u64 0,.int .u64 0,.int .u64 0,.int .u64 0,.int .u64 0,.int .u64 0,.int .u64 0,.int .u64 0] → w4.heap.size ≤ g11 → g8 ≠ g10 → g8 ≠ g11 → g10 ≠ g11 → wpAnyH Tryd.prog .any ops Q (fun W => Fn w4 W [(g7,35,dv (sm 1)),(g6,35,dv x),(g5,23,ks K)]) 5 #[true,true,true,true,true,false,true,true,false,false,false,false] { tmps := fF (.pointer (some ⟨g8,0,none⟩)) (undef) (.pointer (some ⟨g10,0,none⟩)) (.pointer (some ⟨g11,0,none⟩)),defers := [] } W := by
    as_aux_lemma =>
     clear st0_457 st0_456
     intro g8 g10 g11 W hHeld K4 Z4 K6 Z6 K7 Z7 n4_6 n4_7 n6_7
     rw [← hops,hfF]
     refine wpAnyH_ready (rs := [5]) (by kernel_rfl) (by simp) (AllReadyH.cons rfl (fun K hK => ?_) AllReadyH.nil)
     have h0 := hHeld
     clear hHeld
     try simp only [e1,e2,e3]
     obtain ⟨kz,hg⟩ := frZ h0
     have KZ := Lib.hid kz
     have HG := Lib.hid hg
     have H0 := Lib.hid h0
     clear kz hg h0
     have KH4 := Lib.hid K4
     have KH6 := Lib.hid K6
     have KH7 := Lib.hid K7
     go_simp
     refine hK.out _ _ (Fn.pass H0.out _) (fun hHeld => ?_)
     clear hK K H0
     try simp only [Act.put,e1,e2,e3,e4,e5,e6]
     have k4 := alZ KH4.out
     have k6 := alZ KH6.out
     have k7 := alZ KH7.out
     have z4 := Z4
     have z6 := Z6
     have z7 := Z7
     have k5 := KZ.out
     have z5 := HG.out
     have hh := st0_4567 g8 _ g10 g11 _ hHeld k4 z4 k5 z5 k6 z6 k7 z7 (Nat.ne_of_lt K4.lt) n4_6 n4_7 (Ne.symm (Nat.ne_of_lt K6.lt)) (Ne.symm (Nat.ne_of_lt K7.lt)) n6_7
     rw [← hops,hfF] at hh
     exact wpAnyH_cast (by kernel_rfl) (by kernel_rfl) hh
   have st0_567 : ∀ (g9 g10 g11 : Nat) (W : World),Fn w4 W [(g7,35,dv (sm 1)),(g6,35,dv x),(g5,23,ks K)] → Blk W g9 35 #[.int .u64 0,.int .u64 0,.int .u64 0,.int .u64 0,.int .u64 0,.int .u64 0,.int .u64 0,.int .u64 0,.int .u64 0,.int .u64 0,.int .u64 0,.int .u64 0,.int .u64 0,.int .u64 0,.int .u64 0,.int .u64 0] → w4.heap.size ≤ g9 → Blk W g10 35 #[.int .u64 0,.int .u64 0,.int .u64 0,.int .u64 0,.int .u64 0,.int .u64 0,.int .u64 0,.int .u64 0,.int .u64 0,.int .u64 0,.int .u64 0,.int .u64 0,.int .u64 0,.int .u64 0,.int .u64 0,.int .u64 0] → w4.heap.size ≤ g10 → Blk W g11 35 #[.int .u64 0,.int .u64 0,.int .u64 0,.int .u64 0,.int .u64 0,.int .u64 0,.int .u64 0,.int .u64 0,.int .u64 0,.int .u64 0,.int .u64 0,.int .u64 0,.int .u64 0,.int .u64 0,.int .u64 0,.int .u64 0] → w4.heap.size ≤ g11 → g9 ≠ g10 → g9 ≠ g11 → g10 ≠ g11 → wpAnyH Tryd.prog .any ops Q (fun W => Fn w4 W [(g7,35,dv (sm 1)),(g6,35,dv x),(g5,23,ks K)]) 5 #[true,true,true,true,false,true,true,true,false,false,false,false] { tmps := fF (undef) (.pointer (some ⟨g9,0,none⟩)) (.pointer (some ⟨g10,0,none⟩)) (.pointer (some ⟨g11,0,none⟩)),defers := [] } W := by
    as_aux_lemma =>
     clear st0_467 st0_457 st0_456
     intro g9 g10 g11 W hHeld K5 Z5 K6 Z6 K7 Z7 n5_6 n5_7 n6_7
     rw [← hops,hfF]
     refine wpAnyH_ready (rs := [4]) (by kernel_rfl) (by simp) (AllReadyH.cons rfl (fun K hK => ?_) AllReadyH.nil)
     have h0 := hHeld
     clear hHeld
     try simp only [e1,e2,e3]
     obtain ⟨kz,hg⟩ := frZ h0
     have KZ := Lib.hid kz
     have HG := Lib.hid hg
     have H0 := Lib.hid h0
     clear kz hg h0
     have KH5 := Lib.hid K5
     have KH6 := Lib.hid K6
     have KH7 := Lib.hid K7
     go_simp
     refine hK.out _ _ (Fn.pass H0.out _) (fun hHeld => ?_)
     clear hK K H0
     try simp only [Act.put,e1,e2,e3,e4,e5,e6]
     have k5 := alZ KH5.out
     have k6 := alZ KH6.out
     have k7 := alZ KH7.out
     have z5 := Z5
     have z6 := Z6
     have z7 := Z7
     have k4 := KZ.out
     have z4 := HG.out
     have hh := st0_4567 _ g9 g10 g11 _ hHeld k4 z4 k5 z5 k6 z6 k7 z7 (Ne.symm (Nat.ne_of_lt K5.lt)) (Ne.symm (Nat.ne_of_lt K6.lt)) (Ne.symm (Nat.ne_of_lt K7.lt)) n5_6 n5_7 n6_7
     rw [← hops,hfF] at hh
     exact wpAnyH_cast (by kernel_rfl) (by kernel_rfl) hh
   have st0_45 : ∀ (g8 g9 : Nat) (W : World),Fn w4 W [(g7,35,dv (sm 1)),(g6,35,dv x),(g5,23,ks K)] → Blk W g8 35 #[.int .u64 0,.int .u64 0,.int .u64 0,.int .u64 0,.int .u64 0,.int .u64 0,.int .u64 0,.int .u64 0,.int .u64 0,.int .u64 0,.int .u64 0,.int .u64 0,.int .u64 0,.int .u64 0,.int .u64 0,.int .u64 0] → w4.heap.size ≤ g8 → Blk W g9 35 #[.int .u64 0,.int .u64 0,.int .u64 0,.int .u64 0,.int .u64 0,.int .u64 0,.int .u64 0,.int .u64 0,.int .u64 0,.int .u64 0,.int .u64 0,.int .u64 0,.int .u64 0,.int .u64 0,.int .u64 0,.int .u64 0] → w4.heap.size ≤ g9 → g8 ≠ g9 → wpAnyH Tryd.prog .any ops Q (fun W => Fn w4 W [(g7,35,dv (sm 1)),(g6,35,dv x),(g5,23,ks K)]) 6 #[true,true,true,true,true,true,false,false,false,false,false,false] { tmps := fF (.pointer (some ⟨g8,0,none⟩)) (.pointer (some ⟨g9,0,none⟩)) (undef) (undef),defers := [] } W := by
    as_aux_lemma =>
     clear st0_567 st0_467 st0_4567
     intro g8 g9 W hHeld K4 Z4 K5 Z5 n4_5
     rw [← hops,hfF]
     refine wpAnyH_ready (rs := [6,7]) (by kernel_rfl) (by simp) (AllReadyH.cons rfl (fun K hK => ?_) (AllReadyH.cons rfl (fun K hK => ?_) AllReadyH.nil))
     ·
      have h0 := hHeld
      clear hHeld
      try simp only [e1,e2,e3]
      obtain ⟨kz,hg⟩ := frZ h0
      have KZ := Lib.hid kz
      have HG := Lib.hid hg
      have H0 := Lib.hid h0
      clear kz hg h0
      have KH4 := Lib.hid K4
      have KH5 := Lib.hid K5
      go_simp
      refine hK.out _ _ (Fn.pass H0.out _) (fun hHeld => ?_)
      clear hK K H0
      try simp only [Act.put,e1,e2,e3,e4,e5,e6]
      have k4 := alZ KH4.out
      have k5 := alZ KH5.out
      have z4 := Z4
      have z5 := Z5
      have k6 := KZ.out
      have z6 := HG.out
      have hh := st0_456 g8 g9 _ _ hHeld k4 z4 k5 z5 k6 z6 n4_5 (Nat.ne_of_lt K4.lt) (Nat.ne_of_lt K5.lt)
      rw [← hops,hfF] at hh
      exact wpAnyH_cast (by kernel_rfl) (by kernel_rfl) hh
     ·
      have h0 := hHeld
      clear hHeld
      try simp only [e1,e2,e3]
      obtain ⟨kz,hg⟩ := frZ h0
      have KZ := Lib.hid kz
      have HG := Lib.hid hg
      have H0 := Lib.hid h0
      clear kz hg h0
      have KH4 := Lib.hid K4
      have KH5 := Lib.hid K5
      go_simp
      refine hK.out _ _ (Fn.pass H0.out _) (fun hHeld => ?_)
      clear hK K H0
      try simp only [Act.put,e1,e2,e3,e4,e5,e6]
      have k4 := alZ KH4.out
      have k5 := alZ KH5.out
      have z4 := Z4
      have z5 := Z5
      have k7 := KZ.out
      have z7 := HG.out
      have hh := st0_457 g8 g9 _ _ hHeld k4 z4 k5 z5 k7 z7 n4_5 (Nat.ne_of_lt K4.lt) (Nat.ne_of_lt K5.lt)
      rw [← hops,hfF] at hh
      exact wpAnyH_cast (by kernel_rfl) (by kernel_rfl) hh
   have st0_46 : ∀ (g8 g10 : Nat) (W : World),Fn w4 W [(g7,35,dv (sm 1)),(g6,35,dv x),(g5,23,ks K)] → Blk W g8 35 #[.int .u64 0,.int .u64 0,.int .u64 0,.int .u64 0,.int .u64 0,.int .u64 0,.int .u64 0,.int .u64 0,.int .u64 0,.int .u64 0,.int .u64 0,.int .u64 0,.int .u64 0,.int .u64 0,.int .u64 0,.int .u64 0] → w4.heap.size ≤ g8 → Blk W g10 35 #[.int .u64 0,.int .u64 0,.int .u64 0,.int .u64 0,.int .u64 0,.int .u64 0,.int .u64 0,.int .u64 0,.int .u64 0,.int .u64 0,.int .u64 0,.int .u64 0,.int .u64 0,.int .u64 0,.int .u64 0,.int .u64 0] → w4.heap.size ≤ g10 → g8 ≠ g10 → wpAnyH Tryd.prog .any ops Q (fun W => Fn w4 W [(g7,35,dv (sm 1)),(g6,35,dv x),(g5,23,ks K)]) 6 #[true,true,true,true,true,false,true,false,false,false,false,false] { tmps := fF (.pointer (some ⟨g8,0,none⟩)) (undef) (.pointer (some ⟨g10,0,none⟩)) (undef),defers := [] } W := by
    as_aux_lemma =>
     clear st0_45 st0_567 st0_457 st0_4567
     intro g8 g10 W hHeld K4 Z4 K6 Z6 n4_6
     rw [← hops,hfF]
     refine wpAnyH_ready (rs := [5,7]) (by kernel_rfl) (by simp) (AllReadyH.cons rfl (fun K hK => ?_) (AllReadyH.cons rfl (fun K hK => ?_) AllReadyH.nil))
     ·
      have h0 := hHeld
      clear hHeld
      try simp only [e1,e2,e3]
      obtain ⟨kz,hg⟩ := frZ h0
      have KZ := Lib.hid kz
      have HG := Lib.hid hg
      have H0 := Lib.hid h0
      clear kz hg h0
      have KH4 := Lib.hid K4
      have KH6 := Lib.hid K6
      go_simp
      refine hK.out _ _ (Fn.pass H0.out _) (fun hHeld => ?_)
      clear hK K H0
      try simp only [Act.put,e1,e2,e3,e4,e5,e6]
      have k4 := alZ KH4.out
      have k6 := alZ KH6.out
      have z4 := Z4
      have z6 := Z6
      have k5 := KZ.out
      have z5 := HG.out
      have hh := st0_456 g8 _ g10 _ hHeld k4 z4 k5 z5 k6 z6 (Nat.ne_of_lt K4.lt) n4_6 (Ne.symm (Nat.ne_of_lt K6.lt))
      rw [← hops,hfF] at hh
      exact wpAnyH_cast (by kernel_rfl) (by kernel_rfl) hh
     ·
      have h0 := hHeld
      clear hHeld
      try simp only [e1,e2,e3]
      obtain ⟨kz,hg⟩ := frZ h0
      have KZ := Lib.hid kz
      have HG := Lib.hid hg
      have H0 := Lib.hid h0
      clear kz hg h0
      have KH4 := Lib.hid K4
      have KH6 := Lib.hid K6
      go_simp
      refine hK.out _ _ (Fn.pass H0.out _) (fun hHeld => ?_)
      clear hK K H0
      try simp only [Act.put,e1,e2,e3,e4,e5,e6]
      have k4 := alZ KH4.out
      have k6 := alZ KH6.out
      have z4 := Z4
      have z6 := Z6
      have k7 := KZ.out
      have z7 := HG.out
      have hh := st0_467 g8 g10 _ _ hHeld k4 z4 k6 z6 k7 z7 n4_6 (Nat.ne_of_lt K4.lt) (Nat.ne_of_lt K6.lt)
      rw [← hops,hfF] at hh
      exact wpAnyH_cast (by kernel_rfl) (by kernel_rfl) hh
   have st0_47 : ∀ (g8 g11 : Nat) (W : World),Fn w4 W [(g7,35,dv (sm 1)),(g6,35,dv x),(g5,23,ks K)] → Blk W g8 35 #[.int .u64 0,.int .u64 0,.int .u64 0,.int .u64 0,.int .u64 0,.int .u64 0,.int .u64 0,.int .u64 0,.int .u64 0,.int .u64 0,.int .u64 0,.int .u64 0,.int .u64 0,.int .u64 0,.int .u64 0,.int .u64 0] → w4.heap.size ≤ g8 → Blk W g11 35 #[.int .u64 0,.int .u64 0,.int .u64 0,.int .u64 0,.int .u64 0,.int .u64 0,.int .u64 0,.int .u64 0,.int .u64 0,.int .u64 0,.int .u64 0,.int .u64 0,.int .u64 0,.int .u64 0,.int .u64 0,.int .u64 0] → w4.heap.size ≤ g11 → g8 ≠ g11 → wpAnyH Tryd.prog .any ops Q (fun W => Fn w4 W [(g7,35,dv (sm 1)),(g6,35,dv x),(g5,23,ks K)]) 6 #[true,true,true,true,true,false,false,true,false,false,false,false] { tmps := fF (.pointer (some ⟨g8,0,none⟩)) (undef) (undef) (.pointer (some ⟨g11,0,none⟩)),defers := [] } W := by
    as_aux_lemma =>
     clear st0_46 st0_45 st0_567 st0_456 st0_4567
     intro g8 g11 W hHeld K4 Z4 K7 Z7 n4_7
     rw [← hops,hfF]
     refine wpAnyH_ready (rs := [5,6]) (by kernel_rfl) (by simp) (AllReadyH.cons rfl (fun K hK => ?_) (AllReadyH.cons rfl (fun K hK => ?_) AllReadyH.nil))
     ·
      have h0 := hHeld
      clear hHeld
      try simp only [e1,e2,e3]
      obtain ⟨kz,hg⟩ := frZ h0
      have KZ := Lib.hid kz
      have HG := Lib.hid hg
      have H0 := Lib.hid h0
      clear kz hg h0
      have KH4 := Lib.hid K4
      have KH7 := Lib.hid K7
      go_simp
      refine hK.out _ _ (Fn.pass H0.out _) (fun hHeld => ?_)
      clear hK K H0
      try simp only [Act.put,e1,e2,e3,e4,e5,e6]
      have k4 := alZ KH4.out
      have k7 := alZ KH7.out
      have z4 := Z4
      have z7 := Z7
      have k5 := KZ.out
      have z5 := HG.out
      have hh := st0_457 g8 _ g11 _ hHeld k4 z4 k5 z5 k7 z7 (Nat.ne_of_lt K4.lt) n4_7 (Ne.symm (Nat.ne_of_lt K7.lt))
      rw [← hops,hfF] at hh
      exact wpAnyH_cast (by kernel_rfl) (by kernel_rfl) hh
     ·
      have h0 := hHeld
      clear hHeld
      try simp only [e1,e2,e3]
      obtain ⟨kz,hg⟩ := frZ h0
      have KZ := Lib.hid kz
      have HG := Lib.hid hg
      have H0 := Lib.hid h0
      clear kz hg h0
      have KH4 := Lib.hid K4
      have KH7 := Lib.hid K7
      go_simp
      refine hK.out _ _ (Fn.pass H0.out _) (fun hHeld => ?_)
      clear hK K H0
      try simp only [Act.put,e1,e2,e3,e4,e5,e6]
      have k4 := alZ KH4.out
      have k7 := alZ KH7.out
      have z4 := Z4
      have z7 := Z7
      have k6 := KZ.out
      have z6 := HG.out
      have hh := st0_467 g8 _ g11 _ hHeld k4 z4 k6 z6 k7 z7 (Nat.ne_of_lt K4.lt) n4_7 (Ne.symm (Nat.ne_of_lt K7.lt))
      rw [← hops,hfF] at hh
      exact wpAnyH_cast (by kernel_rfl) (by kernel_rfl) hh
   have st0_56 : ∀ (g9 g10 : Nat) (W : World),Fn w4 W [(g7,35,dv (sm 1)),(g6,35,dv x),(g5,23,ks K)] → Blk W g9 35 #[.int .u64 0,.int .u64 0,.int .u64 0,.int .u64 0,.int .u64 0,.int .u64 0,.int .u64 0,.int .u64 0,.int .u64 0,.int .u64 0,.int .u64 0,.int .u64 0,.int .u64 0,.int .u64 0,.int .u64 0,.int .u64 0] → w4.heap.size ≤ g9 → Blk W g10 35 #[.int .u64 0,.int .u64 0,.int .u64 0,.int .u64 0,.int .u64 0,.int .u64 0,.int .u64 0,.int .u64 0,.int .u64 0,.int .u64 0,.int .u64 0,.int .u64 0,.int .u64 0,.int .u64 0,.int .u64 0,.int .u64 0] → w4.heap.size ≤ g10 → g9 ≠ g10 → wpAnyH Tryd.prog .any ops Q (fun W => Fn w4 W [(g7,35,dv (sm 1)),(g6,35,dv x),(g5,23,ks K)]) 6 #[true,true,true,true,false,true,true,false,false,false,false,false] { tmps := fF (undef) (.pointer (some ⟨g9,0,none⟩)) (.pointer (some ⟨g10,0,none⟩)) (undef),defers := [] } W := by
    as_aux_lemma =>
     clear st0_47 st0_46 st0_45 st0_467 st0_457 st0_4567
     intro g9 g10 W hHeld K5 Z5 K6 Z6 n5_6
     rw [← hops,hfF]
     refine wpAnyH_ready (rs := [4,7]) (by kernel_rfl) (by simp) (AllReadyH.cons rfl (fun K hK => ?_) (AllReadyH.cons rfl (fun K hK => ?_) AllReadyH.nil))
     ·
      have h0 := hHeld
      clear hHeld
      try simp only [e1,e2,e3]
      obtain ⟨kz,hg⟩ := frZ h0
      have KZ := Lib.hid kz
      have HG := Lib.hid hg
      have H0 := Lib.hid h0
      clear kz hg h0
      have KH5 := Lib.hid K5
      have KH6 := Lib.hid K6
      go_simp
      refine hK.out _ _ (Fn.pass H0.out _) (fun hHeld => ?_)
      clear hK K H0
      try simp only [Act.put,e1,e2,e3,e4,e5,e6]
      have k5 := alZ KH5.out
      have k6 := alZ KH6.out
      have z5 := Z5
      have z6 := Z6
      have k4 := KZ.out
      have z4 := HG.out
      have hh := st0_456 _ g9 g10 _ hHeld k4 z4 k5 z5 k6 z6 (Ne.symm (Nat.ne_of_lt K5.lt)) (Ne.symm (Nat.ne_of_lt K6.lt)) n5_6
      rw [← hops,hfF] at hh
      exact wpAnyH_cast (by kernel_rfl) (by kernel_rfl) hh
     ·
      have h0 := hHeld
      clear hHeld
      try simp only [e1,e2,e3]
      obtain ⟨kz,hg⟩ := frZ h0
      have KZ := Lib.hid kz
      have HG := Lib.hid hg
      have H0 := Lib.hid h0
      clear kz hg h0
      have KH5 := Lib.hid K5
      have KH6 := Lib.hid K6
      go_simp
      refine hK.out _ _ (Fn.pass H0.out _) (fun hHeld => ?_)
      clear hK K H0
      try simp only [Act.put,e1,e2,e3,e4,e5,e6]
      have k5 := alZ KH5.out
      have k6 := alZ KH6.out
      have z5 := Z5
      have z6 := Z6
      have k7 := KZ.out
      have z7 := HG.out
      have hh := st0_567 g9 g10 _ _ hHeld k5 z5 k6 z6 k7 z7 n5_6 (Nat.ne_of_lt K5.lt) (Nat.ne_of_lt K6.lt)
      rw [← hops,hfF] at hh
      exact wpAnyH_cast (by kernel_rfl) (by kernel_rfl) hh
   have st0_57 : ∀ (g9 g11 : Nat) (W : World),Fn w4 W [(g7,35,dv (sm 1)),(g6,35,dv x),(g5,23,ks K)] → Blk W g9 35 #[.int .u64 0,.int .u64 0,.int .u64 0,.int .u64 0,.int .u64 0,.int .u64 0,.int .u64 0,.int .u64 0,.int .u64 0,.int .u64 0,.int .u64 0,.int .u64 0,.int .u64 0,.int .u64 0,.int .u64 0,.int .u64 0] → w4.heap.size ≤ g9 → Blk W g11 35 #[.int .u64 0,.int .u64 0,.int .u64 0,.int .u64 0,.int .u64 0,.int .u64 0,.int .u64 0,.int .u64 0,.int .u64 0,.int .u64 0,.int .u64 0,.int .u64 0,.int .u64 0,.int .u64 0,.int .u64 0,.int .u64 0] → w4.heap.size ≤ g11 → g9 ≠ g11 → wpAnyH Tryd.prog .any ops Q (fun W => Fn w4 W [(g7,35,dv (sm 1)),(g6,35,dv x),(g5,23,ks K)]) 6 #[true,true,true,true,false,true,false,true,false,false,false,false] { tmps := fF (undef) (.pointer (some ⟨g9,0,none⟩)) (undef) (.pointer (some ⟨g11,0,none⟩)),defers := [] } W := by
    as_aux_lemma =>
     clear st0_56 st0_47 st0_46 st0_45 st0_467 st0_456 st0_4567
     intro g9 g11 W hHeld K5 Z5 K7 Z7 n5_7
     rw [← hops,hfF]
     refine wpAnyH_ready (rs := [4,6]) (by kernel_rfl) (by simp) (AllReadyH.cons rfl (fun K hK => ?_) (AllReadyH.cons rfl (fun K hK => ?_) AllReadyH.nil))
     ·
      have h0 := hHeld
      clear hHeld
      try simp only [e1,e2,e3]
      obtain ⟨kz,hg⟩ := frZ h0
      have KZ := Lib.hid kz
      have HG := Lib.hid hg
      have H0 := Lib.hid h0
      clear kz hg h0
      have KH5 := Lib.hid K5
      have KH7 := Lib.hid K7
      go_simp
      refine hK.out _ _ (Fn.pass H0.out _) (fun hHeld => ?_)
      clear hK K H0
      try simp only [Act.put,e1,e2,e3,e4,e5,e6]
      have k5 := alZ KH5.out
      have k7 := alZ KH7.out
      have z5 := Z5
      have z7 := Z7
      have k4 := KZ.out
      have z4 := HG.out
      have hh := st0_457 _ g9 g11 _ hHeld k4 z4 k5 z5 k7 z7 (Ne.symm (Nat.ne_of_lt K5.lt)) (Ne.symm (Nat.ne_of_lt K7.lt)) n5_7
      rw [← hops,hfF] at hh
      exact wpAnyH_cast (by kernel_rfl) (by kernel_rfl) hh
     ·
      have h0 := hHeld
      clear hHeld
      try simp only [e1,e2,e3]
      obtain ⟨kz,hg⟩ := frZ h0
      have KZ := Lib.hid kz
      have HG := Lib.hid hg
      have H0 := Lib.hid h0
      clear kz hg h0
      have KH5 := Lib.hid K5
      have KH7 := Lib.hid K7
      go_simp
      refine hK.out _ _ (Fn.pass H0.out _) (fun hHeld => ?_)
      clear hK K H0
      try simp only [Act.put,e1,e2,e3,e4,e5,e6]
      have k5 := alZ KH5.out
      have k7 := alZ KH7.out
      have z5 := Z5
      have z7 := Z7
      have k6 := KZ.out
      have z6 := HG.out
      have hh := st0_567 g9 _ g11 _ hHeld k5 z5 k6 z6 k7 z7 (Nat.ne_of_lt K5.lt) n5_7 (Ne.symm (Nat.ne_of_lt K7.lt))
      rw [← hops,hfF] at hh
      exact wpAnyH_cast (by kernel_rfl) (by kernel_rfl) hh
   have st0_67 : ∀ (g10 g11 : Nat) (W : World),Fn w4 W [(g7,35,dv (sm 1)),(g6,35,dv x),(g5,23,ks K)] → Blk W g10 35 #[.int .u64 0,.int .u64 0,.int .u64 0,.int .u64 0,.int .u64 0,.int .u64 0,.int .u64 0,.int .u64 0,.int .u64 0,.int .u64 0,.int .u64 0,.int .u64 0,.int .u64 0,.int .u64 0,.int .u64 0,.int .u64 0] → w4.heap.size ≤ g10 → Blk W g11 35 #[.int .u64 0,.int .u64 0,.int .u64 0,.int .u64 0,.int .u64 0,.int .u64 0,.int .u64 0,.int .u64 0,.int .u64 0,.int .u64 0,.int .u64 0,.int .u64 0,.int .u64 0,.int .u64 0,.int .u64 0,.int .u64 0] → w4.heap.size ≤ g11 → g10 ≠ g11 → wpAnyH Tryd.prog .any ops Q (fun W => Fn w4 W [(g7,35,dv (sm 1)),(g6,35,dv x),(g5,23,ks K)]) 6 #[true,true,true,true,false,false,true,true,false,false,false,false] { tmps := fF (undef) (undef) (.pointer (some ⟨g10,0,none⟩)) (.pointer (some ⟨g11,0,none⟩)),defers := [] } W := by
    as_aux_lemma =>
     clear st0_57 st0_56 st0_47 st0_46 st0_45 st0_457 st0_456 st0_4567
     intro g10 g11 W hHeld K6 Z6 K7 Z7 n6_7
     rw [← hops,hfF]
     refine wpAnyH_ready (rs := [4,5]) (by kernel_rfl) (by simp) (AllReadyH.cons rfl (fun K hK => ?_) (AllReadyH.cons rfl (fun K hK => ?_) AllReadyH.nil))
     ·
      have h0 := hHeld
      clear hHeld
      try simp only [e1,e2,e3]
      obtain ⟨kz,hg⟩ := frZ h0
      have KZ := Lib.hid kz
      have HG := Lib.hid hg
      have H0 := Lib.hid h0
      clear kz hg h0
      have KH6 := Lib.hid K6
      have KH7 := Lib.hid K7
      go_simp
      refine hK.out _ _ (Fn.pass H0.out _) (fun hHeld => ?_)
      clear hK K H0
      try simp only [Act.put,e1,e2,e3,e4,e5,e6]
      have k6 := alZ KH6.out
      have k7 := alZ KH7.out
      have z6 := Z6
      have z7 := Z7
      have k4 := KZ.out
      have z4 := HG.out
      have hh := st0_467 _ g10 g11 _ hHeld k4 z4 k6 z6 k7 z7 (Ne.symm (Nat.ne_of_lt K6.lt)) (Ne.symm (Nat.ne_of_lt K7.lt)) n6_7
      rw [← hops,hfF] at hh
      exact wpAnyH_cast (by kernel_rfl) (by kernel_rfl) hh
     ·
      have h0 := hHeld
      clear hHeld
      try simp only [e1,e2,e3]
      obtain ⟨kz,hg⟩ := frZ h0
      have KZ := Lib.hid kz
      have HG := Lib.hid hg
      have H0 := Lib.hid h0
      clear kz hg h0
      have KH6 := Lib.hid K6
      have KH7 := Lib.hid K7
      go_simp
      refine hK.out _ _ (Fn.pass H0.out _) (fun hHeld => ?_)
      clear hK K H0
      try simp only [Act.put,e1,e2,e3,e4,e5,e6]
      have k6 := alZ KH6.out
      have k7 := alZ KH7.out
      have z6 := Z6
      have z7 := Z7
      have k5 := KZ.out
      have z5 := HG.out
      have hh := st0_567 _ g10 g11 _ hHeld k5 z5 k6 z6 k7 z7 (Ne.symm (Nat.ne_of_lt K6.lt)) (Ne.symm (Nat.ne_of_lt K7.lt)) n6_7
      rw [← hops,hfF] at hh
      exact wpAnyH_cast (by kernel_rfl) (by kernel_rfl) hh
   have st0_4 : ∀ (g8 : Nat) (W : World),Fn w4 W [(g7,35,dv (sm 1)),(g6,35,dv x),(g5,23,ks K)] → Blk W g8 35 #[.int .u64 0,.int .u64 0,.int .u64 0,.int .u64 0,.int .u64 0,.int .u64 0,.int .u64 0,.int .u64 0,.int .u64 0,.int .u64 0,.int .u64 0,.int .u64 0,.int .u64 0,.int .u64 0,.int .u64 0,.int .u64 0] → w4.heap.size ≤ g8 → wpAnyH Tryd.prog .any ops Q (fun W => Fn w4 W [(g7,35,dv (sm 1)),(g6,35,dv x),(g5,23,ks K)]) 7 #[true,true,true,true,true,false,false,false,false,false,false,false] { tmps := fF (.pointer (some ⟨g8,0,none⟩)) (undef) (undef) (undef),defers := [] } W := by
    as_aux_lemma =>
     clear st0_67 st0_57 st0_56 st0_567 st0_467 st0_457 st0_456 st0_4567
     intro g8 W hHeld K4 Z4
     rw [← hops,hfF]
     refine wpAnyH_ready (rs := [5,6,7]) (by kernel_rfl) (by simp) (AllReadyH.cons rfl (fun K hK => ?_) (AllReadyH.cons rfl (fun K hK => ?_) (AllReadyH.cons rfl (fun K hK => ?_) AllReadyH.nil)))
     ·
      have h0 := hHeld
      clear hHeld
      try simp only [e1,e2,e3]
      obtain ⟨kz,hg⟩ := frZ h0
      have KZ := Lib.hid kz
      have HG := Lib.hid hg
      have H0 := Lib.hid h0
      clear kz hg h0
      have KH4 := Lib.hid K4
      go_simp
      refine hK.out _ _ (Fn.pass H0.out _) (fun hHeld => ?_)
      clear hK K H0
      try simp only [Act.put,e1,e2,e3,e4,e5,e6]
      have k4 := alZ KH4.out
      have z4 := Z4
      have k5 := KZ.out
      have z5 := HG.out
      have hh := st0_45 g8 _ _ hHeld k4 z4 k5 z5 (Nat.ne_of_lt K4.lt)
      rw [← hops,hfF] at hh
      exact wpAnyH_cast (by kernel_rfl) (by kernel_rfl) hh
     ·
      have h0 := hHeld
      clear hHeld
      try simp only [e1,e2,e3]
      obtain ⟨kz,hg⟩ := frZ h0
      have KZ := Lib.hid kz
      have HG := Lib.hid hg
      have H0 := Lib.hid h0
      clear kz hg h0
      have KH4 := Lib.hid K4
      go_simp
      refine hK.out _ _ (Fn.pass H0.out _) (fun hHeld => ?_)
      clear hK K H0
      try simp only [Act.put,e1,e2,e3,e4,e5,e6]
      have k4 := alZ KH4.out
      have z4 := Z4
      have k6 := KZ.out
      have z6 := HG.out
      have hh := st0_46 g8 _ _ hHeld k4 z4 k6 z6 (Nat.ne_of_lt K4.lt)
      rw [← hops,hfF] at hh
      exact wpAnyH_cast (by kernel_rfl) (by kernel_rfl) hh
     ·
      have h0 := hHeld
      clear hHeld
      try simp only [e1,e2,e3]
      obtain ⟨kz,hg⟩ := frZ h0
      have KZ := Lib.hid kz
      have HG := Lib.hid hg
      have H0 := Lib.hid h0
      clear kz hg h0
      have KH4 := Lib.hid K4
      go_simp
      refine hK.out _ _ (Fn.pass H0.out _) (fun hHeld => ?_)
      clear hK K H0
      try simp only [Act.put,e1,e2,e3,e4,e5,e6]
      have k4 := alZ KH4.out
      have z4 := Z4
      have k7 := KZ.out
      have z7 := HG.out
      have hh := st0_47 g8 _ _ hHeld k4 z4 k7 z7 (Nat.ne_of_lt K4.lt)
      rw [← hops,hfF] at hh
      exact wpAnyH_cast (by kernel_rfl) (by kernel_rfl) hh
   have st0_5 : ∀ (g9 : Nat) (W : World),Fn w4 W [(g7,35,dv (sm 1)),(g6,35,dv x),(g5,23,ks K)] → Blk W g9 35 #[.int .u64 0,.int .u64 0,.int .u64 0,.int .u64 0,.int .u64 0,.int .u64 0,.int .u64 0,.int .u64 0,.int .u64 0,.int .u64 0,.int .u64 0,.int .u64 0,.int .u64 0,.int .u64 0,.int .u64 0,.int .u64 0] → w4.heap.size ≤ g9 → wpAnyH Tryd.prog .any ops Q (fun W => Fn w4 W [(g7,35,dv (sm 1)),(g6,35,dv x),(g5,23,ks K)]) 7 #[true,true,true,true,false,true,false,false,false,false,false,false] { tmps := fF (undef) (.pointer (some ⟨g9,0,none⟩)) (undef) (undef),defers := [] } W := by
    as_aux_lemma =>
     clear st0_4 st0_67 st0_47 st0_46 st0_567 st0_467 st0_457 st0_456 st0_4567
     intro g9 W hHeld K5 Z5
     rw [← hops,hfF]
     refine wpAnyH_ready (rs := [4,6,7]) (by kernel_rfl) (by simp) (AllReadyH.cons rfl (fun K hK => ?_) (AllReadyH.cons rfl (fun K hK => ?_) (AllReadyH.cons rfl (fun K hK => ?_) AllReadyH.nil)))
     ·
      have h0 := hHeld
      clear hHeld
      try simp only [e1,e2,e3]
      obtain ⟨kz,hg⟩ := frZ h0
      have KZ := Lib.hid kz
      have HG := Lib.hid hg
      have H0 := Lib.hid h0
      clear kz hg h0
      have KH5 := Lib.hid K5
      go_simp
      refine hK.out _ _ (Fn.pass H0.out _) (fun hHeld => ?_)
      clear hK K H0
      try simp only [Act.put,e1,e2,e3,e4,e5,e6]
      have k5 := alZ KH5.out
      have z5 := Z5
      have k4 := KZ.out
      have z4 := HG.out
      have hh := st0_45 _ g9 _ hHeld k4 z4 k5 z5 (Ne.symm (Nat.ne_of_lt K5.lt))
      rw [← hops,hfF] at hh
      exact wpAnyH_cast (by kernel_rfl) (by kernel_rfl) hh
     ·
      have h0 := hHeld
      clear hHeld
      try simp only [e1,e2,e3]
      obtain ⟨kz,hg⟩ := frZ h0
      have KZ := Lib.hid kz
      have HG := Lib.hid hg
      have H0 := Lib.hid h0
      clear kz hg h0
      have KH5 := Lib.hid K5
      go_simp
      refine hK.out _ _ (Fn.pass H0.out _) (fun hHeld => ?_)
      clear hK K H0
      try simp only [Act.put,e1,e2,e3,e4,e5,e6]
      have k5 := alZ KH5.out
      have z5 := Z5
      have k6 := KZ.out
      have z6 := HG.out
      have hh := st0_56 g9 _ _ hHeld k5 z5 k6 z6 (Nat.ne_of_lt K5.lt)
      rw [← hops,hfF] at hh
      exact wpAnyH_cast (by kernel_rfl) (by kernel_rfl) hh
     ·
      have h0 := hHeld
      clear hHeld
      try simp only [e1,e2,e3]
      obtain ⟨kz,hg⟩ := frZ h0
      have KZ := Lib.hid kz
      have HG := Lib.hid hg
      have H0 := Lib.hid h0
      clear kz hg h0
      have KH5 := Lib.hid K5
      go_simp
      refine hK.out _ _ (Fn.pass H0.out _) (fun hHeld => ?_)
      clear hK K H0
      try simp only [Act.put,e1,e2,e3,e4,e5,e6]
      have k5 := alZ KH5.out
      have z5 := Z5
      have k7 := KZ.out
      have z7 := HG.out
      have hh := st0_57 g9 _ _ hHeld k5 z5 k7 z7 (Nat.ne_of_lt K5.lt)
      rw [← hops,hfF] at hh
      exact wpAnyH_cast (by kernel_rfl) (by kernel_rfl) hh
   have st0_6 : ∀ (g10 : Nat) (W : World),Fn w4 W [(g7,35,dv (sm 1)),(g6,35,dv x),(g5,23,ks K)] → Blk W g10 35 #[.int .u64 0,.int .u64 0,.int .u64 0,.int .u64 0,.int .u64 0,.int .u64 0,.int .u64 0,.int .u64 0,.int .u64 0,.int .u64 0,.int .u64 0,.int .u64 0,.int .u64 0,.int .u64 0,.int .u64 0,.int .u64 0] → w4.heap.size ≤ g10 → wpAnyH Tryd.prog .any ops Q (fun W => Fn w4 W [(g7,35,dv (sm 1)),(g6,35,dv x),(g5,23,ks K)]) 7 #[true,true,true,true,false,false,true,false,false,false,false,false] { tmps := fF (undef) (undef) (.pointer (some ⟨g10,0,none⟩)) (undef),defers := [] } W := by
    as_aux_lemma =>
     clear st0_5 st0_4 st0_57 st0_47 st0_45 st0_567 st0_467 st0_457 st0_456 st0_4567
     intro g10 W hHeld K6 Z6
     rw [← hops,hfF]
     refine wpAnyH_ready (rs := [4,5,7]) (by kernel_rfl) (by simp) (AllReadyH.cons rfl (fun K hK => ?_) (AllReadyH.cons rfl (fun K hK => ?_) (AllReadyH.cons rfl (fun K hK => ?_) AllReadyH.nil)))
     ·
      have h0 := hHeld
      clear hHeld
      try simp only [e1,e2,e3]
      obtain ⟨kz,hg⟩ := frZ h0
      have KZ := Lib.hid kz
      have HG := Lib.hid hg
      have H0 := Lib.hid h0
      clear kz hg h0
      have KH6 := Lib.hid K6
      go_simp
      refine hK.out _ _ (Fn.pass H0.out _) (fun hHeld => ?_)
      clear hK K H0
      try simp only [Act.put,e1,e2,e3,e4,e5,e6]
      have k6 := alZ KH6.out
      have z6 := Z6
      have k4 := KZ.out
      have z4 := HG.out
      have hh := st0_46 _ g10 _ hHeld k4 z4 k6 z6 (Ne.symm (Nat.ne_of_lt K6.lt))
      rw [← hops,hfF] at hh
      exact wpAnyH_cast (by kernel_rfl) (by kernel_rfl) hh
     ·
      have h0 := hHeld
      clear hHeld
      try simp only [e1,e2,e3]
      obtain ⟨kz,hg⟩ := frZ h0
      have KZ := Lib.hid kz
      have HG := Lib.hid hg
      have H0 := Lib.hid h0
      clear kz hg h0
      have KH6 := Lib.hid K6
      go_simp
      refine hK.out _ _ (Fn.pass H0.out _) (fun hHeld => ?_)
      clear hK K H0
      try simp only [Act.put,e1,e2,e3,e4,e5,e6]
      have k6 := alZ KH6.out
      have z6 := Z6
      have k5 := KZ.out
      have z5 := HG.out
      have hh := st0_56 _ g10 _ hHeld k5 z5 k6 z6 (Ne.symm (Nat.ne_of_lt K6.lt))
      rw [← hops,hfF] at hh
      exact wpAnyH_cast (by kernel_rfl) (by kernel_rfl) hh
     ·
      have h0 := hHeld
      clear hHeld
      try simp only [e1,e2,e3]
      obtain ⟨kz,hg⟩ := frZ h0
      have KZ := Lib.hid kz
      have HG := Lib.hid hg
      have H0 := Lib.hid h0
      clear kz hg h0
      have KH6 := Lib.hid K6
      go_simp
      refine hK.out _ _ (Fn.pass H0.out _) (fun hHeld => ?_)
      clear hK K H0
      try simp only [Act.put,e1,e2,e3,e4,e5,e6]
      have k6 := alZ KH6.out
      have z6 := Z6
      have k7 := KZ.out
      have z7 := HG.out
      have hh := st0_67 g10 _ _ hHeld k6 z6 k7 z7 (Nat.ne_of_lt K6.lt)
      rw [← hops,hfF] at hh
      exact wpAnyH_cast (by kernel_rfl) (by kernel_rfl) hh
   have st0_7 : ∀ (g11 : Nat) (W : World),Fn w4 W [(g7,35,dv (sm 1)),(g6,35,dv x),(g5,23,ks K)] → Blk W g11 35 #[.int .u64 0,.int .u64 0,.int .u64 0,.int .u64 0,.int .u64 0,.int .u64 0,.int .u64 0,.int .u64 0,.int .u64 0,.int .u64 0,.int .u64 0,.int .u64 0,.int .u64 0,.int .u64 0,.int .u64 0,.int .u64 0] → w4.heap.size ≤ g11 → wpAnyH Tryd.prog .any ops Q (fun W => Fn w4 W [(g7,35,dv (sm 1)),(g6,35,dv x),(g5,23,ks K)]) 7 #[true,true,true,true,false,false,false,true,false,false,false,false] { tmps := fF (undef) (undef) (undef) (.pointer (some ⟨g11,0,none⟩)),defers := [] } W := by
    as_aux_lemma =>
     clear st0_6 st0_5 st0_4 st0_56 st0_46 st0_45 st0_567 st0_467 st0_457 st0_456 st0_4567
     intro g11 W hHeld K7 Z7
     rw [← hops,hfF]
     refine wpAnyH_ready (rs := [4,5,6]) (by kernel_rfl) (by simp) (AllReadyH.cons rfl (fun K hK => ?_) (AllReadyH.cons rfl (fun K hK => ?_) (AllReadyH.cons rfl (fun K hK => ?_) AllReadyH.nil)))
     ·
      have h0 := hHeld
      clear hHeld
      try simp only [e1,e2,e3]
      obtain ⟨kz,hg⟩ := frZ h0
      have KZ := Lib.hid kz
      have HG := Lib.hid hg
      have H0 := Lib.hid h0
      clear kz hg h0
      have KH7 := Lib.hid K7
      go_simp
      refine hK.out _ _ (Fn.pass H0.out _) (fun hHeld => ?_)
      clear hK K H0
      try simp only [Act.put,e1,e2,e3,e4,e5,e6]
      have k7 := alZ KH7.out
      have z7 := Z7
      have k4 := KZ.out
      have z4 := HG.out
      have hh := st0_47 _ g11 _ hHeld k4 z4 k7 z7 (Ne.symm (Nat.ne_of_lt K7.lt))
      rw [← hops,hfF] at hh
      exact wpAnyH_cast (by kernel_rfl) (by kernel_rfl) hh
     ·
      have h0 := hHeld
      clear hHeld
      try simp only [e1,e2,e3]
      obtain ⟨kz,hg⟩ := frZ h0
      have KZ := Lib.hid kz
      have HG := Lib.hid hg
      have H0 := Lib.hid h0
      clear kz hg h0
      have KH7 := Lib.hid K7
      go_simp
      refine hK.out _ _ (Fn.pass H0.out _) (fun hHeld => ?_)
      clear hK K H0
      try simp only [Act.put,e1,e2,e3,e4,e5,e6]
      have k7 := alZ KH7.out
      have z7 := Z7
      have k5 := KZ.out
      have z5 := HG.out
      have hh := st0_57 _ g11 _ hHeld k5 z5 k7 z7 (Ne.symm (Nat.ne_of_lt K7.lt))
      rw [← hops,hfF] at hh
      exact wpAnyH_cast (by kernel_rfl) (by kernel_rfl) hh
     ·
      have h0 := hHeld
      clear hHeld
      try simp only [e1,e2,e3]
      obtain ⟨kz,hg⟩ := frZ h0
      have KZ := Lib.hid kz
      have HG := Lib.hid hg
      have H0 := Lib.hid h0
      clear kz hg h0
      have KH7 := Lib.hid K7
      go_simp
      refine hK.out _ _ (Fn.pass H0.out _) (fun hHeld => ?_)
      clear hK K H0
      try simp only [Act.put,e1,e2,e3,e4,e5,e6]
      have k7 := alZ KH7.out
      have z7 := Z7
      have k6 := KZ.out
      have z6 := HG.out
      have hh := st0_67 _ g11 _ hHeld k6 z6 k7 z7 (Ne.symm (Nat.ne_of_lt K7.lt))
      rw [← hops,hfF] at hh
      exact wpAnyH_cast (by kernel_rfl) (by kernel_rfl) hh
   have st0_ : ∀ (W : World),Fn w4 W [(g7,35,dv (sm 1)),(g6,35,dv x),(g5,23,ks K)] → wpAnyH Tryd.prog .any ops Q (fun W => Fn w4 W [(g7,35,dv (sm 1)),(g6,35,dv x),(g5,23,ks K)]) 8 #[true,true,true,true,false,false,false,false,false,false,false,false] { tmps := fF (undef) (undef) (undef) (undef),defers := [] } W := by
    as_aux_lemma =>
     clear st0_67 st0_57 st0_56 st0_47 st0_46 st0_45 st0_567 st0_467 st0_457 st0_456 st0_4567
     intro W hHeld
     rw [← hops,hfF]
     refine wpAnyH_ready (rs := [4,5,6,7]) (by kernel_rfl) (by simp) (AllReadyH.cons rfl (fun K hK => ?_) (AllReadyH.cons rfl (fun K hK => ?_) (AllReadyH.cons rfl (fun K hK => ?_) (AllReadyH.cons rfl (fun K hK => ?_) AllReadyH.nil))))
     ·
      have h0 := hHeld
      clear hHeld
      try simp only [e1,e2,e3]
      obtain ⟨kz,hg⟩ := frZ h0
      have KZ := Lib.hid kz
      have HG := Lib.hid hg
      have H0 := Lib.hid h0
      clear kz hg h0
      go_simp
      refine hK.out _ _ (Fn.pass H0.out _) (fun hHeld => ?_)
      clear hK K H0
      try simp only [Act.put,e1,e2,e3,e4,e5,e6]
      have k4 := KZ.out
      have z4 := HG.out
      have hh := st0_4 _ _ hHeld k4 z4
      rw [← hops,hfF] at hh
      exact wpAnyH_cast (by kernel_rfl) (by kernel_rfl) hh
     ·
      have h0 := hHeld
      clear hHeld
      try simp only [e1,e2,e3]
      obtain ⟨kz,hg⟩ := frZ h0
      have KZ := Lib.hid kz
      have HG := Lib.hid hg
      have H0 := Lib.hid h0
      clear kz hg h0
      go_simp
      refine hK.out _ _ (Fn.pass H0.out _) (fun hHeld => ?_)
      clear hK K H0
      try simp only [Act.put,e1,e2,e3,e4,e5,e6]
      have k5 := KZ.out
      have z5 := HG.out
      have hh := st0_5 _ _ hHeld k5 z5
      rw [← hops,hfF] at hh
      exact wpAnyH_cast (by kernel_rfl) (by kernel_rfl) hh
     ·
      have h0 := hHeld
      clear hHeld
      try simp only [e1,e2,e3]
      obtain ⟨kz,hg⟩ := frZ h0
      have KZ := Lib.hid kz
      have HG := Lib.hid hg
      have H0 := Lib.hid h0
      clear kz hg h0
      go_simp
      refine hK.out _ _ (Fn.pass H0.out _) (fun hHeld => ?_)
      clear hK K H0
      try simp only [Act.put,e1,e2,e3,e4,e5,e6]
      have k6 := KZ.out
      have z6 := HG.out
      have hh := st0_6 _ _ hHeld k6 z6
      rw [← hops,hfF] at hh
      exact wpAnyH_cast (by kernel_rfl) (by kernel_rfl) hh
     ·
      have h0 := hHeld
      clear hHeld
      try simp only [e1,e2,e3]
      obtain ⟨kz,hg⟩ := frZ h0
      have KZ := Lib.hid kz
      have HG := Lib.hid hg
      have H0 := Lib.hid h0
      clear kz hg h0
      go_simp
      refine hK.out _ _ (Fn.pass H0.out _) (fun hHeld => ?_)
      clear hK K H0
      try simp only [Act.put,e1,e2,e3,e4,e5,e6]
      have k7 := KZ.out
      have z7 := HG.out
      have hh := st0_7 _ _ hHeld k7 z7
      rw [← hops,hfF] at hh
      exact wpAnyH_cast (by kernel_rfl) (by kernel_rfl) hh
   have hh := st0_ _ hHeld
   rw [hfF] at hh
   exact wpAnyH_cast (by kernel_rfl) (by kernel_rfl) hh
 case rest =>
  as_aux_lemma =>
   obtain ⟨g8,g9,g10,g11,rfl,rfl,rfl,rfl,z8,z9,z10,z11,n89,n810,n811,n910,n911,n1011,k8,k9,k10,k11,hb⟩ := hcut
   have hf := (((((HF.out.ext hb).more k8).more k9).more k10).more k11).sub (L' := [(g11,35,dv (sm 1)),(g10,35,dv x),(g9,35,dv 0),(g8,35,dv (sm 1)),(g6,35,dv x),(g5,23,ks K)]) (R' := [(w.heap.size + 1 + 1,23,32)]) (by simp) (by simp)
   obtain ⟨s0,hs0⟩ : ∃ s0,s0 = lgo Q0 x K 0 := ⟨_,rfl⟩
   have hs0' : s0 = ⟨sm 1,0,x,sm 1⟩ := by rw [hs0,← lgo_zero]
   have hf2 : Fr w wc [(g11,35,dv (s0).d),(g10,35,dv (s0).c),(g9,35,dv (s0).b),(g8,35,dv (s0).a),(g6,35,dv x),(g5,23,ks K)] [(w.heap.size + 1 + 1,23,32)] := by rw [hs0']; exact hf
   have HS0 := Lib.hid hs0
   have HF2 := Lib.hid hf2
   clear hf hf2 hs0 hs0' hb k8 k9 k10 k11 HF
   have hg58 : g5 < g8 ∧ g5 < g9 ∧ g5 < g10 ∧ g5 < g11 ∧ g6 < g8 ∧ g6 < g9 ∧ g6 < g10 ∧ g6 < g11 ∧ w.heap.size + 1 + 1 < g8 ∧ w.heap.size + 1 + 1 < g9 ∧ w.heap.size + 1 + 1 < g10 ∧ w.heap.size + 1 + 1 < g11 := by omega
   obtain ⟨o1,o2,o3,o4,o5,o6,o7,o8,o9,o10,o11,o12⟩ := hg58
   go_wp2_with (fail)
   go_loopw [12] (fun i wr => ∃ j : Nat,j ≤ 255 ∧ i = .int .i64 ((j : Int) - 1) ∧ Fr w wr [(g11,35,dv (lgo Q0 x K (255 - j)).d),(g10,35,dv (lgo Q0 x K (255 - j)).c),(g9,35,dv (lgo Q0 x K (255 - j)).b),(g8,35,dv (lgo Q0 x K (255 - j)).a),(g6,35,dv x),(g5,23,ks K)] [(w.heap.size + 1 + 1,23,32)]) (fun i _ => (intOf i + 1).toNat)
   case atStart => exact ⟨255,by omega,rfl,by rw [Nat.sub_self,← HS0.out]; exact HF2.out⟩
   case round =>
    obtain ⟨j,hj,rfl,hF⟩ := hrel
    clear HF2 HS0
    cases j with
    | succ i =>
     obtain ⟨t,ht⟩ : ∃ t,t = bitB K i := ⟨_,rfl⟩
     obtain ⟨s1,hs1⟩ : ∃ s1,s1 = lgo Q0 x K (255 - (i + 1)) := ⟨_,rfl⟩
     have hstep : lsw t (lnx Q0 x (lsw t s1)) = lgo Q0 x K (255 - i) := by
      have h := lgo_step x K (255 - (i + 1)) (t := t) (by rw [ht]; congr 1; omega)
      rw [← hs1,show 255 - (i + 1) + 1 = 255 - i by omega] at h
      exact h
     rw [← hs1] at hF
     obtain ⟨s2,hs2⟩ : ∃ s2,s2 = lsw t s1 := ⟨_,rfl⟩
     rw [← hs2] at hstep
     obtain ⟨s3,hs3⟩ : ∃ s3,s3 = lnx Q0 x s2 := ⟨_,rfl⟩
     rw [← hs3] at hstep
     obtain ⟨xb,hxb⟩ : ∃ m,m = K / 256 ^ (i / 8) % 256 := ⟨_,rfl⟩
     have hbv := bit_value hxb
     rw [← ht] at hbv
     have hxl : xb < 256 := by rw [hxb]; exact Nat.mod_lt _ (by omega)
     have kk := hF.get (g := g5) (t := 23) (cs := ks K) (by simp)
     have ck := kk.cell (i / 8)
     rw [ks_get _ (by omega),← hxb] at ck
     have HST := Lib.hid hstep
     have HS2 := Lib.hid hs2
     have HS3 := Lib.hid hs3
     have HF := Lib.hid hF
     have e1 : ((i + 1 : Nat) : Int) - 1 = (i : Int) := by omega
     rw [e1]
     clear hstep hs2 hs3 hF ht hs1 hxb kk e1
     have b1 : (0 : Int) ≤ (i : Int) / 8 := by omega
     have b2 : (i : Int) / 8 < 32 := by omega
     have b3 : ((i : Int) % 8) < 65 := by omega
     have b4 : (0 : Int) ≤ (i : Int) % 8 := by omega
     have b5 : decide ((0 : Int) ≤ (i : Int)) = true := decide_eq_true (by omega)
     have hw8 : IntKind.u64.wrap ((i : Int) % 8) = (i : Int) % 8 := by rw [IntKind.wrap_u64]; omega
     go_upto_region 9 with (fail)
     go_cut [13] (fun s13 wz => s13 = .bool t ∧ Fr w wz [(g11,35,dv (s1).d),(g10,35,dv (s1).c),(g9,35,dv (s1).b),(g8,35,dv (s1).a),(g6,35,dv x),(g5,23,ks K)] [(w.heap.size + 1 + 1,23,32)])
     case first =>
      go_wp2_with (fail)
      go_meet
      exact ⟨rfl,HF.out⟩
     obtain ⟨rfl,hF⟩ := hcut
     have HF0 := Lib.hid hF
     clear hF HF
     have HF := HF0
     clear HF0
     obtain ⟨wa,h_w⟩ : ∃ z : World,z = wc := ⟨_,rfl⟩
     rw [← h_w] at HF ⊢
     clear h_w
     apply_assumption
     refine wp_seq_k (fun Kc hKc => ?_)
     go_cut [13] (fun s13 wz => s13 = .bool t ∧ Fr w wz [(g11,35,dv (s2).d),(g10,35,dv (s2).c),(g9,35,dv (s2).b),(g8,35,dv (s2).a),(g6,35,dv x),(g5,23,ks K)] [(w.heap.size + 1 + 1,23,32)])
     case first =>
      cases t
      ·
       go_wp2_with (fail)
       go_meet
       exact ⟨rfl,by rw [HS2.out]; exact HF.out⟩
      ·
       as_aux_lemma =>
        have HF0 := Lib.hid (HF.out.sub (L' := [(g6,35,dv x),(g5,23,ks K)]) (R' := [(w.heap.size + 1 + 1,23,32)]) (by simp) (by simp))
        have K8 := HF.out.get (g := g8) (t := 35) (cs := dv s1.a) (by simp)
        have K9 := HF.out.get (g := g9) (t := 35) (cs := dv s1.b) (by simp)
        have K10 := HF.out.get (g := g10) (t := 35) (cs := dv s1.c) (by simp)
        have K11 := HF.out.get (g := g11) (t := 35) (cs := dv s1.d) (by simp)
        go_wp2_with (fail)
        have hHeld' := HF0.out.drew
        refine wp_region_held_drew (S := fun W => Fr w W [(g6,35,dv x),(g5,23,ks K)] [(w.heap.size + 1 + 1,23,32)]) (by kernel_rfl) ?_ (fun hHeld => ?_)
        ·
         exact HF0.out.drew
        refine wpAnyH_name ?_
        intro ops Q hops hQ
        obtain ⟨fF,hfF⟩ : ∃ f : Value → Value → Value → Value → Array Value,∀ p0 p1 p2 p3,f p0 p1 p2 p3 = #[.agg (ks k),.agg (ks n),.pointer (some ⟨w.heap.size,0,none⟩),.pointer (some ⟨w.heap.size + 1,0,none⟩),.pointer (some ⟨w.heap.size + 1 + 1,0,none⟩),.pointer (some ⟨g5,0,none⟩),.pointer (some ⟨g6,0,none⟩),.pointer (some ⟨g7,0,none⟩),.pointer (some ⟨g8,0,none⟩),.pointer (some ⟨g9,0,none⟩),.pointer (some ⟨g10,0,none⟩),.pointer (some ⟨g11,0,none⟩),.int .i64 (i : Int),.bool true,u14,u15,u16,u17,u18,u19,u20,u21,u22,u23,u24,u25,u26,u27,u28,u29,u30,u31,u32,u33,u34,u35,u36,u37,u38,u39,u40,u41,u42,u43,u44,u45,u46,u47,u48,u49,u50,u51,.bool true,p0,p1,p2,p3,u57,u58,u59,u60,u61,u62,u63,u64,u65,u66,u67,u68,u69,u70,u71,u72,u73,u74,u75,u76,u77,u78,u79,u80,u81,u82,u83,u84,u85,u86,u87,u88,u89,u90,u91,u92,u93,u94,u95,u96,u97,u98,u99,u100,u101,u102,u103,u104,u105,u106,u107,u108,u109,u110,u111,u112,u113,u114,u115] := ⟨_,fun _ _ _ _ => rfl⟩
        have sw01234 : ∀ W : World,Fr w W [(g6,35,dv x),(g5,23,ks K)] [(w.heap.size + 1 + 1,23,32)] → Blk W g8 35 (dv s1.c) → Blk W g9 35 (dv s1.b) → Blk W g10 35 (dv s1.c) → Blk W g11 35 (dv s1.d) → wpAnyH Tryd.prog .any ops Q (fun W => Fr w W [(g6,35,dv x),(g5,23,ks K)] [(w.heap.size + 1 + 1,23,32)]) 3 #[true,true,true,true,true,false,false,false] { tmps := fF (.agg (dv s1.c)) (.agg (dv s1.d)) (.agg (dv s1.a)) (.agg (dv s1.b)),defers := [] } W := by
         as_aux_lemma =>
          intro W hHeld K8 K9 K10 K11
          rw [← hops,hfF]
          rw [← hQ]
          refine wpAnyH_ready (rs := [5]) (by kernel_rfl) (by simp) (AllReadyH.cons rfl (fun K hK => ?_) AllReadyH.nil)
          have h0 := hHeld
          clear hHeld
          try simp only [e1,e2,e3]
          rw [if_pos (by rfl)]
          refine wp_store_row 35 (.tmp 9) (.tmp 54) rfl g9 (dv s1.d) rfl rfl 35 _ K9 (info_dv _) (by rw [dv_size,dv_size]) (dv_one _) ?_
          refine hK.out _ _ (Fr.setOut h0 (g := g9) (by omega) (by simp <;> omega) (by simp <;> omega) (dv s1.d)) (fun hHeld => ?_)
          have J8 := K8.setRow_other (k := g9) (by omega) (dv s1.d)
          have J9 := K9.setRow_same (dv s1.d)
          have J10 := K10.setRow_other (k := g9) (by omega) (dv s1.d)
          have J11 := K11.setRow_other (k := g9) (by omega) (dv s1.d)
          clear K8 K9 K10 K11 hK K h0
          have K8 := J8
          have K9 := J9
          have K10 := J10
          have K11 := J11
          clear J8 J9 J10 J11
          try simp only [Act.put,e1,e2,e3,e4,e5,e6]
          refine wpAnyH_ready (rs := [6]) (by kernel_rfl) (by simp) (AllReadyH.cons rfl (fun K hK => ?_) AllReadyH.nil)
          have h0 := hHeld
          clear hHeld
          try simp only [e1,e2,e3]
          rw [if_pos (by rfl)]
          refine wp_store_row 35 (.tmp 10) (.tmp 55) rfl g10 (dv s1.a) rfl rfl 35 _ K10 (info_dv _) (by rw [dv_size,dv_size]) (dv_one _) ?_
          refine hK.out _ _ (Fr.setOut h0 (g := g10) (by omega) (by simp <;> omega) (by simp <;> omega) (dv s1.a)) (fun hHeld => ?_)
          have J8 := K8.setRow_other (k := g10) (by omega) (dv s1.a)
          have J9 := K9.setRow_other (k := g10) (by omega) (dv s1.a)
          have J10 := K10.setRow_same (dv s1.a)
          have J11 := K11.setRow_other (k := g10) (by omega) (dv s1.a)
          clear K8 K9 K10 K11 hK K h0
          have K8 := J8
          have K9 := J9
          have K10 := J10
          have K11 := J11
          clear J8 J9 J10 J11
          try simp only [Act.put,e1,e2,e3,e4,e5,e6]
          refine wpAnyH_ready (rs := [7]) (by kernel_rfl) (by simp) (AllReadyH.cons rfl (fun K hK => ?_) AllReadyH.nil)
          have h0 := hHeld
          clear hHeld
          try simp only [e1,e2,e3]
          rw [if_pos (by rfl)]
          refine wp_store_row 35 (.tmp 11) (.tmp 56) rfl g11 (dv s1.b) rfl rfl 35 _ K11 (info_dv _) (by rw [dv_size,dv_size]) (dv_one _) ?_
          refine hK.out _ _ (Fr.setOut h0 (g := g11) (by omega) (by simp <;> omega) (by simp <;> omega) (dv s1.b)) (fun hHeld => ?_)
          have J8 := K8.setRow_other (k := g11) (by omega) (dv s1.b)
          have J9 := K9.setRow_other (k := g11) (by omega) (dv s1.b)
          have J10 := K10.setRow_other (k := g11) (by omega) (dv s1.b)
          have J11 := K11.setRow_same (dv s1.b)
          clear K8 K9 K10 K11 hK K h0
          have K8 := J8
          have K9 := J9
          have K10 := J10
          have K11 := J11
          clear J8 J9 J10 J11
          try simp only [Act.put,e1,e2,e3,e4,e5,e6]
          refine wpAnyH_done (by kernel_rfl) ?_ _
          have hff := (((hHeld.more K8).more K9).more K10).more K11
          have HFF := Lib.hid hff
          clear hHeld hff K8 K9 K10 K11
          go_wp2_with (fail)
          go_meet
          exact ⟨rfl,by rw [HS2.out]; exact HFF.out⟩
        have sw0234 : ∀ W : World,Fr w W [(g6,35,dv x),(g5,23,ks K)] [(w.heap.size + 1 + 1,23,32)] → Blk W g8 35 (dv s1.c) → Blk W g9 35 (dv s1.b) → Blk W g10 35 (dv s1.c) → Blk W g11 35 (dv s1.d) → wpAnyH Tryd.prog .any ops Q (fun W => Fr w W [(g6,35,dv x),(g5,23,ks K)] [(w.heap.size + 1 + 1,23,32)]) 4 #[true,false,true,true,true,false,false,false] { tmps := fF (.agg (dv s1.c)) (u54) (.agg (dv s1.a)) (.agg (dv s1.b)),defers := [] } W := by
         as_aux_lemma =>
          intro W hHeld K8 K9 K10 K11
          rw [← hops,hfF]
          refine wpAnyH_ready (rs := [1]) (by kernel_rfl) (by simp) (AllReadyH.cons rfl (fun K hK => ?_) AllReadyH.nil)
          have h0 := hHeld
          clear hHeld
          try simp only [e1,e2,e3]
          rw [if_pos (by rfl)]
          refine wp_load_row 35 (.tmp 11) rfl g11 rfl 35 (dv s1.d) (0,0) _ K11 Tryd.underlying35 rfl (info_dv _) ?_
          refine hK.out _ _ h0 (fun hHeld => ?_)
          clear hK K h0
          try simp only [Act.put,e1,e2,e3,e4,e5,e6]
          have hh := sw01234 _ hHeld K8 K9 K10 K11
          rw [← hops,hfF] at hh
          exact wpAnyH_cast (by kernel_rfl) (by kernel_rfl) hh
        have sw0123 : ∀ W : World,Fr w W [(g6,35,dv x),(g5,23,ks K)] [(w.heap.size + 1 + 1,23,32)] → Blk W g8 35 (dv s1.a) → Blk W g9 35 (dv s1.b) → Blk W g10 35 (dv s1.c) → Blk W g11 35 (dv s1.d) → wpAnyH Tryd.prog .any ops Q (fun W => Fr w W [(g6,35,dv x),(g5,23,ks K)] [(w.heap.size + 1 + 1,23,32)]) 4 #[true,true,true,true,false,false,false,false] { tmps := fF (.agg (dv s1.c)) (.agg (dv s1.d)) (.agg (dv s1.a)) (.agg (dv s1.b)),defers := [] } W := by
         as_aux_lemma =>
          intro W hHeld K8 K9 K10 K11
          rw [← hops,hfF]
          refine wpAnyH_ready (rs := [4]) (by kernel_rfl) (by simp) (AllReadyH.cons rfl (fun K hK => ?_) AllReadyH.nil)
          have h0 := hHeld
          clear hHeld
          try simp only [e1,e2,e3]
          rw [if_pos (by rfl)]
          refine wp_store_row 35 (.tmp 8) (.tmp 53) rfl g8 (dv s1.c) rfl rfl 35 _ K8 (info_dv _) (by rw [dv_size,dv_size]) (dv_one _) ?_
          refine hK.out _ _ (Fr.setOut h0 (g := g8) (by omega) (by simp <;> omega) (by simp <;> omega) (dv s1.c)) (fun hHeld => ?_)
          have J8 := K8.setRow_same (dv s1.c)
          have J9 := K9.setRow_other (k := g8) (by omega) (dv s1.c)
          have J10 := K10.setRow_other (k := g8) (by omega) (dv s1.c)
          have J11 := K11.setRow_other (k := g8) (by omega) (dv s1.c)
          clear K8 K9 K10 K11 hK K h0
          have K8 := J8
          have K9 := J9
          have K10 := J10
          have K11 := J11
          clear J8 J9 J10 J11
          try simp only [Act.put,e1,e2,e3,e4,e5,e6]
          have hh := sw01234 _ hHeld K8 K9 K10 K11
          rw [← hops,hfF] at hh
          exact wpAnyH_cast (by kernel_rfl) (by kernel_rfl) hh
        have sw012 : ∀ W : World,Fr w W [(g6,35,dv x),(g5,23,ks K)] [(w.heap.size + 1 + 1,23,32)] → Blk W g8 35 (dv s1.a) → Blk W g9 35 (dv s1.b) → Blk W g10 35 (dv s1.c) → Blk W g11 35 (dv s1.d) → wpAnyH Tryd.prog .any ops Q (fun W => Fr w W [(g6,35,dv x),(g5,23,ks K)] [(w.heap.size + 1 + 1,23,32)]) 5 #[true,true,true,false,false,false,false,false] { tmps := fF (.agg (dv s1.c)) (.agg (dv s1.d)) (.agg (dv s1.a)) (u56),defers := [] } W := by
         as_aux_lemma =>
          intro W hHeld K8 K9 K10 K11
          rw [← hops,hfF]
          refine wpAnyH_ready (rs := [3]) (by kernel_rfl) (by simp) (AllReadyH.cons rfl (fun K hK => ?_) AllReadyH.nil)
          have h0 := hHeld
          clear hHeld
          try simp only [e1,e2,e3]
          rw [if_pos (by rfl)]
          refine wp_load_row 35 (.tmp 9) rfl g9 rfl 35 (dv s1.b) (0,0) _ K9 Tryd.underlying35 rfl (info_dv _) ?_
          refine hK.out _ _ h0 (fun hHeld => ?_)
          clear hK K h0
          try simp only [Act.put,e1,e2,e3,e4,e5,e6]
          have hh := sw0123 _ hHeld K8 K9 K10 K11
          rw [← hops,hfF] at hh
          exact wpAnyH_cast (by kernel_rfl) (by kernel_rfl) hh
        have sw013 : ∀ W : World,Fr w W [(g6,35,dv x),(g5,23,ks K)] [(w.heap.size + 1 + 1,23,32)] → Blk W g8 35 (dv s1.a) → Blk W g9 35 (dv s1.b) → Blk W g10 35 (dv s1.c) → Blk W g11 35 (dv s1.d) → wpAnyH Tryd.prog .any ops Q (fun W => Fr w W [(g6,35,dv x),(g5,23,ks K)] [(w.heap.size + 1 + 1,23,32)]) 5 #[true,true,false,true,false,false,false,false] { tmps := fF (.agg (dv s1.c)) (.agg (dv s1.d)) (u55) (.agg (dv s1.b)),defers := [] } W := by
         as_aux_lemma =>
          intro W hHeld K8 K9 K10 K11
          rw [← hops,hfF]
          refine wpAnyH_ready (rs := [2]) (by kernel_rfl) (by simp) (AllReadyH.cons rfl (fun K hK => ?_) AllReadyH.nil)
          have h0 := hHeld
          clear hHeld
          try simp only [e1,e2,e3]
          rw [if_pos (by rfl)]
          refine wp_load_row 35 (.tmp 8) rfl g8 rfl 35 (dv s1.a) (0,0) _ K8 Tryd.underlying35 rfl (info_dv _) ?_
          refine hK.out _ _ h0 (fun hHeld => ?_)
          clear hK K h0
          try simp only [Act.put,e1,e2,e3,e4,e5,e6]
          have hh := sw0123 _ hHeld K8 K9 K10 K11
          rw [← hops,hfF] at hh
          exact wpAnyH_cast (by kernel_rfl) (by kernel_rfl) hh
        have sw023 : ∀ W : World,Fr w W [(g6,35,dv x),(g5,23,ks K)] [(w.heap.size + 1 + 1,23,32)] → Blk W g8 35 (dv s1.a) → Blk W g9 35 (dv s1.b) → Blk W g10 35 (dv s1.c) → Blk W g11 35 (dv s1.d) → wpAnyH Tryd.prog .any ops Q (fun W => Fr w W [(g6,35,dv x),(g5,23,ks K)] [(w.heap.size + 1 + 1,23,32)]) 5 #[true,false,true,true,false,false,false,false] { tmps := fF (.agg (dv s1.c)) (u54) (.agg (dv s1.a)) (.agg (dv s1.b)),defers := [] } W := by
         as_aux_lemma =>
          intro W hHeld K8 K9 K10 K11
          rw [← hops,hfF]
          refine wpAnyH_ready (rs := [1,4]) (by kernel_rfl) (by simp) (AllReadyH.cons rfl (fun K hK => ?_) (AllReadyH.cons rfl (fun K hK => ?_) AllReadyH.nil))
          ·
           have h0 := hHeld
           clear hHeld
           try simp only [e1,e2,e3]
           rw [if_pos (by rfl)]
           refine wp_load_row 35 (.tmp 11) rfl g11 rfl 35 (dv s1.d) (0,0) _ K11 Tryd.underlying35 rfl (info_dv _) ?_
           refine hK.out _ _ h0 (fun hHeld => ?_)
           clear hK K h0
           try simp only [Act.put,e1,e2,e3,e4,e5,e6]
           have hh := sw0123 _ hHeld K8 K9 K10 K11
           rw [← hops,hfF] at hh
           exact wpAnyH_cast (by kernel_rfl) (by kernel_rfl) hh
          ·
           have h0 := hHeld
           clear hHeld
           try simp only [e1,e2,e3]
           rw [if_pos (by rfl)]
           refine wp_store_row 35 (.tmp 8) (.tmp 53) rfl g8 (dv s1.c) rfl rfl 35 _ K8 (info_dv _) (by rw [dv_size,dv_size]) (dv_one _) ?_
           refine hK.out _ _ (Fr.setOut h0 (g := g8) (by omega) (by simp <;> omega) (by simp <;> omega) (dv s1.c)) (fun hHeld => ?_)
           have J8 := K8.setRow_same (dv s1.c)
           have J9 := K9.setRow_other (k := g8) (by omega) (dv s1.c)
           have J10 := K10.setRow_other (k := g8) (by omega) (dv s1.c)
           have J11 := K11.setRow_other (k := g8) (by omega) (dv s1.c)
           clear K8 K9 K10 K11 hK K h0
           have K8 := J8
           have K9 := J9
           have K10 := J10
           have K11 := J11
           clear J8 J9 J10 J11
           try simp only [Act.put,e1,e2,e3,e4,e5,e6]
           have hh := sw0234 _ hHeld K8 K9 K10 K11
           rw [← hops,hfF] at hh
           exact wpAnyH_cast (by kernel_rfl) (by kernel_rfl) hh
        have sw123 : ∀ W : World,Fr w W [(g6,35,dv x),(g5,23,ks K)] [(w.heap.size + 1 + 1,23,32)] → Blk W g8 35 (dv s1.a) → Blk W g9 35 (dv s1.b) → Blk W g10 35 (dv s1.c) → Blk W g11 35 (dv s1.d) → wpAnyH Tryd.prog .any ops Q (fun W => Fr w W [(g6,35,dv x),(g5,23,ks K)] [(w.heap.size + 1 + 1,23,32)]) 5 #[false,true,true,true,false,false,false,false] { tmps := fF (u53) (.agg (dv s1.d)) (.agg (dv s1.a)) (.agg (dv s1.b)),defers := [] } W := by
         as_aux_lemma =>
          intro W hHeld K8 K9 K10 K11
          rw [← hops,hfF]
          refine wpAnyH_ready (rs := [0]) (by kernel_rfl) (by simp) (AllReadyH.cons rfl (fun K hK => ?_) AllReadyH.nil)
          have h0 := hHeld
          clear hHeld
          try simp only [e1,e2,e3]
          rw [if_pos (by rfl)]
          refine wp_load_row 35 (.tmp 10) rfl g10 rfl 35 (dv s1.c) (0,0) _ K10 Tryd.underlying35 rfl (info_dv _) ?_
          refine hK.out _ _ h0 (fun hHeld => ?_)
          clear hK K h0
          try simp only [Act.put,e1,e2,e3,e4,e5,e6]
          have hh := sw0123 _ hHeld K8 K9 K10 K11
          rw [← hops,hfF] at hh
          exact wpAnyH_cast (by kernel_rfl) (by kernel_rfl) hh
        have sw01 : ∀ W : World,Fr w W [(g6,35,dv x),(g5,23,ks K)] [(w.heap.size + 1 + 1,23,32)] → Blk W g8 35 (dv s1.a) → Blk W g9 35 (dv s1.b) → Blk W g10 35 (dv s1.c) → Blk W g11 35 (dv s1.d) → wpAnyH Tryd.prog .any ops Q (fun W => Fr w W [(g6,35,dv x),(g5,23,ks K)] [(w.heap.size + 1 + 1,23,32)]) 6 #[true,true,false,false,false,false,false,false] { tmps := fF (.agg (dv s1.c)) (.agg (dv s1.d)) (u55) (u56),defers := [] } W := by
         as_aux_lemma =>
          intro W hHeld K8 K9 K10 K11
          rw [← hops,hfF]
          refine wpAnyH_ready (rs := [2,3]) (by kernel_rfl) (by simp) (AllReadyH.cons rfl (fun K hK => ?_) (AllReadyH.cons rfl (fun K hK => ?_) AllReadyH.nil))
          ·
           have h0 := hHeld
           clear hHeld
           try simp only [e1,e2,e3]
           rw [if_pos (by rfl)]
           refine wp_load_row 35 (.tmp 8) rfl g8 rfl 35 (dv s1.a) (0,0) _ K8 Tryd.underlying35 rfl (info_dv _) ?_
           refine hK.out _ _ h0 (fun hHeld => ?_)
           clear hK K h0
           try simp only [Act.put,e1,e2,e3,e4,e5,e6]
           have hh := sw012 _ hHeld K8 K9 K10 K11
           rw [← hops,hfF] at hh
           exact wpAnyH_cast (by kernel_rfl) (by kernel_rfl) hh
          ·
           have h0 := hHeld
           clear hHeld
           try simp only [e1,e2,e3]
           rw [if_pos (by rfl)]
           refine wp_load_row 35 (.tmp 9) rfl g9 rfl 35 (dv s1.b) (0,0) _ K9 Tryd.underlying35 rfl (info_dv _) ?_
           refine hK.out _ _ h0 (fun hHeld => ?_)
           clear hK K h0
           try simp only [Act.put,e1,e2,e3,e4,e5,e6]
           have hh := sw013 _ hHeld K8 K9 K10 K11
           rw [← hops,hfF] at hh
           exact wpAnyH_cast (by kernel_rfl) (by kernel_rfl) hh
        have sw02 : ∀ W : World,Fr w W [(g6,35,dv x),(g5,23,ks K)] [(w.heap.size + 1 + 1,23,32)] → Blk W g8 35 (dv s1.a) → Blk W g9 35 (dv s1.b) → Blk W g10 35 (dv s1.c) → Blk W g11 35 (dv s1.d) → wpAnyH Tryd.prog .any ops Q (fun W => Fr w W [(g6,35,dv x),(g5,23,ks K)] [(w.heap.size + 1 + 1,23,32)]) 6 #[true,false,true,false,false,false,false,false] { tmps := fF (.agg (dv s1.c)) (u54) (.agg (dv s1.a)) (u56),defers := [] } W := by
         as_aux_lemma =>
          intro W hHeld K8 K9 K10 K11
          rw [← hops,hfF]
          refine wpAnyH_ready (rs := [1,3]) (by kernel_rfl) (by simp) (AllReadyH.cons rfl (fun K hK => ?_) (AllReadyH.cons rfl (fun K hK => ?_) AllReadyH.nil))
          ·
           have h0 := hHeld
           clear hHeld
           try simp only [e1,e2,e3]
           rw [if_pos (by rfl)]
           refine wp_load_row 35 (.tmp 11) rfl g11 rfl 35 (dv s1.d) (0,0) _ K11 Tryd.underlying35 rfl (info_dv _) ?_
           refine hK.out _ _ h0 (fun hHeld => ?_)
           clear hK K h0
           try simp only [Act.put,e1,e2,e3,e4,e5,e6]
           have hh := sw012 _ hHeld K8 K9 K10 K11
           rw [← hops,hfF] at hh
           exact wpAnyH_cast (by kernel_rfl) (by kernel_rfl) hh
          ·
           have h0 := hHeld
           clear hHeld
           try simp only [e1,e2,e3]
           rw [if_pos (by rfl)]
           refine wp_load_row 35 (.tmp 9) rfl g9 rfl 35 (dv s1.b) (0,0) _ K9 Tryd.underlying35 rfl (info_dv _) ?_
           refine hK.out _ _ h0 (fun hHeld => ?_)
           clear hK K h0
           try simp only [Act.put,e1,e2,e3,e4,e5,e6]
           have hh := sw023 _ hHeld K8 K9 K10 K11
           rw [← hops,hfF] at hh
           exact wpAnyH_cast (by kernel_rfl) (by kernel_rfl) hh
        have sw03 : ∀ W : World,Fr w W [(g6,35,dv x),(g5,23,ks K)] [(w.heap.size + 1 + 1,23,32)] → Blk W g8 35 (dv s1.a) → Blk W g9 35 (dv s1.b) → Blk W g10 35 (dv s1.c) → Blk W g11 35 (dv s1.d) → wpAnyH Tryd.prog .any ops Q (fun W => Fr w W [(g6,35,dv x),(g5,23,ks K)] [(w.heap.size + 1 + 1,23,32)]) 6 #[true,false,false,true,false,false,false,false] { tmps := fF (.agg (dv s1.c)) (u54) (u55) (.agg (dv s1.b)),defers := [] } W := by
         as_aux_lemma =>
          intro W hHeld K8 K9 K10 K11
          rw [← hops,hfF]
          refine wpAnyH_ready (rs := [1,2]) (by kernel_rfl) (by simp) (AllReadyH.cons rfl (fun K hK => ?_) (AllReadyH.cons rfl (fun K hK => ?_) AllReadyH.nil))
          ·
           have h0 := hHeld
           clear hHeld
           try simp only [e1,e2,e3]
           rw [if_pos (by rfl)]
           refine wp_load_row 35 (.tmp 11) rfl g11 rfl 35 (dv s1.d) (0,0) _ K11 Tryd.underlying35 rfl (info_dv _) ?_
           refine hK.out _ _ h0 (fun hHeld => ?_)
           clear hK K h0
           try simp only [Act.put,e1,e2,e3,e4,e5,e6]
           have hh := sw013 _ hHeld K8 K9 K10 K11
           rw [← hops,hfF] at hh
           exact wpAnyH_cast (by kernel_rfl) (by kernel_rfl) hh
          ·
           have h0 := hHeld
           clear hHeld
           try simp only [e1,e2,e3]
           rw [if_pos (by rfl)]
           refine wp_load_row 35 (.tmp 8) rfl g8 rfl 35 (dv s1.a) (0,0) _ K8 Tryd.underlying35 rfl (info_dv _) ?_
           refine hK.out _ _ h0 (fun hHeld => ?_)
           clear hK K h0
           try simp only [Act.put,e1,e2,e3,e4,e5,e6]
           have hh := sw023 _ hHeld K8 K9 K10 K11
           rw [← hops,hfF] at hh
           exact wpAnyH_cast (by kernel_rfl) (by kernel_rfl) hh
        have sw12 : ∀ W : World,Fr w W [(g6,35,dv x),(g5,23,ks K)] [(w.heap.size + 1 + 1,23,32)] → Blk W g8 35 (dv s1.a) → Blk W g9 35 (dv s1.b) → Blk W g10 35 (dv s1.c) → Blk W g11 35 (dv s1.d) → wpAnyH Tryd.prog .any ops Q (fun W => Fr w W [(g6,35,dv x),(g5,23,ks K)] [(w.heap.size + 1 + 1,23,32)]) 6 #[false,true,true,false,false,false,false,false] { tmps := fF (u53) (.agg (dv s1.d)) (.agg (dv s1.a)) (u56),defers := [] } W := by
         as_aux_lemma =>
          intro W hHeld K8 K9 K10 K11
          rw [← hops,hfF]
          refine wpAnyH_ready (rs := [0,3]) (by kernel_rfl) (by simp) (AllReadyH.cons rfl (fun K hK => ?_) (AllReadyH.cons rfl (fun K hK => ?_) AllReadyH.nil))
          ·
           have h0 := hHeld
           clear hHeld
           try simp only [e1,e2,e3]
           rw [if_pos (by rfl)]
           refine wp_load_row 35 (.tmp 10) rfl g10 rfl 35 (dv s1.c) (0,0) _ K10 Tryd.underlying35 rfl (info_dv _) ?_
           refine hK.out _ _ h0 (fun hHeld => ?_)
           clear hK K h0
           try simp only [Act.put,e1,e2,e3,e4,e5,e6]
           have hh := sw012 _ hHeld K8 K9 K10 K11
           rw [← hops,hfF] at hh
           exact wpAnyH_cast (by kernel_rfl) (by kernel_rfl) hh
          ·
           have h0 := hHeld
           clear hHeld
           try simp only [e1,e2,e3]
           rw [if_pos (by rfl)]
           refine wp_load_row 35 (.tmp 9) rfl g9 rfl 35 (dv s1.b) (0,0) _ K9 Tryd.underlying35 rfl (info_dv _) ?_
           refine hK.out _ _ h0 (fun hHeld => ?_)
           clear hK K h0
           try simp only [Act.put,e1,e2,e3,e4,e5,e6]
           have hh := sw123 _ hHeld K8 K9 K10 K11
           rw [← hops,hfF] at hh
           exact wpAnyH_cast (by kernel_rfl) (by kernel_rfl) hh
        have sw13 : ∀ W : World,Fr w W [(g6,35,dv x),(g5,23,ks K)] [(w.heap.size + 1 + 1,23,32)] → Blk W g8 35 (dv s1.a) → Blk W g9 35 (dv s1.b) → Blk W g10 35 (dv s1.c) → Blk W g11 35 (dv s1.d) → wpAnyH Tryd.prog .any ops Q (fun W => Fr w W [(g6,35,dv x),(g5,23,ks K)] [(w.heap.size + 1 + 1,23,32)]) 6 #[false,true,false,true,false,false,false,false] { tmps := fF (u53) (.agg (dv s1.d)) (u55) (.agg (dv s1.b)),defers := [] } W := by
         as_aux_lemma =>
          intro W hHeld K8 K9 K10 K11
          rw [← hops,hfF]
          refine wpAnyH_ready (rs := [0,2]) (by kernel_rfl) (by simp) (AllReadyH.cons rfl (fun K hK => ?_) (AllReadyH.cons rfl (fun K hK => ?_) AllReadyH.nil))
          ·
           have h0 := hHeld
           clear hHeld
           try simp only [e1,e2,e3]
           rw [if_pos (by rfl)]
           refine wp_load_row 35 (.tmp 10) rfl g10 rfl 35 (dv s1.c) (0,0) _ K10 Tryd.underlying35 rfl (info_dv _) ?_
           refine hK.out _ _ h0 (fun hHeld => ?_)
           clear hK K h0
           try simp only [Act.put,e1,e2,e3,e4,e5,e6]
           have hh := sw013 _ hHeld K8 K9 K10 K11
           rw [← hops,hfF] at hh
           exact wpAnyH_cast (by kernel_rfl) (by kernel_rfl) hh
          ·
           have h0 := hHeld
           clear hHeld
           try simp only [e1,e2,e3]
           rw [if_pos (by rfl)]
           refine wp_load_row 35 (.tmp 8) rfl g8 rfl 35 (dv s1.a) (0,0) _ K8 Tryd.underlying35 rfl (info_dv _) ?_
           refine hK.out _ _ h0 (fun hHeld => ?_)
           clear hK K h0
           try simp only [Act.put,e1,e2,e3,e4,e5,e6]
           have hh := sw123 _ hHeld K8 K9 K10 K11
           rw [← hops,hfF] at hh
           exact wpAnyH_cast (by kernel_rfl) (by kernel_rfl) hh
        have sw23 : ∀ W : World,Fr w W [(g6,35,dv x),(g5,23,ks K)] [(w.heap.size + 1 + 1,23,32)] → Blk W g8 35 (dv s1.a) → Blk W g9 35 (dv s1.b) → Blk W g10 35 (dv s1.c) → Blk W g11 35 (dv s1.d) → wpAnyH Tryd.prog .any ops Q (fun W => Fr w W [(g6,35,dv x),(g5,23,ks K)] [(w.heap.size + 1 + 1,23,32)]) 6 #[false,false,true,true,false,false,false,false] { tmps := fF (u53) (u54) (.agg (dv s1.a)) (.agg (dv s1.b)),defers := [] } W := by
         as_aux_lemma =>
          intro W hHeld K8 K9 K10 K11
          rw [← hops,hfF]
          refine wpAnyH_ready (rs := [0,1]) (by kernel_rfl) (by simp) (AllReadyH.cons rfl (fun K hK => ?_) (AllReadyH.cons rfl (fun K hK => ?_) AllReadyH.nil))
          ·
           have h0 := hHeld
           clear hHeld
           try simp only [e1,e2,e3]
           rw [if_pos (by rfl)]
           refine wp_load_row 35 (.tmp 10) rfl g10 rfl 35 (dv s1.c) (0,0) _ K10 Tryd.underlying35 rfl (info_dv _) ?_
           refine hK.out _ _ h0 (fun hHeld => ?_)
           clear hK K h0
           try simp only [Act.put,e1,e2,e3,e4,e5,e6]
           have hh := sw023 _ hHeld K8 K9 K10 K11
           rw [← hops,hfF] at hh
           exact wpAnyH_cast (by kernel_rfl) (by kernel_rfl) hh
          ·
           have h0 := hHeld
           clear hHeld
           try simp only [e1,e2,e3]
           rw [if_pos (by rfl)]
           refine wp_load_row 35 (.tmp 11) rfl g11 rfl 35 (dv s1.d) (0,0) _ K11 Tryd.underlying35 rfl (info_dv _) ?_
           refine hK.out _ _ h0 (fun hHeld => ?_)
           clear hK K h0
           try simp only [Act.put,e1,e2,e3,e4,e5,e6]
           have hh := sw123 _ hHeld K8 K9 K10 K11
           rw [← hops,hfF] at hh
           exact wpAnyH_cast (by kernel_rfl) (by kernel_rfl) hh
        have sw0 : ∀ W : World,Fr w W [(g6,35,dv x),(g5,23,ks K)] [(w.heap.size + 1 + 1,23,32)] → Blk W g8 35 (dv s1.a) → Blk W g9 35 (dv s1.b) → Blk W g10 35 (dv s1.c) → Blk W g11 35 (dv s1.d) → wpAnyH Tryd.prog .any ops Q (fun W => Fr w W [(g6,35,dv x),(g5,23,ks K)] [(w.heap.size + 1 + 1,23,32)]) 7 #[true,false,false,false,false,false,false,false] { tmps := fF (.agg (dv s1.c)) (u54) (u55) (u56),defers := [] } W := by
         as_aux_lemma =>
          intro W hHeld K8 K9 K10 K11
          rw [← hops,hfF]
          refine wpAnyH_ready (rs := [1,2,3]) (by kernel_rfl) (by simp) (AllReadyH.cons rfl (fun K hK => ?_) (AllReadyH.cons rfl (fun K hK => ?_) (AllReadyH.cons rfl (fun K hK => ?_) AllReadyH.nil)))
          ·
           have h0 := hHeld
           clear hHeld
           try simp only [e1,e2,e3]
           rw [if_pos (by rfl)]
           refine wp_load_row 35 (.tmp 11) rfl g11 rfl 35 (dv s1.d) (0,0) _ K11 Tryd.underlying35 rfl (info_dv _) ?_
           refine hK.out _ _ h0 (fun hHeld => ?_)
           clear hK K h0
           try simp only [Act.put,e1,e2,e3,e4,e5,e6]
           have hh := sw01 _ hHeld K8 K9 K10 K11
           rw [← hops,hfF] at hh
           exact wpAnyH_cast (by kernel_rfl) (by kernel_rfl) hh
          ·
           have h0 := hHeld
           clear hHeld
           try simp only [e1,e2,e3]
           rw [if_pos (by rfl)]
           refine wp_load_row 35 (.tmp 8) rfl g8 rfl 35 (dv s1.a) (0,0) _ K8 Tryd.underlying35 rfl (info_dv _) ?_
           refine hK.out _ _ h0 (fun hHeld => ?_)
           clear hK K h0
           try simp only [Act.put,e1,e2,e3,e4,e5,e6]
           have hh := sw02 _ hHeld K8 K9 K10 K11
           rw [← hops,hfF] at hh
           exact wpAnyH_cast (by kernel_rfl) (by kernel_rfl) hh
          ·
           have h0 := hHeld
           clear hHeld
           try simp only [e1,e2,e3]
           rw [if_pos (by rfl)]
           refine wp_load_row 35 (.tmp 9) rfl g9 rfl 35 (dv s1.b) (0,0) _ K9 Tryd.underlying35 rfl (info_dv _) ?_
           refine hK.out _ _ h0 (fun hHeld => ?_)
           clear hK K h0
           try simp only [Act.put,e1,e2,e3,e4,e5,e6]
           have hh := sw03 _ hHeld K8 K9 K10 K11
           rw [← hops,hfF] at hh
           exact wpAnyH_cast (by kernel_rfl) (by kernel_rfl) hh
        have sw1 : ∀ W : World,Fr w W [(g6,35,dv x),(g5,23,ks K)] [(w.heap.size + 1 + 1,23,32)] → Blk W g8 35 (dv s1.a) → Blk W g9 35 (dv s1.b) → Blk W g10 35 (dv s1.c) → Blk W g11 35 (dv s1.d) → wpAnyH Tryd.prog .any ops Q (fun W => Fr w W [(g6,35,dv x),(g5,23,ks K)] [(w.heap.size + 1 + 1,23,32)]) 7 #[false,true,false,false,false,false,false,false] { tmps := fF (u53) (.agg (dv s1.d)) (u55) (u56),defers := [] } W := by
         as_aux_lemma =>
          intro W hHeld K8 K9 K10 K11
          rw [← hops,hfF]
          refine wpAnyH_ready (rs := [0,2,3]) (by kernel_rfl) (by simp) (AllReadyH.cons rfl (fun K hK => ?_) (AllReadyH.cons rfl (fun K hK => ?_) (AllReadyH.cons rfl (fun K hK => ?_) AllReadyH.nil)))
          ·
           have h0 := hHeld
           clear hHeld
           try simp only [e1,e2,e3]
           rw [if_pos (by rfl)]
           refine wp_load_row 35 (.tmp 10) rfl g10 rfl 35 (dv s1.c) (0,0) _ K10 Tryd.underlying35 rfl (info_dv _) ?_
           refine hK.out _ _ h0 (fun hHeld => ?_)
           clear hK K h0
           try simp only [Act.put,e1,e2,e3,e4,e5,e6]
           have hh := sw01 _ hHeld K8 K9 K10 K11
           rw [← hops,hfF] at hh
           exact wpAnyH_cast (by kernel_rfl) (by kernel_rfl) hh
          ·
           have h0 := hHeld
           clear hHeld
           try simp only [e1,e2,e3]
           rw [if_pos (by rfl)]
           refine wp_load_row 35 (.tmp 8) rfl g8 rfl 35 (dv s1.a) (0,0) _ K8 Tryd.underlying35 rfl (info_dv _) ?_
           refine hK.out _ _ h0 (fun hHeld => ?_)
           clear hK K h0
           try simp only [Act.put,e1,e2,e3,e4,e5,e6]
           have hh := sw12 _ hHeld K8 K9 K10 K11
           rw [← hops,hfF] at hh
           exact wpAnyH_cast (by kernel_rfl) (by kernel_rfl) hh
          ·
           have h0 := hHeld
           clear hHeld
           try simp only [e1,e2,e3]
           rw [if_pos (by rfl)]
           refine wp_load_row 35 (.tmp 9) rfl g9 rfl 35 (dv s1.b) (0,0) _ K9 Tryd.underlying35 rfl (info_dv _) ?_
           refine hK.out _ _ h0 (fun hHeld => ?_)
           clear hK K h0
           try simp only [Act.put,e1,e2,e3,e4,e5,e6]
           have hh := sw13 _ hHeld K8 K9 K10 K11
           rw [← hops,hfF] at hh
           exact wpAnyH_cast (by kernel_rfl) (by kernel_rfl) hh
        have sw2 : ∀ W : World,Fr w W [(g6,35,dv x),(g5,23,ks K)] [(w.heap.size + 1 + 1,23,32)] → Blk W g8 35 (dv s1.a) → Blk W g9 35 (dv s1.b) → Blk W g10 35 (dv s1.c) → Blk W g11 35 (dv s1.d) → wpAnyH Tryd.prog .any ops Q (fun W => Fr w W [(g6,35,dv x),(g5,23,ks K)] [(w.heap.size + 1 + 1,23,32)]) 7 #[false,false,true,false,false,false,false,false] { tmps := fF (u53) (u54) (.agg (dv s1.a)) (u56),defers := [] } W := by
         as_aux_lemma =>
          intro W hHeld K8 K9 K10 K11
          rw [← hops,hfF]
          refine wpAnyH_ready (rs := [0,1,3]) (by kernel_rfl) (by simp) (AllReadyH.cons rfl (fun K hK => ?_) (AllReadyH.cons rfl (fun K hK => ?_) (AllReadyH.cons rfl (fun K hK => ?_) AllReadyH.nil)))
          ·
           have h0 := hHeld
           clear hHeld
           try simp only [e1,e2,e3]
           rw [if_pos (by rfl)]
           refine wp_load_row 35 (.tmp 10) rfl g10 rfl 35 (dv s1.c) (0,0) _ K10 Tryd.underlying35 rfl (info_dv _) ?_
           refine hK.out _ _ h0 (fun hHeld => ?_)
           clear hK K h0
           try simp only [Act.put,e1,e2,e3,e4,e5,e6]
           have hh := sw02 _ hHeld K8 K9 K10 K11
           rw [← hops,hfF] at hh
           exact wpAnyH_cast (by kernel_rfl) (by kernel_rfl) hh
          ·
           have h0 := hHeld
           clear hHeld
           try simp only [e1,e2,e3]
           rw [if_pos (by rfl)]
           refine wp_load_row 35 (.tmp 11) rfl g11 rfl 35 (dv s1.d) (0,0) _ K11 Tryd.underlying35 rfl (info_dv _) ?_
           refine hK.out _ _ h0 (fun hHeld => ?_)
           clear hK K h0
           try simp only [Act.put,e1,e2,e3,e4,e5,e6]
           have hh := sw12 _ hHeld K8 K9 K10 K11
           rw [← hops,hfF] at hh
           exact wpAnyH_cast (by kernel_rfl) (by kernel_rfl) hh
          ·
           have h0 := hHeld
           clear hHeld
           try simp only [e1,e2,e3]
           rw [if_pos (by rfl)]
           refine wp_load_row 35 (.tmp 9) rfl g9 rfl 35 (dv s1.b) (0,0) _ K9 Tryd.underlying35 rfl (info_dv _) ?_
           refine hK.out _ _ h0 (fun hHeld => ?_)
           clear hK K h0
           try simp only [Act.put,e1,e2,e3,e4,e5,e6]
           have hh := sw23 _ hHeld K8 K9 K10 K11
           rw [← hops,hfF] at hh
           exact wpAnyH_cast (by kernel_rfl) (by kernel_rfl) hh
        have sw3 : ∀ W : World,Fr w W [(g6,35,dv x),(g5,23,ks K)] [(w.heap.size + 1 + 1,23,32)] → Blk W g8 35 (dv s1.a) → Blk W g9 35 (dv s1.b) → Blk W g10 35 (dv s1.c) → Blk W g11 35 (dv s1.d) → wpAnyH Tryd.prog .any ops Q (fun W => Fr w W [(g6,35,dv x),(g5,23,ks K)] [(w.heap.size + 1 + 1,23,32)]) 7 #[false,false,false,true,false,false,false,false] { tmps := fF (u53) (u54) (u55) (.agg (dv s1.b)),defers := [] } W := by
         as_aux_lemma =>
          intro W hHeld K8 K9 K10 K11
          rw [← hops,hfF]
          refine wpAnyH_ready (rs := [0,1,2]) (by kernel_rfl) (by simp) (AllReadyH.cons rfl (fun K hK => ?_) (AllReadyH.cons rfl (fun K hK => ?_) (AllReadyH.cons rfl (fun K hK => ?_) AllReadyH.nil)))
          ·
           have h0 := hHeld
           clear hHeld
           try simp only [e1,e2,e3]
           rw [if_pos (by rfl)]
           refine wp_load_row 35 (.tmp 10) rfl g10 rfl 35 (dv s1.c) (0,0) _ K10 Tryd.underlying35 rfl (info_dv _) ?_
           refine hK.out _ _ h0 (fun hHeld => ?_)
           clear hK K h0
           try simp only [Act.put,e1,e2,e3,e4,e5,e6]
           have hh := sw03 _ hHeld K8 K9 K10 K11
           rw [← hops,hfF] at hh
           exact wpAnyH_cast (by kernel_rfl) (by kernel_rfl) hh
          ·
           have h0 := hHeld
           clear hHeld
           try simp only [e1,e2,e3]
           rw [if_pos (by rfl)]
           refine wp_load_row 35 (.tmp 11) rfl g11 rfl 35 (dv s1.d) (0,0) _ K11 Tryd.underlying35 rfl (info_dv _) ?_
           refine hK.out _ _ h0 (fun hHeld => ?_)
           clear hK K h0
           try simp only [Act.put,e1,e2,e3,e4,e5,e6]
           have hh := sw13 _ hHeld K8 K9 K10 K11
           rw [← hops,hfF] at hh
           exact wpAnyH_cast (by kernel_rfl) (by kernel_rfl) hh
          ·
           have h0 := hHeld
           clear hHeld
           try simp only [e1,e2,e3]
           rw [if_pos (by rfl)]
           refine wp_load_row 35 (.tmp 8) rfl g8 rfl 35 (dv s1.a) (0,0) _ K8 Tryd.underlying35 rfl (info_dv _) ?_
           refine hK.out _ _ h0 (fun hHeld => ?_)
           clear hK K h0
           try simp only [Act.put,e1,e2,e3,e4,e5,e6]
           have hh := sw23 _ hHeld K8 K9 K10 K11
           rw [← hops,hfF] at hh
           exact wpAnyH_cast (by kernel_rfl) (by kernel_rfl) hh
        have sw : ∀ W : World,Fr w W [(g6,35,dv x),(g5,23,ks K)] [(w.heap.size + 1 + 1,23,32)] → Blk W g8 35 (dv s1.a) → Blk W g9 35 (dv s1.b) → Blk W g10 35 (dv s1.c) → Blk W g11 35 (dv s1.d) → wpAnyH Tryd.prog .any ops Q (fun W => Fr w W [(g6,35,dv x),(g5,23,ks K)] [(w.heap.size + 1 + 1,23,32)]) 8 #[false,false,false,false,false,false,false,false] { tmps := fF (u53) (u54) (u55) (u56),defers := [] } W := by
         as_aux_lemma =>
          intro W hHeld K8 K9 K10 K11
          rw [← hops,hfF]
          refine wpAnyH_ready (rs := [0,1,2,3]) (by kernel_rfl) (by simp) (AllReadyH.cons rfl (fun K hK => ?_) (AllReadyH.cons rfl (fun K hK => ?_) (AllReadyH.cons rfl (fun K hK => ?_) (AllReadyH.cons rfl (fun K hK => ?_) AllReadyH.nil))))
          ·
           have h0 := hHeld
           clear hHeld
           try simp only [e1,e2,e3]
           rw [if_pos (by rfl)]
           refine wp_load_row 35 (.tmp 10) rfl g10 rfl 35 (dv s1.c) (0,0) _ K10 Tryd.underlying35 rfl (info_dv _) ?_
           refine hK.out _ _ h0 (fun hHeld => ?_)
           clear hK K h0
           try simp only [Act.put,e1,e2,e3,e4,e5,e6]
           have hh := sw0 _ hHeld K8 K9 K10 K11
           rw [← hops,hfF] at hh
           exact wpAnyH_cast (by kernel_rfl) (by kernel_rfl) hh
          ·
           have h0 := hHeld
           clear hHeld
           try simp only [e1,e2,e3]
           rw [if_pos (by rfl)]
           refine wp_load_row 35 (.tmp 11) rfl g11 rfl 35 (dv s1.d) (0,0) _ K11 Tryd.underlying35 rfl (info_dv _) ?_
           refine hK.out _ _ h0 (fun hHeld => ?_)
           clear hK K h0
           try simp only [Act.put,e1,e2,e3,e4,e5,e6]
           have hh := sw1 _ hHeld K8 K9 K10 K11
           rw [← hops,hfF] at hh
           exact wpAnyH_cast (by kernel_rfl) (by kernel_rfl) hh
          ·
           have h0 := hHeld
           clear hHeld
           try simp only [e1,e2,e3]
           rw [if_pos (by rfl)]
           refine wp_load_row 35 (.tmp 8) rfl g8 rfl 35 (dv s1.a) (0,0) _ K8 Tryd.underlying35 rfl (info_dv _) ?_
           refine hK.out _ _ h0 (fun hHeld => ?_)
           clear hK K h0
           try simp only [Act.put,e1,e2,e3,e4,e5,e6]
           have hh := sw2 _ hHeld K8 K9 K10 K11
           rw [← hops,hfF] at hh
           exact wpAnyH_cast (by kernel_rfl) (by kernel_rfl) hh
          ·
           have h0 := hHeld
           clear hHeld
           try simp only [e1,e2,e3]
           rw [if_pos (by rfl)]
           refine wp_load_row 35 (.tmp 9) rfl g9 rfl 35 (dv s1.b) (0,0) _ K9 Tryd.underlying35 rfl (info_dv _) ?_
           refine hK.out _ _ h0 (fun hHeld => ?_)
           clear hK K h0
           try simp only [Act.put,e1,e2,e3,e4,e5,e6]
           have hh := sw3 _ hHeld K8 K9 K10 K11
           rw [← hops,hfF] at hh
           exact wpAnyH_cast (by kernel_rfl) (by kernel_rfl) hh
        have hh := sw _ hHeld K8 K9 K10 K11
        rw [hfF] at hh
        exact hh
     obtain ⟨rfl,hF⟩ := hcut
     have HF0 := Lib.hid hF
     clear hF HF
     have HF := HF0
     clear HF0
     obtain ⟨wd,h_w⟩ : ∃ z : World,z = wc := ⟨_,rfl⟩
     rw [← h_w] at HF ⊢
     clear h_w
     obtain ⟨su,h_su⟩ : ∃ z,z = s2.a + s2.b := ⟨_,rfl⟩
     obtain ⟨le,h_le⟩ : ∃ z,z = s2.a - s2.b := ⟨_,rfl⟩
     obtain ⟨u,h_u⟩ : ∃ z,z = su * su := ⟨_,rfl⟩
     obtain ⟨v,h_v⟩ : ∃ z,z = le * le := ⟨_,rfl⟩
     obtain ⟨e,h_e⟩ : ∃ z,z = u - v := ⟨_,rfl⟩
     obtain ⟨cd,h_cd⟩ : ∃ z,z = s2.c + s2.d := ⟨_,rfl⟩
     obtain ⟨m,h_m⟩ : ∃ z,z = cd * le := ⟨_,rfl⟩
     obtain ⟨ce,h_ce⟩ : ∃ z,z = s2.c - s2.d := ⟨_,rfl⟩
     obtain ⟨kq,h_kq⟩ : ∃ z,z = ce * su := ⟨_,rfl⟩
     obtain ⟨za,h_za⟩ : ∃ z,z = u * v := ⟨_,rfl⟩
     obtain ⟨qq,h_qq⟩ : ∃ z,z = sm 121665 := ⟨_,rfl⟩
     obtain ⟨qe,h_qe⟩ : ∃ z,z = qq * e := ⟨_,rfl⟩
     obtain ⟨ue,h_ue⟩ : ∃ z,z = u + qe := ⟨_,rfl⟩
     obtain ⟨zb,h_zb⟩ : ∃ z,z = e * ue := ⟨_,rfl⟩
     obtain ⟨mk,h_mk⟩ : ∃ z,z = m + kq := ⟨_,rfl⟩
     obtain ⟨ml,h_ml⟩ : ∃ z,z = m - kq := ⟨_,rfl⟩
     obtain ⟨zc,h_zc⟩ : ∃ z,z = mk * mk := ⟨_,rfl⟩
     obtain ⟨m2,h_m2⟩ : ∃ z,z = ml * ml := ⟨_,rfl⟩
     obtain ⟨zd,h_zd⟩ : ∃ z,z = x * m2 := ⟨_,rfl⟩
     have hend : s3 = ⟨za,zb,zc,zd⟩ := by
      have hq : qq = Q0 := h_qq
      rw [HS3.out]
      subst h_zd h_m2 h_zc h_ml h_mk h_zb h_ue h_qe h_za h_kq h_ce h_m h_cd h_e h_v h_u h_le h_su
      rw [hq,dbl_comm]
      rfl
     have H_su := Lib.hid h_su
     have H_le := Lib.hid h_le
     have H_u := Lib.hid h_u
     have H_v := Lib.hid h_v
     have H_e := Lib.hid h_e
     have H_cd := Lib.hid h_cd
     have H_m := Lib.hid h_m
     have H_ce := Lib.hid h_ce
     have H_kq := Lib.hid h_kq
     have H_za := Lib.hid h_za
     have H_qq := Lib.hid h_qq
     have H_qe := Lib.hid h_qe
     have H_ue := Lib.hid h_ue
     have H_zb := Lib.hid h_zb
     have H_mk := Lib.hid h_mk
     have H_ml := Lib.hid h_ml
     have H_zc := Lib.hid h_zc
     have H_m2 := Lib.hid h_m2
     have H_zd := Lib.hid h_zd
     have HEND := Lib.hid hend
     clear hend h_zd h_m2 h_zc h_ml h_mk h_zb h_ue h_qe h_qq h_za h_kq h_ce h_m h_cd h_e h_v h_u h_le h_su
     obtain ⟨nb,hnb⟩ : ∃ m,m = wd.heap.size := ⟨_,rfl⟩
     have t8 : g8 < nb := by rw [hnb]; exact (HF.out.get (g := g8) (t := 35) (cs := dv s2.a) (by simp)).lt
     have t9 : g9 < nb := by rw [hnb]; exact (HF.out.get (g := g9) (t := 35) (cs := dv s2.b) (by simp)).lt
     have t10 : g10 < nb := by rw [hnb]; exact (HF.out.get (g := g10) (t := 35) (cs := dv s2.c) (by simp)).lt
     have t11 : g11 < nb := by rw [hnb]; exact (HF.out.get (g := g11) (t := 35) (cs := dv s2.d) (by simp)).lt
     have hcur : nb ≤ wd.heap.size := by omega
     clear hnb
     go_wp2_with (fail)
     go_cut [14,15] (fun s14 s15 wz => ∃ g14 g15 : Nat,s14 = .pointer (some ⟨g14,0,none⟩) ∧ s15 = .pointer (some ⟨g15,0,none⟩) ∧ wd.heap.size ≤ g14 ∧ wd.heap.size ≤ g15 ∧ Blk wz g14 35 (dv su) ∧ Blk wz g15 35 (dv le) ∧ Below wd.heap.size wd wz)
     case first =>
      as_aux_lemma =>
       have hn := (HF.out.now.sub (L' := [(g11,35,dv s2.d),(g10,35,dv s2.c),(g9,35,dv s2.b),(g8,35,dv s2.a),(g6,35,dv x),(g5,23,ks K)]) (by simp))
       have HN := Lib.hid hn
       clear hn
       refine wp_region_held_drew (S := fun W => Fn wd W [(g11,35,dv s2.d),(g10,35,dv s2.c),(g9,35,dv s2.b),(g8,35,dv s2.a),(g6,35,dv x),(g5,23,ks K)]) (by kernel_rfl) ?_ (fun hHeld => ?_)
       ·
        exact HN.out.drew
       refine wpAnyH_take (i := 0) (v := .agg (dv s2.a)) rfl (by kernel_rfl) (by kernel_rfl) (by kernel_rfl) (fun _ _ _ h => h) (yields_row (by rfl) 35 (.tmp 8) rfl (g8) rfl 35 (dv s2.a) _ (fun W (h : Fn _ W _) => h.get (by simp)) Tryd.underlying35 rfl (info_dv _)) hHeld ?_
       try simp only [Act.put,e1,e2,e3,e4,e5,e6]
       refine wpAnyH_take (i := 1) (v := .agg (dv s2.b)) rfl (by kernel_rfl) (by kernel_rfl) (by kernel_rfl) (fun _ _ _ h => h) (yields_row (by rfl) 35 (.tmp 9) rfl (g9) rfl 35 (dv s2.b) _ (fun W (h : Fn _ W _) => h.get (by simp)) Tryd.underlying35 rfl (info_dv _)) hHeld ?_
       try simp only [Act.put,e1,e2,e3,e4,e5,e6]
       refine wpAnyH_take (i := 3) (v := .agg (dv s2.a)) rfl (by kernel_rfl) (by kernel_rfl) (by kernel_rfl) (fun _ _ _ h => h) (yields_row (by rfl) 35 (.tmp 8) rfl (g8) rfl 35 (dv s2.a) _ (fun W (h : Fn _ W _) => h.get (by simp)) Tryd.underlying35 rfl (info_dv _)) hHeld ?_
       try simp only [Act.put,e1,e2,e3,e4,e5,e6]
       refine wpAnyH_take (i := 4) (v := .agg (dv s2.b)) rfl (by kernel_rfl) (by kernel_rfl) (by kernel_rfl) (fun _ _ _ h => h) (yields_row (by rfl) 35 (.tmp 9) rfl (g9) rfl 35 (dv s2.b) _ (fun W (h : Fn _ W _) => h.get (by simp)) Tryd.underlying35 rfl (info_dv _)) hHeld ?_
       try simp only [Act.put,e1,e2,e3,e4,e5,e6]
       refine wpAnyH_name ?_
       intro ops Q hops hQ
       obtain ⟨fF,hfF⟩ : ∃ f : Value → Value → Value → Value → Array Value,∀ p0 p1 p2 p3,f p0 p1 p2 p3 = #[.agg (ks k),.agg (ks n),.pointer (some ⟨w.heap.size,0,none⟩),.pointer (some ⟨w.heap.size + 1,0,none⟩),.pointer (some ⟨w.heap.size + 1 + 1,0,none⟩),.pointer (some ⟨g5,0,none⟩),.pointer (some ⟨g6,0,none⟩),.pointer (some ⟨g7,0,none⟩),.pointer (some ⟨g8,0,none⟩),.pointer (some ⟨g9,0,none⟩),.pointer (some ⟨g10,0,none⟩),.pointer (some ⟨g11,0,none⟩),.int .i64 (i : Int),.bool t,p2,p3,u16,u17,u18,u19,u20,u21,u22,u23,u24,u25,u26,u27,u28,u29,u30,u31,u32,u33,u34,u35,u36,u37,u38,u39,u40,u41,u42,u43,u44,u45,u46,u47,u48,u49,u50,u51,u52,u53,u54,u55,u56,.agg (dv s2.a),.agg (dv s2.b),p0,.agg (dv s2.a),.agg (dv s2.b),p1,u63,u64,u65,u66,u67,u68,u69,u70,u71,u72,u73,u74,u75,u76,u77,u78,u79,u80,u81,u82,u83,u84,u85,u86,u87,u88,u89,u90,u91,u92,u93,u94,u95,u96,u97,u98,u99,u100,u101,u102,u103,u104,u105,u106,u107,u108,u109,u110,u111,u112,u113,u114,u115] := ⟨_,fun _ _ _ _ => rfl⟩
       have st2_67 : ∀ (g14 g15 : Nat) (W : World),Fn wd W [(g11,35,dv s2.d),(g10,35,dv s2.c),(g9,35,dv s2.b),(g8,35,dv s2.a),(g6,35,dv x),(g5,23,ks K)] → Blk W g14 35 #[.int .u64 0,.int .u64 0,.int .u64 0,.int .u64 0,.int .u64 0,.int .u64 0,.int .u64 0,.int .u64 0,.int .u64 0,.int .u64 0,.int .u64 0,.int .u64 0,.int .u64 0,.int .u64 0,.int .u64 0,.int .u64 0] → wd.heap.size ≤ g14 → Blk W g15 35 #[.int .u64 0,.int .u64 0,.int .u64 0,.int .u64 0,.int .u64 0,.int .u64 0,.int .u64 0,.int .u64 0,.int .u64 0,.int .u64 0,.int .u64 0,.int .u64 0,.int .u64 0,.int .u64 0,.int .u64 0,.int .u64 0] → wd.heap.size ≤ g15 → g14 ≠ g15 → wpAnyH Tryd.prog .any ops Q (fun W => Fn wd W [(g11,35,dv s2.d),(g10,35,dv s2.c),(g9,35,dv s2.b),(g8,35,dv s2.a),(g6,35,dv x),(g5,23,ks K)]) 2 #[true,true,true,true,true,true,true,true,false,false] { tmps := fF (.agg (dv su)) (.agg (dv le)) (.pointer (some ⟨g14,0,none⟩)) (.pointer (some ⟨g15,0,none⟩)),defers := [] } W := by
        as_aux_lemma =>
         intro g14 g15 W hHeld K6 Z6 K7 Z7 n6_7
         rw [← hops,hfF]
         rw [← hQ]
         have KK6 := Lib.hid K6
         clear K6
         have KK7 := Lib.hid K7
         clear K7
         refine wpAnyH_ready (rs := [8]) (by kernel_rfl) (by simp) (AllReadyH.cons rfl (fun K hK => ?_) AllReadyH.nil)
         have h0 := hHeld
         clear hHeld
         try simp only [e1,e2,e3]
         rw [if_pos (by rfl)]
         refine wp_store_row 35 (.tmp 14) (.tmp 59) rfl g14 (dv su) rfl rfl 35 _ KK6.out (info_dv _) (by rw [dv_size]; rfl) (dv_one _) ?_
         refine hK.out _ _ (Fn.setFresh h0 Z6 _) (fun hHeld => ?_)
         have J6 := Lib.hid (KK6.out.setRow_same (dv su))
         clear KK6
         have KK6 := J6
         clear J6
         have J7 := Lib.hid (KK7.out.setRow_other (Ne.symm n6_7) (dv su))
         clear KK7
         have KK7 := J7
         clear J7
         clear hK K h0
         try simp only [Act.put,e1,e2,e3,e4,e5,e6]
         refine wpAnyH_ready (rs := [9]) (by kernel_rfl) (by simp) (AllReadyH.cons rfl (fun K hK => ?_) AllReadyH.nil)
         have h0 := hHeld
         clear hHeld
         try simp only [e1,e2,e3]
         rw [if_pos (by rfl)]
         refine wp_store_row 35 (.tmp 15) (.tmp 62) rfl g15 (dv le) rfl rfl 35 _ KK7.out (info_dv _) (by rw [dv_size]; rfl) (dv_one _) ?_
         refine hK.out _ _ (Fn.setFresh h0 Z7 _) (fun hHeld => ?_)
         have J7 := Lib.hid (KK7.out.setRow_same (dv le))
         clear KK7
         have KK7 := J7
         clear J7
         have J6 := Lib.hid (KK6.out.setRow_other n6_7 (dv le))
         clear KK6
         have KK6 := J6
         clear J6
         clear hK K h0
         try simp only [Act.put,e1,e2,e3,e4,e5,e6]
         refine wpAnyH_done (by kernel_rfl) ?_ _
         have HB := Lib.hid hHeld.below
         clear hHeld
         go_wp2_with (fail)
         go_meet
         exact ⟨g14,g15,rfl,rfl,Z6,Z7,KK6.out,KK7.out,HB.out⟩
       have st2_6 : ∀ (g14 : Nat) (W : World),Fn wd W [(g11,35,dv s2.d),(g10,35,dv s2.c),(g9,35,dv s2.b),(g8,35,dv s2.a),(g6,35,dv x),(g5,23,ks K)] → Blk W g14 35 #[.int .u64 0,.int .u64 0,.int .u64 0,.int .u64 0,.int .u64 0,.int .u64 0,.int .u64 0,.int .u64 0,.int .u64 0,.int .u64 0,.int .u64 0,.int .u64 0,.int .u64 0,.int .u64 0,.int .u64 0,.int .u64 0] → wd.heap.size ≤ g14 → wpAnyH Tryd.prog .any ops Q (fun W => Fn wd W [(g11,35,dv s2.d),(g10,35,dv s2.c),(g9,35,dv s2.b),(g8,35,dv s2.a),(g6,35,dv x),(g5,23,ks K)]) 3 #[true,true,true,true,true,true,true,false,false,false] { tmps := fF (.agg (dv su)) (.agg (dv le)) (.pointer (some ⟨g14,0,none⟩)) (u15),defers := [] } W := by
        as_aux_lemma =>
         intro g14 W hHeld K6 Z6
         rw [← hops,hfF]
         refine wpAnyH_ready (rs := [7]) (by kernel_rfl) (by simp) (AllReadyH.cons rfl (fun K hK => ?_) AllReadyH.nil)
         have h0 := hHeld
         clear hHeld
         try simp only [e1,e2,e3]
         obtain ⟨kz,hg⟩ := frZ h0
         have KZ := Lib.hid kz
         have HG := Lib.hid hg
         have H0 := Lib.hid h0
         clear kz hg h0
         have KH6 := Lib.hid K6
         go_simp
         refine hK.out _ _ (Fn.pass H0.out _) (fun hHeld => ?_)
         clear hK K H0
         try simp only [Act.put,e1,e2,e3,e4,e5,e6]
         have k6 := alZ KH6.out
         have z6 := Z6
         have k7 := KZ.out
         have z7 := HG.out
         have hh := st2_67 g14 _ _ hHeld k6 z6 k7 z7 (Nat.ne_of_lt K6.lt)
         rw [← hops,hfF] at hh
         exact wpAnyH_cast (by kernel_rfl) (by kernel_rfl) hh
       have st2_7 : ∀ (g15 : Nat) (W : World),Fn wd W [(g11,35,dv s2.d),(g10,35,dv s2.c),(g9,35,dv s2.b),(g8,35,dv s2.a),(g6,35,dv x),(g5,23,ks K)] → Blk W g15 35 #[.int .u64 0,.int .u64 0,.int .u64 0,.int .u64 0,.int .u64 0,.int .u64 0,.int .u64 0,.int .u64 0,.int .u64 0,.int .u64 0,.int .u64 0,.int .u64 0,.int .u64 0,.int .u64 0,.int .u64 0,.int .u64 0] → wd.heap.size ≤ g15 → wpAnyH Tryd.prog .any ops Q (fun W => Fn wd W [(g11,35,dv s2.d),(g10,35,dv s2.c),(g9,35,dv s2.b),(g8,35,dv s2.a),(g6,35,dv x),(g5,23,ks K)]) 3 #[true,true,true,true,true,true,false,true,false,false] { tmps := fF (.agg (dv su)) (.agg (dv le)) (u14) (.pointer (some ⟨g15,0,none⟩)),defers := [] } W := by
        as_aux_lemma =>
         clear st2_6
         intro g15 W hHeld K7 Z7
         rw [← hops,hfF]
         refine wpAnyH_ready (rs := [6]) (by kernel_rfl) (by simp) (AllReadyH.cons rfl (fun K hK => ?_) AllReadyH.nil)
         have h0 := hHeld
         clear hHeld
         try simp only [e1,e2,e3]
         obtain ⟨kz,hg⟩ := frZ h0
         have KZ := Lib.hid kz
         have HG := Lib.hid hg
         have H0 := Lib.hid h0
         clear kz hg h0
         have KH7 := Lib.hid K7
         go_simp
         refine hK.out _ _ (Fn.pass H0.out _) (fun hHeld => ?_)
         clear hK K H0
         try simp only [Act.put,e1,e2,e3,e4,e5,e6]
         have k7 := alZ KH7.out
         have z7 := Z7
         have k6 := KZ.out
         have z6 := HG.out
         have hh := st2_67 _ g15 _ hHeld k6 z6 k7 z7 (Ne.symm (Nat.ne_of_lt K7.lt))
         rw [← hops,hfF] at hh
         exact wpAnyH_cast (by kernel_rfl) (by kernel_rfl) hh
       have st1_67 : ∀ (g14 g15 : Nat) (W : World),Fn wd W [(g11,35,dv s2.d),(g10,35,dv s2.c),(g9,35,dv s2.b),(g8,35,dv s2.a),(g6,35,dv x),(g5,23,ks K)] → Blk W g14 35 #[.int .u64 0,.int .u64 0,.int .u64 0,.int .u64 0,.int .u64 0,.int .u64 0,.int .u64 0,.int .u64 0,.int .u64 0,.int .u64 0,.int .u64 0,.int .u64 0,.int .u64 0,.int .u64 0,.int .u64 0,.int .u64 0] → wd.heap.size ≤ g14 → Blk W g15 35 #[.int .u64 0,.int .u64 0,.int .u64 0,.int .u64 0,.int .u64 0,.int .u64 0,.int .u64 0,.int .u64 0,.int .u64 0,.int .u64 0,.int .u64 0,.int .u64 0,.int .u64 0,.int .u64 0,.int .u64 0,.int .u64 0] → wd.heap.size ≤ g15 → g14 ≠ g15 → wpAnyH Tryd.prog .any ops Q (fun W => Fn wd W [(g11,35,dv s2.d),(g10,35,dv s2.c),(g9,35,dv s2.b),(g8,35,dv s2.a),(g6,35,dv x),(g5,23,ks K)]) 3 #[true,true,true,true,true,false,true,true,false,false] { tmps := fF (.agg (dv su)) (u62) (.pointer (some ⟨g14,0,none⟩)) (.pointer (some ⟨g15,0,none⟩)),defers := [] } W := by
        as_aux_lemma =>
         clear st2_7 st2_6
         intro g14 g15 W hHeld K6 Z6 K7 Z7 n6_7
         rw [← hops,hfF]
         refine wpAnyH_ready (rs := [5]) (by kernel_rfl) (by simp) (AllReadyH.cons rfl (fun K hK => ?_) AllReadyH.nil)
         have KH6 := Lib.hid K6
         have KH7 := Lib.hid K7
         have h0 := hHeld
         clear hHeld
         try simp only [e1,e2,e3]
         have H0 := Lib.hid h0
         clear h0
         go_simp
         go_at_call 20
         refine (subD H_le.out _).mono ?_
         rintro e vv ⟨rfl,hb⟩
         have KJ6 := Lib.hid (KH6.out.below hb KH6.out.lt)
         have KJ7 := Lib.hid (KH7.out.below hb KH7.out.lt)
         have h1 := H0.out.ext hb
         clear hb H0
         go_wp2_with (fail)
         refine hK.out _ _ h1 (fun hHeld => ?_)
         clear hK K h1
         try simp only [Act.put,e1,e2,e3,e4,e5,e6]
         have k6 := KJ6.out
         have k7 := KJ7.out
         have z6 := Z6
         have z7 := Z7
         have hh := st2_67 g14 g15 _ hHeld k6 z6 k7 z7 n6_7
         rw [← hops,hfF] at hh
         exact wpAnyH_cast (by kernel_rfl) (by kernel_rfl) hh
       have st2_ : ∀ (W : World),Fn wd W [(g11,35,dv s2.d),(g10,35,dv s2.c),(g9,35,dv s2.b),(g8,35,dv s2.a),(g6,35,dv x),(g5,23,ks K)] → wpAnyH Tryd.prog .any ops Q (fun W => Fn wd W [(g11,35,dv s2.d),(g10,35,dv s2.c),(g9,35,dv s2.b),(g8,35,dv s2.a),(g6,35,dv x),(g5,23,ks K)]) 4 #[true,true,true,true,true,true,false,false,false,false] { tmps := fF (.agg (dv su)) (.agg (dv le)) (u14) (u15),defers := [] } W := by
        as_aux_lemma =>
         clear st1_67 st2_67
         intro W hHeld
         rw [← hops,hfF]
         refine wpAnyH_ready (rs := [6,7]) (by kernel_rfl) (by simp) (AllReadyH.cons rfl (fun K hK => ?_) (AllReadyH.cons rfl (fun K hK => ?_) AllReadyH.nil))
         ·
          have h0 := hHeld
          clear hHeld
          try simp only [e1,e2,e3]
          obtain ⟨kz,hg⟩ := frZ h0
          have KZ := Lib.hid kz
          have HG := Lib.hid hg
          have H0 := Lib.hid h0
          clear kz hg h0
          go_simp
          refine hK.out _ _ (Fn.pass H0.out _) (fun hHeld => ?_)
          clear hK K H0
          try simp only [Act.put,e1,e2,e3,e4,e5,e6]
          have k6 := KZ.out
          have z6 := HG.out
          have hh := st2_6 _ _ hHeld k6 z6
          rw [← hops,hfF] at hh
          exact wpAnyH_cast (by kernel_rfl) (by kernel_rfl) hh
         ·
          have h0 := hHeld
          clear hHeld
          try simp only [e1,e2,e3]
          obtain ⟨kz,hg⟩ := frZ h0
          have KZ := Lib.hid kz
          have HG := Lib.hid hg
          have H0 := Lib.hid h0
          clear kz hg h0
          go_simp
          refine hK.out _ _ (Fn.pass H0.out _) (fun hHeld => ?_)
          clear hK K H0
          try simp only [Act.put,e1,e2,e3,e4,e5,e6]
          have k7 := KZ.out
          have z7 := HG.out
          have hh := st2_7 _ _ hHeld k7 z7
          rw [← hops,hfF] at hh
          exact wpAnyH_cast (by kernel_rfl) (by kernel_rfl) hh
       have st1_6 : ∀ (g14 : Nat) (W : World),Fn wd W [(g11,35,dv s2.d),(g10,35,dv s2.c),(g9,35,dv s2.b),(g8,35,dv s2.a),(g6,35,dv x),(g5,23,ks K)] → Blk W g14 35 #[.int .u64 0,.int .u64 0,.int .u64 0,.int .u64 0,.int .u64 0,.int .u64 0,.int .u64 0,.int .u64 0,.int .u64 0,.int .u64 0,.int .u64 0,.int .u64 0,.int .u64 0,.int .u64 0,.int .u64 0,.int .u64 0] → wd.heap.size ≤ g14 → wpAnyH Tryd.prog .any ops Q (fun W => Fn wd W [(g11,35,dv s2.d),(g10,35,dv s2.c),(g9,35,dv s2.b),(g8,35,dv s2.a),(g6,35,dv x),(g5,23,ks K)]) 4 #[true,true,true,true,true,false,true,false,false,false] { tmps := fF (.agg (dv su)) (u62) (.pointer (some ⟨g14,0,none⟩)) (u15),defers := [] } W := by
        as_aux_lemma =>
         clear st2_ st2_7 st2_67
         intro g14 W hHeld K6 Z6
         rw [← hops,hfF]
         refine wpAnyH_ready (rs := [5,7]) (by kernel_rfl) (by simp) (AllReadyH.cons rfl (fun K hK => ?_) (AllReadyH.cons rfl (fun K hK => ?_) AllReadyH.nil))
         ·
          have KH6 := Lib.hid K6
          have h0 := hHeld
          clear hHeld
          try simp only [e1,e2,e3]
          have H0 := Lib.hid h0
          clear h0
          go_simp
          go_at_call 20
          refine (subD H_le.out _).mono ?_
          rintro e vv ⟨rfl,hb⟩
          have KJ6 := Lib.hid (KH6.out.below hb KH6.out.lt)
          have h1 := H0.out.ext hb
          clear hb H0
          go_wp2_with (fail)
          refine hK.out _ _ h1 (fun hHeld => ?_)
          clear hK K h1
          try simp only [Act.put,e1,e2,e3,e4,e5,e6]
          have k6 := KJ6.out
          have z6 := Z6
          have hh := st2_6 g14 _ hHeld k6 z6
          rw [← hops,hfF] at hh
          exact wpAnyH_cast (by kernel_rfl) (by kernel_rfl) hh
         ·
          have h0 := hHeld
          clear hHeld
          try simp only [e1,e2,e3]
          obtain ⟨kz,hg⟩ := frZ h0
          have KZ := Lib.hid kz
          have HG := Lib.hid hg
          have H0 := Lib.hid h0
          clear kz hg h0
          have KH6 := Lib.hid K6
          go_simp
          refine hK.out _ _ (Fn.pass H0.out _) (fun hHeld => ?_)
          clear hK K H0
          try simp only [Act.put,e1,e2,e3,e4,e5,e6]
          have k6 := alZ KH6.out
          have z6 := Z6
          have k7 := KZ.out
          have z7 := HG.out
          have hh := st1_67 g14 _ _ hHeld k6 z6 k7 z7 (Nat.ne_of_lt K6.lt)
          rw [← hops,hfF] at hh
          exact wpAnyH_cast (by kernel_rfl) (by kernel_rfl) hh
       have st1_7 : ∀ (g15 : Nat) (W : World),Fn wd W [(g11,35,dv s2.d),(g10,35,dv s2.c),(g9,35,dv s2.b),(g8,35,dv s2.a),(g6,35,dv x),(g5,23,ks K)] → Blk W g15 35 #[.int .u64 0,.int .u64 0,.int .u64 0,.int .u64 0,.int .u64 0,.int .u64 0,.int .u64 0,.int .u64 0,.int .u64 0,.int .u64 0,.int .u64 0,.int .u64 0,.int .u64 0,.int .u64 0,.int .u64 0,.int .u64 0] → wd.heap.size ≤ g15 → wpAnyH Tryd.prog .any ops Q (fun W => Fn wd W [(g11,35,dv s2.d),(g10,35,dv s2.c),(g9,35,dv s2.b),(g8,35,dv s2.a),(g6,35,dv x),(g5,23,ks K)]) 4 #[true,true,true,true,true,false,false,true,false,false] { tmps := fF (.agg (dv su)) (u62) (u14) (.pointer (some ⟨g15,0,none⟩)),defers := [] } W := by
        as_aux_lemma =>
         clear st1_6 st2_ st2_6 st2_67
         intro g15 W hHeld K7 Z7
         rw [← hops,hfF]
         refine wpAnyH_ready (rs := [5,6]) (by kernel_rfl) (by simp) (AllReadyH.cons rfl (fun K hK => ?_) (AllReadyH.cons rfl (fun K hK => ?_) AllReadyH.nil))
         ·
          have KH7 := Lib.hid K7
          have h0 := hHeld
          clear hHeld
          try simp only [e1,e2,e3]
          have H0 := Lib.hid h0
          clear h0
          go_simp
          go_at_call 20
          refine (subD H_le.out _).mono ?_
          rintro e vv ⟨rfl,hb⟩
          have KJ7 := Lib.hid (KH7.out.below hb KH7.out.lt)
          have h1 := H0.out.ext hb
          clear hb H0
          go_wp2_with (fail)
          refine hK.out _ _ h1 (fun hHeld => ?_)
          clear hK K h1
          try simp only [Act.put,e1,e2,e3,e4,e5,e6]
          have k7 := KJ7.out
          have z7 := Z7
          have hh := st2_7 g15 _ hHeld k7 z7
          rw [← hops,hfF] at hh
          exact wpAnyH_cast (by kernel_rfl) (by kernel_rfl) hh
         ·
          have h0 := hHeld
          clear hHeld
          try simp only [e1,e2,e3]
          obtain ⟨kz,hg⟩ := frZ h0
          have KZ := Lib.hid kz
          have HG := Lib.hid hg
          have H0 := Lib.hid h0
          clear kz hg h0
          have KH7 := Lib.hid K7
          go_simp
          refine hK.out _ _ (Fn.pass H0.out _) (fun hHeld => ?_)
          clear hK K H0
          try simp only [Act.put,e1,e2,e3,e4,e5,e6]
          have k7 := alZ KH7.out
          have z7 := Z7
          have k6 := KZ.out
          have z6 := HG.out
          have hh := st1_67 _ g15 _ hHeld k6 z6 k7 z7 (Ne.symm (Nat.ne_of_lt K7.lt))
          rw [← hops,hfF] at hh
          exact wpAnyH_cast (by kernel_rfl) (by kernel_rfl) hh
       have st0_67 : ∀ (g14 g15 : Nat) (W : World),Fn wd W [(g11,35,dv s2.d),(g10,35,dv s2.c),(g9,35,dv s2.b),(g8,35,dv s2.a),(g6,35,dv x),(g5,23,ks K)] → Blk W g14 35 #[.int .u64 0,.int .u64 0,.int .u64 0,.int .u64 0,.int .u64 0,.int .u64 0,.int .u64 0,.int .u64 0,.int .u64 0,.int .u64 0,.int .u64 0,.int .u64 0,.int .u64 0,.int .u64 0,.int .u64 0,.int .u64 0] → wd.heap.size ≤ g14 → Blk W g15 35 #[.int .u64 0,.int .u64 0,.int .u64 0,.int .u64 0,.int .u64 0,.int .u64 0,.int .u64 0,.int .u64 0,.int .u64 0,.int .u64 0,.int .u64 0,.int .u64 0,.int .u64 0,.int .u64 0,.int .u64 0,.int .u64 0] → wd.heap.size ≤ g15 → g14 ≠ g15 → wpAnyH Tryd.prog .any ops Q (fun W => Fn wd W [(g11,35,dv s2.d),(g10,35,dv s2.c),(g9,35,dv s2.b),(g8,35,dv s2.a),(g6,35,dv x),(g5,23,ks K)]) 4 #[true,true,false,true,true,false,true,true,false,false] { tmps := fF (u59) (u62) (.pointer (some ⟨g14,0,none⟩)) (.pointer (some ⟨g15,0,none⟩)),defers := [] } W := by
        as_aux_lemma =>
         clear st1_7 st1_6 st2_ st2_7 st2_6 st2_67
         intro g14 g15 W hHeld K6 Z6 K7 Z7 n6_7
         rw [← hops,hfF]
         refine wpAnyH_ready (rs := [2]) (by kernel_rfl) (by simp) (AllReadyH.cons rfl (fun K hK => ?_) AllReadyH.nil)
         have KH6 := Lib.hid K6
         have KH7 := Lib.hid K7
         have h0 := hHeld
         clear hHeld
         try simp only [e1,e2,e3]
         have H0 := Lib.hid h0
         clear h0
         go_simp
         go_at_call 18
         refine (addE H_su.out _).mono ?_
         rintro e vv ⟨rfl,hb⟩
         have KJ6 := Lib.hid (KH6.out.below hb KH6.out.lt)
         have KJ7 := Lib.hid (KH7.out.below hb KH7.out.lt)
         have h1 := H0.out.ext hb
         clear hb H0
         go_wp2_with (fail)
         refine hK.out _ _ h1 (fun hHeld => ?_)
         clear hK K h1
         try simp only [Act.put,e1,e2,e3,e4,e5,e6]
         have k6 := KJ6.out
         have k7 := KJ7.out
         have z6 := Z6
         have z7 := Z7
         have hh := st1_67 g14 g15 _ hHeld k6 z6 k7 z7 n6_7
         rw [← hops,hfF] at hh
         exact wpAnyH_cast (by kernel_rfl) (by kernel_rfl) hh
       have st1_ : ∀ (W : World),Fn wd W [(g11,35,dv s2.d),(g10,35,dv s2.c),(g9,35,dv s2.b),(g8,35,dv s2.a),(g6,35,dv x),(g5,23,ks K)] → wpAnyH Tryd.prog .any ops Q (fun W => Fn wd W [(g11,35,dv s2.d),(g10,35,dv s2.c),(g9,35,dv s2.b),(g8,35,dv s2.a),(g6,35,dv x),(g5,23,ks K)]) 5 #[true,true,true,true,true,false,false,false,false,false] { tmps := fF (.agg (dv su)) (u62) (u14) (u15),defers := [] } W := by
        as_aux_lemma =>
         clear st0_67 st1_67 st2_7 st2_6 st2_67
         intro W hHeld
         rw [← hops,hfF]
         refine wpAnyH_ready (rs := [5,6,7]) (by kernel_rfl) (by simp) (AllReadyH.cons rfl (fun K hK => ?_) (AllReadyH.cons rfl (fun K hK => ?_) (AllReadyH.cons rfl (fun K hK => ?_) AllReadyH.nil)))
         ·
          have h0 := hHeld
          clear hHeld
          try simp only [e1,e2,e3]
          have H0 := Lib.hid h0
          clear h0
          go_simp
          go_at_call 20
          refine (subD H_le.out _).mono ?_
          rintro e vv ⟨rfl,hb⟩
          have h1 := H0.out.ext hb
          clear hb H0
          go_wp2_with (fail)
          refine hK.out _ _ h1 (fun hHeld => ?_)
          clear hK K h1
          try simp only [Act.put,e1,e2,e3,e4,e5,e6]
          have hh := st2_ _ hHeld
          rw [← hops,hfF] at hh
          exact wpAnyH_cast (by kernel_rfl) (by kernel_rfl) hh
         ·
          have h0 := hHeld
          clear hHeld
          try simp only [e1,e2,e3]
          obtain ⟨kz,hg⟩ := frZ h0
          have KZ := Lib.hid kz
          have HG := Lib.hid hg
          have H0 := Lib.hid h0
          clear kz hg h0
          go_simp
          refine hK.out _ _ (Fn.pass H0.out _) (fun hHeld => ?_)
          clear hK K H0
          try simp only [Act.put,e1,e2,e3,e4,e5,e6]
          have k6 := KZ.out
          have z6 := HG.out
          have hh := st1_6 _ _ hHeld k6 z6
          rw [← hops,hfF] at hh
          exact wpAnyH_cast (by kernel_rfl) (by kernel_rfl) hh
         ·
          have h0 := hHeld
          clear hHeld
          try simp only [e1,e2,e3]
          obtain ⟨kz,hg⟩ := frZ h0
          have KZ := Lib.hid kz
          have HG := Lib.hid hg
          have H0 := Lib.hid h0
          clear kz hg h0
          go_simp
          refine hK.out _ _ (Fn.pass H0.out _) (fun hHeld => ?_)
          clear hK K H0
          try simp only [Act.put,e1,e2,e3,e4,e5,e6]
          have k7 := KZ.out
          have z7 := HG.out
          have hh := st1_7 _ _ hHeld k7 z7
          rw [← hops,hfF] at hh
          exact wpAnyH_cast (by kernel_rfl) (by kernel_rfl) hh
       have st0_6 : ∀ (g14 : Nat) (W : World),Fn wd W [(g11,35,dv s2.d),(g10,35,dv s2.c),(g9,35,dv s2.b),(g8,35,dv s2.a),(g6,35,dv x),(g5,23,ks K)] → Blk W g14 35 #[.int .u64 0,.int .u64 0,.int .u64 0,.int .u64 0,.int .u64 0,.int .u64 0,.int .u64 0,.int .u64 0,.int .u64 0,.int .u64 0,.int .u64 0,.int .u64 0,.int .u64 0,.int .u64 0,.int .u64 0,.int .u64 0] → wd.heap.size ≤ g14 → wpAnyH Tryd.prog .any ops Q (fun W => Fn wd W [(g11,35,dv s2.d),(g10,35,dv s2.c),(g9,35,dv s2.b),(g8,35,dv s2.a),(g6,35,dv x),(g5,23,ks K)]) 5 #[true,true,false,true,true,false,true,false,false,false] { tmps := fF (u59) (u62) (.pointer (some ⟨g14,0,none⟩)) (u15),defers := [] } W := by
        as_aux_lemma =>
         clear st1_ st1_7 st2_ st1_67 st2_7 st2_6 st2_67
         intro g14 W hHeld K6 Z6
         rw [← hops,hfF]
         refine wpAnyH_ready (rs := [2,7]) (by kernel_rfl) (by simp) (AllReadyH.cons rfl (fun K hK => ?_) (AllReadyH.cons rfl (fun K hK => ?_) AllReadyH.nil))
         ·
          have KH6 := Lib.hid K6
          have h0 := hHeld
          clear hHeld
          try simp only [e1,e2,e3]
          have H0 := Lib.hid h0
          clear h0
          go_simp
          go_at_call 18
          refine (addE H_su.out _).mono ?_
          rintro e vv ⟨rfl,hb⟩
          have KJ6 := Lib.hid (KH6.out.below hb KH6.out.lt)
          have h1 := H0.out.ext hb
          clear hb H0
          go_wp2_with (fail)
          refine hK.out _ _ h1 (fun hHeld => ?_)
          clear hK K h1
          try simp only [Act.put,e1,e2,e3,e4,e5,e6]
          have k6 := KJ6.out
          have z6 := Z6
          have hh := st1_6 g14 _ hHeld k6 z6
          rw [← hops,hfF] at hh
          exact wpAnyH_cast (by kernel_rfl) (by kernel_rfl) hh
         ·
          have h0 := hHeld
          clear hHeld
          try simp only [e1,e2,e3]
          obtain ⟨kz,hg⟩ := frZ h0
          have KZ := Lib.hid kz
          have HG := Lib.hid hg
          have H0 := Lib.hid h0
          clear kz hg h0
          have KH6 := Lib.hid K6
          go_simp
          refine hK.out _ _ (Fn.pass H0.out _) (fun hHeld => ?_)
          clear hK K H0
          try simp only [Act.put,e1,e2,e3,e4,e5,e6]
          have k6 := alZ KH6.out
          have z6 := Z6
          have k7 := KZ.out
          have z7 := HG.out
          have hh := st0_67 g14 _ _ hHeld k6 z6 k7 z7 (Nat.ne_of_lt K6.lt)
          rw [← hops,hfF] at hh
          exact wpAnyH_cast (by kernel_rfl) (by kernel_rfl) hh
       have st0_7 : ∀ (g15 : Nat) (W : World),Fn wd W [(g11,35,dv s2.d),(g10,35,dv s2.c),(g9,35,dv s2.b),(g8,35,dv s2.a),(g6,35,dv x),(g5,23,ks K)] → Blk W g15 35 #[.int .u64 0,.int .u64 0,.int .u64 0,.int .u64 0,.int .u64 0,.int .u64 0,.int .u64 0,.int .u64 0,.int .u64 0,.int .u64 0,.int .u64 0,.int .u64 0,.int .u64 0,.int .u64 0,.int .u64 0,.int .u64 0] → wd.heap.size ≤ g15 → wpAnyH Tryd.prog .any ops Q (fun W => Fn wd W [(g11,35,dv s2.d),(g10,35,dv s2.c),(g9,35,dv s2.b),(g8,35,dv s2.a),(g6,35,dv x),(g5,23,ks K)]) 5 #[true,true,false,true,true,false,false,true,false,false] { tmps := fF (u59) (u62) (u14) (.pointer (some ⟨g15,0,none⟩)),defers := [] } W := by
        as_aux_lemma =>
         clear st0_6 st1_ st1_6 st2_ st1_67 st2_7 st2_6 st2_67
         intro g15 W hHeld K7 Z7
         rw [← hops,hfF]
         refine wpAnyH_ready (rs := [2,6]) (by kernel_rfl) (by simp) (AllReadyH.cons rfl (fun K hK => ?_) (AllReadyH.cons rfl (fun K hK => ?_) AllReadyH.nil))
         ·
          have KH7 := Lib.hid K7
          have h0 := hHeld
          clear hHeld
          try simp only [e1,e2,e3]
          have H0 := Lib.hid h0
          clear h0
          go_simp
          go_at_call 18
          refine (addE H_su.out _).mono ?_
          rintro e vv ⟨rfl,hb⟩
          have KJ7 := Lib.hid (KH7.out.below hb KH7.out.lt)
          have h1 := H0.out.ext hb
          clear hb H0
          go_wp2_with (fail)
          refine hK.out _ _ h1 (fun hHeld => ?_)
          clear hK K h1
          try simp only [Act.put,e1,e2,e3,e4,e5,e6]
          have k7 := KJ7.out
          have z7 := Z7
          have hh := st1_7 g15 _ hHeld k7 z7
          rw [← hops,hfF] at hh
          exact wpAnyH_cast (by kernel_rfl) (by kernel_rfl) hh
         ·
          have h0 := hHeld
          clear hHeld
          try simp only [e1,e2,e3]
          obtain ⟨kz,hg⟩ := frZ h0
          have KZ := Lib.hid kz
          have HG := Lib.hid hg
          have H0 := Lib.hid h0
          clear kz hg h0
          have KH7 := Lib.hid K7
          go_simp
          refine hK.out _ _ (Fn.pass H0.out _) (fun hHeld => ?_)
          clear hK K H0
          try simp only [Act.put,e1,e2,e3,e4,e5,e6]
          have k7 := alZ KH7.out
          have z7 := Z7
          have k6 := KZ.out
          have z6 := HG.out
          have hh := st0_67 _ g15 _ hHeld k6 z6 k7 z7 (Ne.symm (Nat.ne_of_lt K7.lt))
          rw [← hops,hfF] at hh
          exact wpAnyH_cast (by kernel_rfl) (by kernel_rfl) hh
       have st0_ : ∀ (W : World),Fn wd W [(g11,35,dv s2.d),(g10,35,dv s2.c),(g9,35,dv s2.b),(g8,35,dv s2.a),(g6,35,dv x),(g5,23,ks K)] → wpAnyH Tryd.prog .any ops Q (fun W => Fn wd W [(g11,35,dv s2.d),(g10,35,dv s2.c),(g9,35,dv s2.b),(g8,35,dv s2.a),(g6,35,dv x),(g5,23,ks K)]) 6 #[true,true,false,true,true,false,false,false,false,false] { tmps := fF (u59) (u62) (u14) (u15),defers := [] } W := by
        as_aux_lemma =>
         clear st0_67 st1_7 st1_6 st2_ st1_67 st2_7 st2_6 st2_67
         intro W hHeld
         rw [← hops,hfF]
         refine wpAnyH_ready (rs := [2,6,7]) (by kernel_rfl) (by simp) (AllReadyH.cons rfl (fun K hK => ?_) (AllReadyH.cons rfl (fun K hK => ?_) (AllReadyH.cons rfl (fun K hK => ?_) AllReadyH.nil)))
         ·
          have h0 := hHeld
          clear hHeld
          try simp only [e1,e2,e3]
          have H0 := Lib.hid h0
          clear h0
          go_simp
          go_at_call 18
          refine (addE H_su.out _).mono ?_
          rintro e vv ⟨rfl,hb⟩
          have h1 := H0.out.ext hb
          clear hb H0
          go_wp2_with (fail)
          refine hK.out _ _ h1 (fun hHeld => ?_)
          clear hK K h1
          try simp only [Act.put,e1,e2,e3,e4,e5,e6]
          have hh := st1_ _ hHeld
          rw [← hops,hfF] at hh
          exact wpAnyH_cast (by kernel_rfl) (by kernel_rfl) hh
         ·
          have h0 := hHeld
          clear hHeld
          try simp only [e1,e2,e3]
          obtain ⟨kz,hg⟩ := frZ h0
          have KZ := Lib.hid kz
          have HG := Lib.hid hg
          have H0 := Lib.hid h0
          clear kz hg h0
          go_simp
          refine hK.out _ _ (Fn.pass H0.out _) (fun hHeld => ?_)
          clear hK K H0
          try simp only [Act.put,e1,e2,e3,e4,e5,e6]
          have k6 := KZ.out
          have z6 := HG.out
          have hh := st0_6 _ _ hHeld k6 z6
          rw [← hops,hfF] at hh
          exact wpAnyH_cast (by kernel_rfl) (by kernel_rfl) hh
         ·
          have h0 := hHeld
          clear hHeld
          try simp only [e1,e2,e3]
          obtain ⟨kz,hg⟩ := frZ h0
          have KZ := Lib.hid kz
          have HG := Lib.hid hg
          have H0 := Lib.hid h0
          clear kz hg h0
          go_simp
          refine hK.out _ _ (Fn.pass H0.out _) (fun hHeld => ?_)
          clear hK K H0
          try simp only [Act.put,e1,e2,e3,e4,e5,e6]
          have k7 := KZ.out
          have z7 := HG.out
          have hh := st0_7 _ _ hHeld k7 z7
          rw [← hops,hfF] at hh
          exact wpAnyH_cast (by kernel_rfl) (by kernel_rfl) hh
       have hh := st0_ _ hHeld
       rw [hfF] at hh
       exact wpAnyH_cast (by kernel_rfl) (by kernel_rfl) hh
     obtain ⟨g14,g15,rfl,rfl,y14,y15,k14,k15,hb⟩ := hcut
     have t14 : nb ≤ g14 := by omega
     have t15 : nb ≤ g15 := by omega
     have hf := ((HF.out.ext hb).more k14).more k15
     have hcu2 : nb ≤ wc.heap.size := by have := hb.size; omega
     have HF4 := Lib.hid hf
     clear hf hb HF hcur k14 y14 k15 y15
     have HF := HF4
     clear HF4
     obtain ⟨we,h_w⟩ : ∃ z : World,z = wc := ⟨_,rfl⟩
     rw [← h_w] at HF hcu2 ⊢
     clear h_w
     have hcur := hcu2
     clear hcu2
     go_wp2_with (fail)
     go_cut [16,17] (fun s16 s17 wz => ∃ g16 g17 : Nat,s16 = .pointer (some ⟨g16,0,none⟩) ∧ s17 = .pointer (some ⟨g17,0,none⟩) ∧ we.heap.size ≤ g16 ∧ we.heap.size ≤ g17 ∧ Blk wz g16 35 (dv u) ∧ Blk wz g17 35 (dv v) ∧ Below we.heap.size we wz)
     case first =>
      as_aux_lemma =>
       have hn := (HF.out.now.sub (L' := [(g15,35,dv le),(g14,35,dv su),(g11,35,dv s2.d),(g10,35,dv s2.c),(g9,35,dv s2.b),(g8,35,dv s2.a),(g6,35,dv x),(g5,23,ks K)]) (by simp))
       have HN := Lib.hid hn
       clear hn
       refine wp_region_held_drew (S := fun W => Fn we W [(g15,35,dv le),(g14,35,dv su),(g11,35,dv s2.d),(g10,35,dv s2.c),(g9,35,dv s2.b),(g8,35,dv s2.a),(g6,35,dv x),(g5,23,ks K)]) (by kernel_rfl) ?_ (fun hHeld => ?_)
       ·
        exact HN.out.drew
       refine wpAnyH_take (i := 0) (v := .agg (dv su)) rfl (by kernel_rfl) (by kernel_rfl) (by kernel_rfl) (fun _ _ _ h => h) (yields_row (by rfl) 35 (.tmp 14) rfl (g14) rfl 35 (dv su) _ (fun W (h : Fn _ W _) => h.get (by simp)) Tryd.underlying35 rfl (info_dv _)) hHeld ?_
       try simp only [Act.put,e1,e2,e3,e4,e5,e6]
       refine wpAnyH_take (i := 1) (v := .agg (dv su)) rfl (by kernel_rfl) (by kernel_rfl) (by kernel_rfl) (fun _ _ _ h => h) (yields_row (by rfl) 35 (.tmp 14) rfl (g14) rfl 35 (dv su) _ (fun W (h : Fn _ W _) => h.get (by simp)) Tryd.underlying35 rfl (info_dv _)) hHeld ?_
       try simp only [Act.put,e1,e2,e3,e4,e5,e6]
       refine wpAnyH_take (i := 3) (v := .agg (dv le)) rfl (by kernel_rfl) (by kernel_rfl) (by kernel_rfl) (fun _ _ _ h => h) (yields_row (by rfl) 35 (.tmp 15) rfl (g15) rfl 35 (dv le) _ (fun W (h : Fn _ W _) => h.get (by simp)) Tryd.underlying35 rfl (info_dv _)) hHeld ?_
       try simp only [Act.put,e1,e2,e3,e4,e5,e6]
       refine wpAnyH_take (i := 4) (v := .agg (dv le)) rfl (by kernel_rfl) (by kernel_rfl) (by kernel_rfl) (fun _ _ _ h => h) (yields_row (by rfl) 35 (.tmp 15) rfl (g15) rfl 35 (dv le) _ (fun W (h : Fn _ W _) => h.get (by simp)) Tryd.underlying35 rfl (info_dv _)) hHeld ?_
       try simp only [Act.put,e1,e2,e3,e4,e5,e6]
       refine wpAnyH_name ?_
       intro ops Q hops hQ
       obtain ⟨fF,hfF⟩ : ∃ f : Value → Value → Value → Value → Array Value,∀ p0 p1 p2 p3,f p0 p1 p2 p3 = #[.agg (ks k),.agg (ks n),.pointer (some ⟨w.heap.size,0,none⟩),.pointer (some ⟨w.heap.size + 1,0,none⟩),.pointer (some ⟨w.heap.size + 1 + 1,0,none⟩),.pointer (some ⟨g5,0,none⟩),.pointer (some ⟨g6,0,none⟩),.pointer (some ⟨g7,0,none⟩),.pointer (some ⟨g8,0,none⟩),.pointer (some ⟨g9,0,none⟩),.pointer (some ⟨g10,0,none⟩),.pointer (some ⟨g11,0,none⟩),.int .i64 (i : Int),.bool t,.pointer (some ⟨g14,0,none⟩),.pointer (some ⟨g15,0,none⟩),p2,p3,u18,u19,u20,u21,u22,u23,u24,u25,u26,u27,u28,u29,u30,u31,u32,u33,u34,u35,u36,u37,u38,u39,u40,u41,u42,u43,u44,u45,u46,u47,u48,u49,u50,u51,u52,u53,u54,u55,u56,u57,u58,u59,u60,u61,u62,.agg (dv su),.agg (dv su),p0,.agg (dv le),.agg (dv le),p1,u69,u70,u71,u72,u73,u74,u75,u76,u77,u78,u79,u80,u81,u82,u83,u84,u85,u86,u87,u88,u89,u90,u91,u92,u93,u94,u95,u96,u97,u98,u99,u100,u101,u102,u103,u104,u105,u106,u107,u108,u109,u110,u111,u112,u113,u114,u115] := ⟨_,fun _ _ _ _ => rfl⟩
       have st2_67 : ∀ (g16 g17 : Nat) (W : World),Fn we W [(g15,35,dv le),(g14,35,dv su),(g11,35,dv s2.d),(g10,35,dv s2.c),(g9,35,dv s2.b),(g8,35,dv s2.a),(g6,35,dv x),(g5,23,ks K)] → Blk W g16 35 #[.int .u64 0,.int .u64 0,.int .u64 0,.int .u64 0,.int .u64 0,.int .u64 0,.int .u64 0,.int .u64 0,.int .u64 0,.int .u64 0,.int .u64 0,.int .u64 0,.int .u64 0,.int .u64 0,.int .u64 0,.int .u64 0] → we.heap.size ≤ g16 → Blk W g17 35 #[.int .u64 0,.int .u64 0,.int .u64 0,.int .u64 0,.int .u64 0,.int .u64 0,.int .u64 0,.int .u64 0,.int .u64 0,.int .u64 0,.int .u64 0,.int .u64 0,.int .u64 0,.int .u64 0,.int .u64 0,.int .u64 0] → we.heap.size ≤ g17 → g16 ≠ g17 → wpAnyH Tryd.prog .any ops Q (fun W => Fn we W [(g15,35,dv le),(g14,35,dv su),(g11,35,dv s2.d),(g10,35,dv s2.c),(g9,35,dv s2.b),(g8,35,dv s2.a),(g6,35,dv x),(g5,23,ks K)]) 2 #[true,true,true,true,true,true,true,true,false,false] { tmps := fF (.agg (dv u)) (.agg (dv v)) (.pointer (some ⟨g16,0,none⟩)) (.pointer (some ⟨g17,0,none⟩)),defers := [] } W := by
        as_aux_lemma =>
         intro g16 g17 W hHeld K6 Z6 K7 Z7 n6_7
         rw [← hops,hfF]
         rw [← hQ]
         have KK6 := Lib.hid K6
         clear K6
         have KK7 := Lib.hid K7
         clear K7
         refine wpAnyH_ready (rs := [8]) (by kernel_rfl) (by simp) (AllReadyH.cons rfl (fun K hK => ?_) AllReadyH.nil)
         have h0 := hHeld
         clear hHeld
         try simp only [e1,e2,e3]
         rw [if_pos (by rfl)]
         refine wp_store_row 35 (.tmp 16) (.tmp 65) rfl g16 (dv u) rfl rfl 35 _ KK6.out (info_dv _) (by rw [dv_size]; rfl) (dv_one _) ?_
         refine hK.out _ _ (Fn.setFresh h0 Z6 _) (fun hHeld => ?_)
         have J6 := Lib.hid (KK6.out.setRow_same (dv u))
         clear KK6
         have KK6 := J6
         clear J6
         have J7 := Lib.hid (KK7.out.setRow_other (Ne.symm n6_7) (dv u))
         clear KK7
         have KK7 := J7
         clear J7
         clear hK K h0
         try simp only [Act.put,e1,e2,e3,e4,e5,e6]
         refine wpAnyH_ready (rs := [9]) (by kernel_rfl) (by simp) (AllReadyH.cons rfl (fun K hK => ?_) AllReadyH.nil)
         have h0 := hHeld
         clear hHeld
         try simp only [e1,e2,e3]
         rw [if_pos (by rfl)]
         refine wp_store_row 35 (.tmp 17) (.tmp 68) rfl g17 (dv v) rfl rfl 35 _ KK7.out (info_dv _) (by rw [dv_size]; rfl) (dv_one _) ?_
         refine hK.out _ _ (Fn.setFresh h0 Z7 _) (fun hHeld => ?_)
         have J7 := Lib.hid (KK7.out.setRow_same (dv v))
         clear KK7
         have KK7 := J7
         clear J7
         have J6 := Lib.hid (KK6.out.setRow_other n6_7 (dv v))
         clear KK6
         have KK6 := J6
         clear J6
         clear hK K h0
         try simp only [Act.put,e1,e2,e3,e4,e5,e6]
         refine wpAnyH_done (by kernel_rfl) ?_ _
         have HB := Lib.hid hHeld.below
         clear hHeld
         go_wp2_with (fail)
         go_meet
         exact ⟨g16,g17,rfl,rfl,Z6,Z7,KK6.out,KK7.out,HB.out⟩
       have st2_6 : ∀ (g16 : Nat) (W : World),Fn we W [(g15,35,dv le),(g14,35,dv su),(g11,35,dv s2.d),(g10,35,dv s2.c),(g9,35,dv s2.b),(g8,35,dv s2.a),(g6,35,dv x),(g5,23,ks K)] → Blk W g16 35 #[.int .u64 0,.int .u64 0,.int .u64 0,.int .u64 0,.int .u64 0,.int .u64 0,.int .u64 0,.int .u64 0,.int .u64 0,.int .u64 0,.int .u64 0,.int .u64 0,.int .u64 0,.int .u64 0,.int .u64 0,.int .u64 0] → we.heap.size ≤ g16 → wpAnyH Tryd.prog .any ops Q (fun W => Fn we W [(g15,35,dv le),(g14,35,dv su),(g11,35,dv s2.d),(g10,35,dv s2.c),(g9,35,dv s2.b),(g8,35,dv s2.a),(g6,35,dv x),(g5,23,ks K)]) 3 #[true,true,true,true,true,true,true,false,false,false] { tmps := fF (.agg (dv u)) (.agg (dv v)) (.pointer (some ⟨g16,0,none⟩)) (u17),defers := [] } W := by
        as_aux_lemma =>
         intro g16 W hHeld K6 Z6
         rw [← hops,hfF]
         refine wpAnyH_ready (rs := [7]) (by kernel_rfl) (by simp) (AllReadyH.cons rfl (fun K hK => ?_) AllReadyH.nil)
         have h0 := hHeld
         clear hHeld
         try simp only [e1,e2,e3]
         obtain ⟨kz,hg⟩ := frZ h0
         have KZ := Lib.hid kz
         have HG := Lib.hid hg
         have H0 := Lib.hid h0
         clear kz hg h0
         have KH6 := Lib.hid K6
         go_simp
         refine hK.out _ _ (Fn.pass H0.out _) (fun hHeld => ?_)
         clear hK K H0
         try simp only [Act.put,e1,e2,e3,e4,e5,e6]
         have k6 := alZ KH6.out
         have z6 := Z6
         have k7 := KZ.out
         have z7 := HG.out
         have hh := st2_67 g16 _ _ hHeld k6 z6 k7 z7 (Nat.ne_of_lt K6.lt)
         rw [← hops,hfF] at hh
         exact wpAnyH_cast (by kernel_rfl) (by kernel_rfl) hh
       have st2_7 : ∀ (g17 : Nat) (W : World),Fn we W [(g15,35,dv le),(g14,35,dv su),(g11,35,dv s2.d),(g10,35,dv s2.c),(g9,35,dv s2.b),(g8,35,dv s2.a),(g6,35,dv x),(g5,23,ks K)] → Blk W g17 35 #[.int .u64 0,.int .u64 0,.int .u64 0,.int .u64 0,.int .u64 0,.int .u64 0,.int .u64 0,.int .u64 0,.int .u64 0,.int .u64 0,.int .u64 0,.int .u64 0,.int .u64 0,.int .u64 0,.int .u64 0,.int .u64 0] → we.heap.size ≤ g17 → wpAnyH Tryd.prog .any ops Q (fun W => Fn we W [(g15,35,dv le),(g14,35,dv su),(g11,35,dv s2.d),(g10,35,dv s2.c),(g9,35,dv s2.b),(g8,35,dv s2.a),(g6,35,dv x),(g5,23,ks K)]) 3 #[true,true,true,true,true,true,false,true,false,false] { tmps := fF (.agg (dv u)) (.agg (dv v)) (u16) (.pointer (some ⟨g17,0,none⟩)),defers := [] } W := by
        as_aux_lemma =>
         clear st2_6
         intro g17 W hHeld K7 Z7
         rw [← hops,hfF]
         refine wpAnyH_ready (rs := [6]) (by kernel_rfl) (by simp) (AllReadyH.cons rfl (fun K hK => ?_) AllReadyH.nil)
         have h0 := hHeld
         clear hHeld
         try simp only [e1,e2,e3]
         obtain ⟨kz,hg⟩ := frZ h0
         have KZ := Lib.hid kz
         have HG := Lib.hid hg
         have H0 := Lib.hid h0
         clear kz hg h0
         have KH7 := Lib.hid K7
         go_simp
         refine hK.out _ _ (Fn.pass H0.out _) (fun hHeld => ?_)
         clear hK K H0
         try simp only [Act.put,e1,e2,e3,e4,e5,e6]
         have k7 := alZ KH7.out
         have z7 := Z7
         have k6 := KZ.out
         have z6 := HG.out
         have hh := st2_67 _ g17 _ hHeld k6 z6 k7 z7 (Ne.symm (Nat.ne_of_lt K7.lt))
         rw [← hops,hfF] at hh
         exact wpAnyH_cast (by kernel_rfl) (by kernel_rfl) hh
       have st1_67 : ∀ (g16 g17 : Nat) (W : World),Fn we W [(g15,35,dv le),(g14,35,dv su),(g11,35,dv s2.d),(g10,35,dv s2.c),(g9,35,dv s2.b),(g8,35,dv s2.a),(g6,35,dv x),(g5,23,ks K)] → Blk W g16 35 #[.int .u64 0,.int .u64 0,.int .u64 0,.int .u64 0,.int .u64 0,.int .u64 0,.int .u64 0,.int .u64 0,.int .u64 0,.int .u64 0,.int .u64 0,.int .u64 0,.int .u64 0,.int .u64 0,.int .u64 0,.int .u64 0] → we.heap.size ≤ g16 → Blk W g17 35 #[.int .u64 0,.int .u64 0,.int .u64 0,.int .u64 0,.int .u64 0,.int .u64 0,.int .u64 0,.int .u64 0,.int .u64 0,.int .u64 0,.int .u64 0,.int .u64 0,.int .u64 0,.int .u64 0,.int .u64 0,.int .u64 0] → we.heap.size ≤ g17 → g16 ≠ g17 → wpAnyH Tryd.prog .any ops Q (fun W => Fn we W [(g15,35,dv le),(g14,35,dv su),(g11,35,dv s2.d),(g10,35,dv s2.c),(g9,35,dv s2.b),(g8,35,dv s2.a),(g6,35,dv x),(g5,23,ks K)]) 3 #[true,true,true,true,true,false,true,true,false,false] { tmps := fF (.agg (dv u)) (u68) (.pointer (some ⟨g16,0,none⟩)) (.pointer (some ⟨g17,0,none⟩)),defers := [] } W := by
        as_aux_lemma =>
         clear st2_7 st2_6
         intro g16 g17 W hHeld K6 Z6 K7 Z7 n6_7
         rw [← hops,hfF]
         refine wpAnyH_ready (rs := [5]) (by kernel_rfl) (by simp) (AllReadyH.cons rfl (fun K hK => ?_) AllReadyH.nil)
         have KH6 := Lib.hid K6
         have KH7 := Lib.hid K7
         have h0 := hHeld
         clear hHeld
         try simp only [e1,e2,e3]
         have H0 := Lib.hid h0
         clear h0
         go_simp
         go_at_call 21
         refine (mulD H_v.out _).mono ?_
         rintro e vv ⟨rfl,hb⟩
         have KJ6 := Lib.hid (KH6.out.below hb KH6.out.lt)
         have KJ7 := Lib.hid (KH7.out.below hb KH7.out.lt)
         have h1 := H0.out.ext hb
         clear hb H0
         go_wp2_with (fail)
         refine hK.out _ _ h1 (fun hHeld => ?_)
         clear hK K h1
         try simp only [Act.put,e1,e2,e3,e4,e5,e6]
         have k6 := KJ6.out
         have k7 := KJ7.out
         have z6 := Z6
         have z7 := Z7
         have hh := st2_67 g16 g17 _ hHeld k6 z6 k7 z7 n6_7
         rw [← hops,hfF] at hh
         exact wpAnyH_cast (by kernel_rfl) (by kernel_rfl) hh
       have st2_ : ∀ (W : World),Fn we W [(g15,35,dv le),(g14,35,dv su),(g11,35,dv s2.d),(g10,35,dv s2.c),(g9,35,dv s2.b),(g8,35,dv s2.a),(g6,35,dv x),(g5,23,ks K)] → wpAnyH Tryd.prog .any ops Q (fun W => Fn we W [(g15,35,dv le),(g14,35,dv su),(g11,35,dv s2.d),(g10,35,dv s2.c),(g9,35,dv s2.b),(g8,35,dv s2.a),(g6,35,dv x),(g5,23,ks K)]) 4 #[true,true,true,true,true,true,false,false,false,false] { tmps := fF (.agg (dv u)) (.agg (dv v)) (u16) (u17),defers := [] } W := by
        as_aux_lemma =>
         clear st1_67 st2_67
         intro W hHeld
         rw [← hops,hfF]
         refine wpAnyH_ready (rs := [6,7]) (by kernel_rfl) (by simp) (AllReadyH.cons rfl (fun K hK => ?_) (AllReadyH.cons rfl (fun K hK => ?_) AllReadyH.nil))
         ·
          have h0 := hHeld
          clear hHeld
          try simp only [e1,e2,e3]
          obtain ⟨kz,hg⟩ := frZ h0
          have KZ := Lib.hid kz
          have HG := Lib.hid hg
          have H0 := Lib.hid h0
          clear kz hg h0
          go_simp
          refine hK.out _ _ (Fn.pass H0.out _) (fun hHeld => ?_)
          clear hK K H0
          try simp only [Act.put,e1,e2,e3,e4,e5,e6]
          have k6 := KZ.out
          have z6 := HG.out
          have hh := st2_6 _ _ hHeld k6 z6
          rw [← hops,hfF] at hh
          exact wpAnyH_cast (by kernel_rfl) (by kernel_rfl) hh
         ·
          have h0 := hHeld
          clear hHeld
          try simp only [e1,e2,e3]
          obtain ⟨kz,hg⟩ := frZ h0
          have KZ := Lib.hid kz
          have HG := Lib.hid hg
          have H0 := Lib.hid h0
          clear kz hg h0
          go_simp
          refine hK.out _ _ (Fn.pass H0.out _) (fun hHeld => ?_)
          clear hK K H0
          try simp only [Act.put,e1,e2,e3,e4,e5,e6]
          have k7 := KZ.out
          have z7 := HG.out
          have hh := st2_7 _ _ hHeld k7 z7
          rw [← hops,hfF] at hh
          exact wpAnyH_cast (by kernel_rfl) (by kernel_rfl) hh
       have st1_6 : ∀ (g16 : Nat) (W : World),Fn we W [(g15,35,dv le),(g14,35,dv su),(g11,35,dv s2.d),(g10,35,dv s2.c),(g9,35,dv s2.b),(g8,35,dv s2.a),(g6,35,dv x),(g5,23,ks K)] → Blk W g16 35 #[.int .u64 0,.int .u64 0,.int .u64 0,.int .u64 0,.int .u64 0,.int .u64 0,.int .u64 0,.int .u64 0,.int .u64 0,.int .u64 0,.int .u64 0,.int .u64 0,.int .u64 0,.int .u64 0,.int .u64 0,.int .u64 0] → we.heap.size ≤ g16 → wpAnyH Tryd.prog .any ops Q (fun W => Fn we W [(g15,35,dv le),(g14,35,dv su),(g11,35,dv s2.d),(g10,35,dv s2.c),(g9,35,dv s2.b),(g8,35,dv s2.a),(g6,35,dv x),(g5,23,ks K)]) 4 #[true,true,true,true,true,false,true,false,false,false] { tmps := fF (.agg (dv u)) (u68) (.pointer (some ⟨g16,0,none⟩)) (u17),defers := [] } W := by
        as_aux_lemma =>
         clear st2_ st2_7 st2_67
         intro g16 W hHeld K6 Z6
         rw [← hops,hfF]
         refine wpAnyH_ready (rs := [5,7]) (by kernel_rfl) (by simp) (AllReadyH.cons rfl (fun K hK => ?_) (AllReadyH.cons rfl (fun K hK => ?_) AllReadyH.nil))
         ·
          have KH6 := Lib.hid K6
          have h0 := hHeld
          clear hHeld
          try simp only [e1,e2,e3]
          have H0 := Lib.hid h0
          clear h0
          go_simp
          go_at_call 21
          refine (mulD H_v.out _).mono ?_
          rintro e vv ⟨rfl,hb⟩
          have KJ6 := Lib.hid (KH6.out.below hb KH6.out.lt)
          have h1 := H0.out.ext hb
          clear hb H0
          go_wp2_with (fail)
          refine hK.out _ _ h1 (fun hHeld => ?_)
          clear hK K h1
          try simp only [Act.put,e1,e2,e3,e4,e5,e6]
          have k6 := KJ6.out
          have z6 := Z6
          have hh := st2_6 g16 _ hHeld k6 z6
          rw [← hops,hfF] at hh
          exact wpAnyH_cast (by kernel_rfl) (by kernel_rfl) hh
         ·
          have h0 := hHeld
          clear hHeld
          try simp only [e1,e2,e3]
          obtain ⟨kz,hg⟩ := frZ h0
          have KZ := Lib.hid kz
          have HG := Lib.hid hg
          have H0 := Lib.hid h0
          clear kz hg h0
          have KH6 := Lib.hid K6
          go_simp
          refine hK.out _ _ (Fn.pass H0.out _) (fun hHeld => ?_)
          clear hK K H0
          try simp only [Act.put,e1,e2,e3,e4,e5,e6]
          have k6 := alZ KH6.out
          have z6 := Z6
          have k7 := KZ.out
          have z7 := HG.out
          have hh := st1_67 g16 _ _ hHeld k6 z6 k7 z7 (Nat.ne_of_lt K6.lt)
          rw [← hops,hfF] at hh
          exact wpAnyH_cast (by kernel_rfl) (by kernel_rfl) hh
       have st1_7 : ∀ (g17 : Nat) (W : World),Fn we W [(g15,35,dv le),(g14,35,dv su),(g11,35,dv s2.d),(g10,35,dv s2.c),(g9,35,dv s2.b),(g8,35,dv s2.a),(g6,35,dv x),(g5,23,ks K)] → Blk W g17 35 #[.int .u64 0,.int .u64 0,.int .u64 0,.int .u64 0,.int .u64 0,.int .u64 0,.int .u64 0,.int .u64 0,.int .u64 0,.int .u64 0,.int .u64 0,.int .u64 0,.int .u64 0,.int .u64 0,.int .u64 0,.int .u64 0] → we.heap.size ≤ g17 → wpAnyH Tryd.prog .any ops Q (fun W => Fn we W [(g15,35,dv le),(g14,35,dv su),(g11,35,dv s2.d),(g10,35,dv s2.c),(g9,35,dv s2.b),(g8,35,dv s2.a),(g6,35,dv x),(g5,23,ks K)]) 4 #[true,true,true,true,true,false,false,true,false,false] { tmps := fF (.agg (dv u)) (u68) (u16) (.pointer (some ⟨g17,0,none⟩)),defers := [] } W := by
        as_aux_lemma =>
         clear st1_6 st2_ st2_6 st2_67
         intro g17 W hHeld K7 Z7
         rw [← hops,hfF]
         refine wpAnyH_ready (rs := [5,6]) (by kernel_rfl) (by simp) (AllReadyH.cons rfl (fun K hK => ?_) (AllReadyH.cons rfl (fun K hK => ?_) AllReadyH.nil))
         ·
          have KH7 := Lib.hid K7
          have h0 := hHeld
          clear hHeld
          try simp only [e1,e2,e3]
          have H0 := Lib.hid h0
          clear h0
          go_simp
          go_at_call 21
          refine (mulD H_v.out _).mono ?_
          rintro e vv ⟨rfl,hb⟩
          have KJ7 := Lib.hid (KH7.out.below hb KH7.out.lt)
          have h1 := H0.out.ext hb
          clear hb H0
          go_wp2_with (fail)
          refine hK.out _ _ h1 (fun hHeld => ?_)
          clear hK K h1
          try simp only [Act.put,e1,e2,e3,e4,e5,e6]
          have k7 := KJ7.out
          have z7 := Z7
          have hh := st2_7 g17 _ hHeld k7 z7
          rw [← hops,hfF] at hh
          exact wpAnyH_cast (by kernel_rfl) (by kernel_rfl) hh
         ·
          have h0 := hHeld
          clear hHeld
          try simp only [e1,e2,e3]
          obtain ⟨kz,hg⟩ := frZ h0
          have KZ := Lib.hid kz
          have HG := Lib.hid hg
          have H0 := Lib.hid h0
          clear kz hg h0
          have KH7 := Lib.hid K7
          go_simp
          refine hK.out _ _ (Fn.pass H0.out _) (fun hHeld => ?_)
          clear hK K H0
          try simp only [Act.put,e1,e2,e3,e4,e5,e6]
          have k7 := alZ KH7.out
          have z7 := Z7
          have k6 := KZ.out
          have z6 := HG.out
          have hh := st1_67 _ g17 _ hHeld k6 z6 k7 z7 (Ne.symm (Nat.ne_of_lt K7.lt))
          rw [← hops,hfF] at hh
          exact wpAnyH_cast (by kernel_rfl) (by kernel_rfl) hh
       have st0_67 : ∀ (g16 g17 : Nat) (W : World),Fn we W [(g15,35,dv le),(g14,35,dv su),(g11,35,dv s2.d),(g10,35,dv s2.c),(g9,35,dv s2.b),(g8,35,dv s2.a),(g6,35,dv x),(g5,23,ks K)] → Blk W g16 35 #[.int .u64 0,.int .u64 0,.int .u64 0,.int .u64 0,.int .u64 0,.int .u64 0,.int .u64 0,.int .u64 0,.int .u64 0,.int .u64 0,.int .u64 0,.int .u64 0,.int .u64 0,.int .u64 0,.int .u64 0,.int .u64 0] → we.heap.size ≤ g16 → Blk W g17 35 #[.int .u64 0,.int .u64 0,.int .u64 0,.int .u64 0,.int .u64 0,.int .u64 0,.int .u64 0,.int .u64 0,.int .u64 0,.int .u64 0,.int .u64 0,.int .u64 0,.int .u64 0,.int .u64 0,.int .u64 0,.int .u64 0] → we.heap.size ≤ g17 → g16 ≠ g17 → wpAnyH Tryd.prog .any ops Q (fun W => Fn we W [(g15,35,dv le),(g14,35,dv su),(g11,35,dv s2.d),(g10,35,dv s2.c),(g9,35,dv s2.b),(g8,35,dv s2.a),(g6,35,dv x),(g5,23,ks K)]) 4 #[true,true,false,true,true,false,true,true,false,false] { tmps := fF (u65) (u68) (.pointer (some ⟨g16,0,none⟩)) (.pointer (some ⟨g17,0,none⟩)),defers := [] } W := by
        as_aux_lemma =>
         clear st1_7 st1_6 st2_ st2_7 st2_6 st2_67
         intro g16 g17 W hHeld K6 Z6 K7 Z7 n6_7
         rw [← hops,hfF]
         refine wpAnyH_ready (rs := [2]) (by kernel_rfl) (by simp) (AllReadyH.cons rfl (fun K hK => ?_) AllReadyH.nil)
         have KH6 := Lib.hid K6
         have KH7 := Lib.hid K7
         have h0 := hHeld
         clear hHeld
         try simp only [e1,e2,e3]
         have H0 := Lib.hid h0
         clear h0
         go_simp
         go_at_call 21
         refine (mulD H_u.out _).mono ?_
         rintro e vv ⟨rfl,hb⟩
         have KJ6 := Lib.hid (KH6.out.below hb KH6.out.lt)
         have KJ7 := Lib.hid (KH7.out.below hb KH7.out.lt)
         have h1 := H0.out.ext hb
         clear hb H0
         go_wp2_with (fail)
         refine hK.out _ _ h1 (fun hHeld => ?_)
         clear hK K h1
         try simp only [Act.put,e1,e2,e3,e4,e5,e6]
         have k6 := KJ6.out
         have k7 := KJ7.out
         have z6 := Z6
         have z7 := Z7
         have hh := st1_67 g16 g17 _ hHeld k6 z6 k7 z7 n6_7
         rw [← hops,hfF] at hh
         exact wpAnyH_cast (by kernel_rfl) (by kernel_rfl) hh
       have st1_ : ∀ (W : World),Fn we W [(g15,35,dv le),(g14,35,dv su),(g11,35,dv s2.d),(g10,35,dv s2.c),(g9,35,dv s2.b),(g8,35,dv s2.a),(g6,35,dv x),(g5,23,ks K)] → wpAnyH Tryd.prog .any ops Q (fun W => Fn we W [(g15,35,dv le),(g14,35,dv su),(g11,35,dv s2.d),(g10,35,dv s2.c),(g9,35,dv s2.b),(g8,35,dv s2.a),(g6,35,dv x),(g5,23,ks K)]) 5 #[true,true,true,true,true,false,false,false,false,false] { tmps := fF (.agg (dv u)) (u68) (u16) (u17),defers := [] } W := by
        as_aux_lemma =>
         clear st0_67 st1_67 st2_7 st2_6 st2_67
         intro W hHeld
         rw [← hops,hfF]
         refine wpAnyH_ready (rs := [5,6,7]) (by kernel_rfl) (by simp) (AllReadyH.cons rfl (fun K hK => ?_) (AllReadyH.cons rfl (fun K hK => ?_) (AllReadyH.cons rfl (fun K hK => ?_) AllReadyH.nil)))
         ·
          have h0 := hHeld
          clear hHeld
          try simp only [e1,e2,e3]
          have H0 := Lib.hid h0
          clear h0
          go_simp
          go_at_call 21
          refine (mulD H_v.out _).mono ?_
          rintro e vv ⟨rfl,hb⟩
          have h1 := H0.out.ext hb
          clear hb H0
          go_wp2_with (fail)
          refine hK.out _ _ h1 (fun hHeld => ?_)
          clear hK K h1
          try simp only [Act.put,e1,e2,e3,e4,e5,e6]
          have hh := st2_ _ hHeld
          rw [← hops,hfF] at hh
          exact wpAnyH_cast (by kernel_rfl) (by kernel_rfl) hh
         ·
          have h0 := hHeld
          clear hHeld
          try simp only [e1,e2,e3]
          obtain ⟨kz,hg⟩ := frZ h0
          have KZ := Lib.hid kz
          have HG := Lib.hid hg
          have H0 := Lib.hid h0
          clear kz hg h0
          go_simp
          refine hK.out _ _ (Fn.pass H0.out _) (fun hHeld => ?_)
          clear hK K H0
          try simp only [Act.put,e1,e2,e3,e4,e5,e6]
          have k6 := KZ.out
          have z6 := HG.out
          have hh := st1_6 _ _ hHeld k6 z6
          rw [← hops,hfF] at hh
          exact wpAnyH_cast (by kernel_rfl) (by kernel_rfl) hh
         ·
          have h0 := hHeld
          clear hHeld
          try simp only [e1,e2,e3]
          obtain ⟨kz,hg⟩ := frZ h0
          have KZ := Lib.hid kz
          have HG := Lib.hid hg
          have H0 := Lib.hid h0
          clear kz hg h0
          go_simp
          refine hK.out _ _ (Fn.pass H0.out _) (fun hHeld => ?_)
          clear hK K H0
          try simp only [Act.put,e1,e2,e3,e4,e5,e6]
          have k7 := KZ.out
          have z7 := HG.out
          have hh := st1_7 _ _ hHeld k7 z7
          rw [← hops,hfF] at hh
          exact wpAnyH_cast (by kernel_rfl) (by kernel_rfl) hh
       have st0_6 : ∀ (g16 : Nat) (W : World),Fn we W [(g15,35,dv le),(g14,35,dv su),(g11,35,dv s2.d),(g10,35,dv s2.c),(g9,35,dv s2.b),(g8,35,dv s2.a),(g6,35,dv x),(g5,23,ks K)] → Blk W g16 35 #[.int .u64 0,.int .u64 0,.int .u64 0,.int .u64 0,.int .u64 0,.int .u64 0,.int .u64 0,.int .u64 0,.int .u64 0,.int .u64 0,.int .u64 0,.int .u64 0,.int .u64 0,.int .u64 0,.int .u64 0,.int .u64 0] → we.heap.size ≤ g16 → wpAnyH Tryd.prog .any ops Q (fun W => Fn we W [(g15,35,dv le),(g14,35,dv su),(g11,35,dv s2.d),(g10,35,dv s2.c),(g9,35,dv s2.b),(g8,35,dv s2.a),(g6,35,dv x),(g5,23,ks K)]) 5 #[true,true,false,true,true,false,true,false,false,false] { tmps := fF (u65) (u68) (.pointer (some ⟨g16,0,none⟩)) (u17),defers := [] } W := by
        as_aux_lemma =>
         clear st1_ st1_7 st2_ st1_67 st2_7 st2_6 st2_67
         intro g16 W hHeld K6 Z6
         rw [← hops,hfF]
         refine wpAnyH_ready (rs := [2,7]) (by kernel_rfl) (by simp) (AllReadyH.cons rfl (fun K hK => ?_) (AllReadyH.cons rfl (fun K hK => ?_) AllReadyH.nil))
         ·
          have KH6 := Lib.hid K6
          have h0 := hHeld
          clear hHeld
          try simp only [e1,e2,e3]
          have H0 := Lib.hid h0
          clear h0
          go_simp
          go_at_call 21
          refine (mulD H_u.out _).mono ?_
          rintro e vv ⟨rfl,hb⟩
          have KJ6 := Lib.hid (KH6.out.below hb KH6.out.lt)
          have h1 := H0.out.ext hb
          clear hb H0
          go_wp2_with (fail)
          refine hK.out _ _ h1 (fun hHeld => ?_)
          clear hK K h1
          try simp only [Act.put,e1,e2,e3,e4,e5,e6]
          have k6 := KJ6.out
          have z6 := Z6
          have hh := st1_6 g16 _ hHeld k6 z6
          rw [← hops,hfF] at hh
          exact wpAnyH_cast (by kernel_rfl) (by kernel_rfl) hh
         ·
          have h0 := hHeld
          clear hHeld
          try simp only [e1,e2,e3]
          obtain ⟨kz,hg⟩ := frZ h0
          have KZ := Lib.hid kz
          have HG := Lib.hid hg
          have H0 := Lib.hid h0
          clear kz hg h0
          have KH6 := Lib.hid K6
          go_simp
          refine hK.out _ _ (Fn.pass H0.out _) (fun hHeld => ?_)
          clear hK K H0
          try simp only [Act.put,e1,e2,e3,e4,e5,e6]
          have k6 := alZ KH6.out
          have z6 := Z6
          have k7 := KZ.out
          have z7 := HG.out
          have hh := st0_67 g16 _ _ hHeld k6 z6 k7 z7 (Nat.ne_of_lt K6.lt)
          rw [← hops,hfF] at hh
          exact wpAnyH_cast (by kernel_rfl) (by kernel_rfl) hh
       have st0_7 : ∀ (g17 : Nat) (W : World),Fn we W [(g15,35,dv le),(g14,35,dv su),(g11,35,dv s2.d),(g10,35,dv s2.c),(g9,35,dv s2.b),(g8,35,dv s2.a),(g6,35,dv x),(g5,23,ks K)] → Blk W g17 35 #[.int .u64 0,.int .u64 0,.int .u64 0,.int .u64 0,.int .u64 0,.int .u64 0,.int .u64 0,.int .u64 0,.int .u64 0,.int .u64 0,.int .u64 0,.int .u64 0,.int .u64 0,.int .u64 0,.int .u64 0,.int .u64 0] → we.heap.size ≤ g17 → wpAnyH Tryd.prog .any ops Q (fun W => Fn we W [(g15,35,dv le),(g14,35,dv su),(g11,35,dv s2.d),(g10,35,dv s2.c),(g9,35,dv s2.b),(g8,35,dv s2.a),(g6,35,dv x),(g5,23,ks K)]) 5 #[true,true,false,true,true,false,false,true,false,false] { tmps := fF (u65) (u68) (u16) (.pointer (some ⟨g17,0,none⟩)),defers := [] } W := by
        as_aux_lemma =>
         clear st0_6 st1_ st1_6 st2_ st1_67 st2_7 st2_6 st2_67
         intro g17 W hHeld K7 Z7
         rw [← hops,hfF]
         refine wpAnyH_ready (rs := [2,6]) (by kernel_rfl) (by simp) (AllReadyH.cons rfl (fun K hK => ?_) (AllReadyH.cons rfl (fun K hK => ?_) AllReadyH.nil))
         ·
          have KH7 := Lib.hid K7
          have h0 := hHeld
          clear hHeld
          try simp only [e1,e2,e3]
          have H0 := Lib.hid h0
          clear h0
          go_simp
          go_at_call 21
          refine (mulD H_u.out _).mono ?_
          rintro e vv ⟨rfl,hb⟩
          have KJ7 := Lib.hid (KH7.out.below hb KH7.out.lt)
          have h1 := H0.out.ext hb
          clear hb H0
          go_wp2_with (fail)
          refine hK.out _ _ h1 (fun hHeld => ?_)
          clear hK K h1
          try simp only [Act.put,e1,e2,e3,e4,e5,e6]
          have k7 := KJ7.out
          have z7 := Z7
          have hh := st1_7 g17 _ hHeld k7 z7
          rw [← hops,hfF] at hh
          exact wpAnyH_cast (by kernel_rfl) (by kernel_rfl) hh
         ·
          have h0 := hHeld
          clear hHeld
          try simp only [e1,e2,e3]
          obtain ⟨kz,hg⟩ := frZ h0
          have KZ := Lib.hid kz
          have HG := Lib.hid hg
          have H0 := Lib.hid h0
          clear kz hg h0
          have KH7 := Lib.hid K7
          go_simp
          refine hK.out _ _ (Fn.pass H0.out _) (fun hHeld => ?_)
          clear hK K H0
          try simp only [Act.put,e1,e2,e3,e4,e5,e6]
          have k7 := alZ KH7.out
          have z7 := Z7
          have k6 := KZ.out
          have z6 := HG.out
          have hh := st0_67 _ g17 _ hHeld k6 z6 k7 z7 (Ne.symm (Nat.ne_of_lt K7.lt))
          rw [← hops,hfF] at hh
          exact wpAnyH_cast (by kernel_rfl) (by kernel_rfl) hh
       have st0_ : ∀ (W : World),Fn we W [(g15,35,dv le),(g14,35,dv su),(g11,35,dv s2.d),(g10,35,dv s2.c),(g9,35,dv s2.b),(g8,35,dv s2.a),(g6,35,dv x),(g5,23,ks K)] → wpAnyH Tryd.prog .any ops Q (fun W => Fn we W [(g15,35,dv le),(g14,35,dv su),(g11,35,dv s2.d),(g10,35,dv s2.c),(g9,35,dv s2.b),(g8,35,dv s2.a),(g6,35,dv x),(g5,23,ks K)]) 6 #[true,true,false,true,true,false,false,false,false,false] { tmps := fF (u65) (u68) (u16) (u17),defers := [] } W := by
        as_aux_lemma =>
         clear st0_67 st1_7 st1_6 st2_ st1_67 st2_7 st2_6 st2_67
         intro W hHeld
         rw [← hops,hfF]
         refine wpAnyH_ready (rs := [2,6,7]) (by kernel_rfl) (by simp) (AllReadyH.cons rfl (fun K hK => ?_) (AllReadyH.cons rfl (fun K hK => ?_) (AllReadyH.cons rfl (fun K hK => ?_) AllReadyH.nil)))
         ·
          have h0 := hHeld
          clear hHeld
          try simp only [e1,e2,e3]
          have H0 := Lib.hid h0
          clear h0
          go_simp
          go_at_call 21
          refine (mulD H_u.out _).mono ?_
          rintro e vv ⟨rfl,hb⟩
          have h1 := H0.out.ext hb
          clear hb H0
          go_wp2_with (fail)
          refine hK.out _ _ h1 (fun hHeld => ?_)
          clear hK K h1
          try simp only [Act.put,e1,e2,e3,e4,e5,e6]
          have hh := st1_ _ hHeld
          rw [← hops,hfF] at hh
          exact wpAnyH_cast (by kernel_rfl) (by kernel_rfl) hh
         ·
          have h0 := hHeld
          clear hHeld
          try simp only [e1,e2,e3]
          obtain ⟨kz,hg⟩ := frZ h0
          have KZ := Lib.hid kz
          have HG := Lib.hid hg
          have H0 := Lib.hid h0
          clear kz hg h0
          go_simp
          refine hK.out _ _ (Fn.pass H0.out _) (fun hHeld => ?_)
          clear hK K H0
          try simp only [Act.put,e1,e2,e3,e4,e5,e6]
          have k6 := KZ.out
          have z6 := HG.out
          have hh := st0_6 _ _ hHeld k6 z6
          rw [← hops,hfF] at hh
          exact wpAnyH_cast (by kernel_rfl) (by kernel_rfl) hh
         ·
          have h0 := hHeld
          clear hHeld
          try simp only [e1,e2,e3]
          obtain ⟨kz,hg⟩ := frZ h0
          have KZ := Lib.hid kz
          have HG := Lib.hid hg
          have H0 := Lib.hid h0
          clear kz hg h0
          go_simp
          refine hK.out _ _ (Fn.pass H0.out _) (fun hHeld => ?_)
          clear hK K H0
          try simp only [Act.put,e1,e2,e3,e4,e5,e6]
          have k7 := KZ.out
          have z7 := HG.out
          have hh := st0_7 _ _ hHeld k7 z7
          rw [← hops,hfF] at hh
          exact wpAnyH_cast (by kernel_rfl) (by kernel_rfl) hh
       have hh := st0_ _ hHeld
       rw [hfF] at hh
       exact wpAnyH_cast (by kernel_rfl) (by kernel_rfl) hh
     obtain ⟨g16,g17,rfl,rfl,y16,y17,k16,k17,hb⟩ := hcut
     have t16 : nb ≤ g16 := by omega
     have t17 : nb ≤ g17 := by omega
     have hf := ((HF.out.ext hb).more k16).more k17
     have hcu2 : nb ≤ wc.heap.size := by have := hb.size; omega
     have HF4 := Lib.hid hf
     clear hf hb HF hcur k16 y16 k17 y17
     have HF := HF4
     clear HF4
     obtain ⟨wf,h_w⟩ : ∃ z : World,z = wc := ⟨_,rfl⟩
     rw [← h_w] at HF hcu2 ⊢
     clear h_w
     have hcur := hcu2
     clear hcu2
     have l16 := HF.out.get (g := g16) (t := 35) (cs := dv u) (by simp)
     have l17 := HF.out.get (g := g17) (t := 35) (cs := dv v) (by simp)
     go_wp2_with (first | (refine wpList_load_row rfl 35 (.tmp 16) rfl (g16) rfl 35 (dv u) (0,0) _ l16 Tryd.underlying35 rfl (info_dv _) ?_) | (refine wpList_load_row rfl 35 (.tmp 17) rfl (g17) rfl 35 (dv v) (0,0) _ l17 Tryd.underlying35 rfl (info_dv _) ?_))
     clear l16 l17
     refine (subD H_e.out _).mono ?_
     rintro e0 vq ⟨rfl,hb⟩
     have hf := HF.out.ext hb
     have ka : Blk (vq.alloc (.cells #[.int .u64 0,.int .u64 0,.int .u64 0,.int .u64 0,.int .u64 0,.int .u64 0,.int .u64 0,.int .u64 0,.int .u64 0,.int .u64 0,.int .u64 0,.int .u64 0,.int .u64 0,.int .u64 0,.int .u64 0,.int .u64 0] 35)) vq.heap.size 35 #[.int .u64 0,.int .u64 0,.int .u64 0,.int .u64 0,.int .u64 0,.int .u64 0,.int .u64 0,.int .u64 0,.int .u64 0,.int .u64 0,.int .u64 0,.int .u64 0,.int .u64 0,.int .u64 0,.int .u64 0,.int .u64 0] := Blk.new _ _ _
     have kc := ka.setRow_same (dv e)
     have hf3 := ((hf.pass (.cells #[.int .u64 0,.int .u64 0,.int .u64 0,.int .u64 0,.int .u64 0,.int .u64 0,.int .u64 0,.int .u64 0,.int .u64 0,.int .u64 0,.int .u64 0,.int .u64 0,.int .u64 0,.int .u64 0,.int .u64 0,.int .u64 0] 35)).setOut (g := vq.heap.size) (by have := hf.size; omega) (by intro p hp; exact Nat.ne_of_lt (hf.rows p hp).lt) (by intro p hp; obtain ⟨cs,_,k⟩ := hf.some_ p hp; exact Nat.ne_of_lt k.lt) (dv e)).more kc
     have hsz : (#[.int .u64 0,.int .u64 0,.int .u64 0,.int .u64 0,.int .u64 0,.int .u64 0,.int .u64 0,.int .u64 0,.int .u64 0,.int .u64 0,.int .u64 0,.int .u64 0,.int .u64 0,.int .u64 0,.int .u64 0,.int .u64 0] : Array Value).size = (dv e).size := by rw [dv_size]; rfl
     have hszw := hb.size
     have KA := Lib.hid ka
     have HSZ := Lib.hid hsz
     have HF4 := Lib.hid hf3
     clear hb hf kc ka hf3 HF hsz
     go_wp2_with (first | (refine wpList_store_row rfl 35 (.tmp 18) (.tmp 71) rfl (vq.heap.size) (dv e) rfl rfl 35 _ KA.out (info_dv _) HSZ.out (dv_one _) ?_))
     obtain ⟨g18,h_gn⟩ : ∃ g,g = vq.heap.size := ⟨_,rfl⟩
     obtain ⟨wg,h_wn⟩ : ∃ z : World,z = (vq.alloc (.cells #[.int .u64 0,.int .u64 0,.int .u64 0,.int .u64 0,.int .u64 0,.int .u64 0,.int .u64 0,.int .u64 0,.int .u64 0,.int .u64 0,.int .u64 0,.int .u64 0,.int .u64 0,.int .u64 0,.int .u64 0,.int .u64 0] 35)).setRow vq.heap.size (dv e) := ⟨_,rfl⟩
     have hsz_wg : wg.heap.size = vq.heap.size + 1 := by rw [h_wn]; simp
     rw [← h_wn] at HF4 ⊢
     rw [← h_gn] at HF4 hszw hsz_wg ⊢
     clear h_wn h_gn
     have HF := HF4
     clear HF4 KA HSZ
     try simp only [Act.put,e1,e4,e5,e6]
     have t18 : nb ≤ g18 := by omega
     have hcu2 : nb ≤ wg.heap.size := by omega
     clear hcur hszw hsz_wg
     have hcur := hcu2
     clear hcu2
     go_cut [19] (fun s19 wz => ∃ g19 : Nat,s19 = .pointer (some ⟨g19,0,none⟩) ∧ wg.heap.size ≤ g19 ∧ Blk wz g19 35 (dv m) ∧ Below wg.heap.size wg wz)
     case first =>
      as_aux_lemma =>
       have hn := (HF.out.now.sub (L' := [(g18,35,dv e),(g17,35,dv v),(g16,35,dv u),(g15,35,dv le),(g14,35,dv su),(g11,35,dv s2.d),(g10,35,dv s2.c),(g9,35,dv s2.b),(g8,35,dv s2.a),(g6,35,dv x),(g5,23,ks K)]) (by simp))
       have HN := Lib.hid hn
       clear hn
       refine wp_region_held_drew (S := fun W => Fn wg W [(g18,35,dv e),(g17,35,dv v),(g16,35,dv u),(g15,35,dv le),(g14,35,dv su),(g11,35,dv s2.d),(g10,35,dv s2.c),(g9,35,dv s2.b),(g8,35,dv s2.a),(g6,35,dv x),(g5,23,ks K)]) (by kernel_rfl) ?_ (fun hHeld => ?_)
       ·
        exact HN.out.drew
       refine wpAnyH_take (i := 0) (v := .agg (dv s2.c)) rfl (by kernel_rfl) (by kernel_rfl) (by kernel_rfl) (fun _ _ _ h => h) (yields_row (by rfl) 35 (.tmp 10) rfl (g10) rfl 35 (dv s2.c) _ (fun W (h : Fn _ W _) => h.get (by simp)) Tryd.underlying35 rfl (info_dv _)) hHeld ?_
       try simp only [Act.put,e1,e2,e3,e4,e5,e6]
       refine wpAnyH_take (i := 1) (v := .agg (dv s2.d)) rfl (by kernel_rfl) (by kernel_rfl) (by kernel_rfl) (fun _ _ _ h => h) (yields_row (by rfl) 35 (.tmp 11) rfl (g11) rfl 35 (dv s2.d) _ (fun W (h : Fn _ W _) => h.get (by simp)) Tryd.underlying35 rfl (info_dv _)) hHeld ?_
       try simp only [Act.put,e1,e2,e3,e4,e5,e6]
       refine wpAnyH_take (i := 3) (v := .agg (dv le)) rfl (by kernel_rfl) (by kernel_rfl) (by kernel_rfl) (fun _ _ _ h => h) (yields_row (by rfl) 35 (.tmp 15) rfl (g15) rfl 35 (dv le) _ (fun W (h : Fn _ W _) => h.get (by simp)) Tryd.underlying35 rfl (info_dv _)) hHeld ?_
       try simp only [Act.put,e1,e2,e3,e4,e5,e6]
       refine wpAnyH_name ?_
       intro ops Q hops hQ
       obtain ⟨fF,hfF⟩ : ∃ f : Value → Value → Value → Array Value,∀ p0 p1 p2,f p0 p1 p2 = #[.agg (ks k),.agg (ks n),.pointer (some ⟨w.heap.size,0,none⟩),.pointer (some ⟨w.heap.size + 1,0,none⟩),.pointer (some ⟨w.heap.size + 1 + 1,0,none⟩),.pointer (some ⟨g5,0,none⟩),.pointer (some ⟨g6,0,none⟩),.pointer (some ⟨g7,0,none⟩),.pointer (some ⟨g8,0,none⟩),.pointer (some ⟨g9,0,none⟩),.pointer (some ⟨g10,0,none⟩),.pointer (some ⟨g11,0,none⟩),.int .i64 (i : Int),.bool t,.pointer (some ⟨g14,0,none⟩),.pointer (some ⟨g15,0,none⟩),.pointer (some ⟨g16,0,none⟩),.pointer (some ⟨g17,0,none⟩),.pointer (some ⟨g18,0,none⟩),p2,u20,u21,u22,u23,u24,u25,u26,u27,u28,u29,u30,u31,u32,u33,u34,u35,u36,u37,u38,u39,u40,u41,u42,u43,u44,u45,u46,u47,u48,u49,u50,u51,u52,u53,u54,u55,u56,u57,u58,u59,u60,u61,u62,u63,u64,u65,u66,u67,u68,.agg (dv u),.agg (dv v),.agg (dv e),.agg (dv s2.c),.agg (dv s2.d),p0,.agg (dv le),p1,u77,u78,u79,u80,u81,u82,u83,u84,u85,u86,u87,u88,u89,u90,u91,u92,u93,u94,u95,u96,u97,u98,u99,u100,u101,u102,u103,u104,u105,u106,u107,u108,u109,u110,u111,u112,u113,u114,u115] := ⟨_,fun _ _ _ => rfl⟩
       have st2_5 : ∀ (g19 : Nat) (W : World),Fn wg W [(g18,35,dv e),(g17,35,dv v),(g16,35,dv u),(g15,35,dv le),(g14,35,dv su),(g11,35,dv s2.d),(g10,35,dv s2.c),(g9,35,dv s2.b),(g8,35,dv s2.a),(g6,35,dv x),(g5,23,ks K)] → Blk W g19 35 #[.int .u64 0,.int .u64 0,.int .u64 0,.int .u64 0,.int .u64 0,.int .u64 0,.int .u64 0,.int .u64 0,.int .u64 0,.int .u64 0,.int .u64 0,.int .u64 0,.int .u64 0,.int .u64 0,.int .u64 0,.int .u64 0] → wg.heap.size ≤ g19 → wpAnyH Tryd.prog .any ops Q (fun W => Fn wg W [(g18,35,dv e),(g17,35,dv v),(g16,35,dv u),(g15,35,dv le),(g14,35,dv su),(g11,35,dv s2.d),(g10,35,dv s2.c),(g9,35,dv s2.b),(g8,35,dv s2.a),(g6,35,dv x),(g5,23,ks K)]) 1 #[true,true,true,true,true,true,false] { tmps := fF (.agg (dv cd)) (.agg (dv m)) (.pointer (some ⟨g19,0,none⟩)),defers := [] } W := by
        as_aux_lemma =>
         intro g19 W hHeld K5 Z5
         rw [← hops,hfF]
         rw [← hQ]
         have KK5 := Lib.hid K5
         clear K5
         refine wpAnyH_ready (rs := [6]) (by kernel_rfl) (by simp) (AllReadyH.cons rfl (fun K hK => ?_) AllReadyH.nil)
         have h0 := hHeld
         clear hHeld
         try simp only [e1,e2,e3]
         rw [if_pos (by rfl)]
         refine wp_store_row 35 (.tmp 19) (.tmp 76) rfl g19 (dv m) rfl rfl 35 _ KK5.out (info_dv _) (by rw [dv_size]; rfl) (dv_one _) ?_
         refine hK.out _ _ (Fn.setFresh h0 Z5 _) (fun hHeld => ?_)
         have J5 := Lib.hid (KK5.out.setRow_same (dv m))
         clear KK5
         have KK5 := J5
         clear J5
         clear hK K h0
         try simp only [Act.put,e1,e2,e3,e4,e5,e6]
         refine wpAnyH_done (by kernel_rfl) ?_ _
         have HB := Lib.hid hHeld.below
         clear hHeld
         go_wp2_with (fail)
         go_meet
         exact ⟨g19,rfl,Z5,KK5.out,HB.out⟩
       have st2_ : ∀ (W : World),Fn wg W [(g18,35,dv e),(g17,35,dv v),(g16,35,dv u),(g15,35,dv le),(g14,35,dv su),(g11,35,dv s2.d),(g10,35,dv s2.c),(g9,35,dv s2.b),(g8,35,dv s2.a),(g6,35,dv x),(g5,23,ks K)] → wpAnyH Tryd.prog .any ops Q (fun W => Fn wg W [(g18,35,dv e),(g17,35,dv v),(g16,35,dv u),(g15,35,dv le),(g14,35,dv su),(g11,35,dv s2.d),(g10,35,dv s2.c),(g9,35,dv s2.b),(g8,35,dv s2.a),(g6,35,dv x),(g5,23,ks K)]) 2 #[true,true,true,true,true,false,false] { tmps := fF (.agg (dv cd)) (.agg (dv m)) (u19),defers := [] } W := by
        as_aux_lemma =>
         intro W hHeld
         rw [← hops,hfF]
         refine wpAnyH_ready (rs := [5]) (by kernel_rfl) (by simp) (AllReadyH.cons rfl (fun K hK => ?_) AllReadyH.nil)
         have h0 := hHeld
         clear hHeld
         try simp only [e1,e2,e3]
         obtain ⟨kz,hg⟩ := frZ h0
         have KZ := Lib.hid kz
         have HG := Lib.hid hg
         have H0 := Lib.hid h0
         clear kz hg h0
         go_simp
         refine hK.out _ _ (Fn.pass H0.out _) (fun hHeld => ?_)
         clear hK K H0
         try simp only [Act.put,e1,e2,e3,e4,e5,e6]
         have k5 := KZ.out
         have z5 := HG.out
         have hh := st2_5 _ _ hHeld k5 z5
         rw [← hops,hfF] at hh
         exact wpAnyH_cast (by kernel_rfl) (by kernel_rfl) hh
       have st1_5 : ∀ (g19 : Nat) (W : World),Fn wg W [(g18,35,dv e),(g17,35,dv v),(g16,35,dv u),(g15,35,dv le),(g14,35,dv su),(g11,35,dv s2.d),(g10,35,dv s2.c),(g9,35,dv s2.b),(g8,35,dv s2.a),(g6,35,dv x),(g5,23,ks K)] → Blk W g19 35 #[.int .u64 0,.int .u64 0,.int .u64 0,.int .u64 0,.int .u64 0,.int .u64 0,.int .u64 0,.int .u64 0,.int .u64 0,.int .u64 0,.int .u64 0,.int .u64 0,.int .u64 0,.int .u64 0,.int .u64 0,.int .u64 0] → wg.heap.size ≤ g19 → wpAnyH Tryd.prog .any ops Q (fun W => Fn wg W [(g18,35,dv e),(g17,35,dv v),(g16,35,dv u),(g15,35,dv le),(g14,35,dv su),(g11,35,dv s2.d),(g10,35,dv s2.c),(g9,35,dv s2.b),(g8,35,dv s2.a),(g6,35,dv x),(g5,23,ks K)]) 2 #[true,true,true,true,false,true,false] { tmps := fF (.agg (dv cd)) (u76) (.pointer (some ⟨g19,0,none⟩)),defers := [] } W := by
        as_aux_lemma =>
         clear st2_
         intro g19 W hHeld K5 Z5
         rw [← hops,hfF]
         refine wpAnyH_ready (rs := [4]) (by kernel_rfl) (by simp) (AllReadyH.cons rfl (fun K hK => ?_) AllReadyH.nil)
         have KH5 := Lib.hid K5
         have h0 := hHeld
         clear hHeld
         try simp only [e1,e2,e3]
         have H0 := Lib.hid h0
         clear h0
         go_simp
         go_at_call 21
         refine (mulD H_m.out _).mono ?_
         rintro e vv ⟨rfl,hb⟩
         have KJ5 := Lib.hid (KH5.out.below hb KH5.out.lt)
         have h1 := H0.out.ext hb
         clear hb H0
         go_wp2_with (fail)
         refine hK.out _ _ h1 (fun hHeld => ?_)
         clear hK K h1
         try simp only [Act.put,e1,e2,e3,e4,e5,e6]
         have k5 := KJ5.out
         have z5 := Z5
         have hh := st2_5 g19 _ hHeld k5 z5
         rw [← hops,hfF] at hh
         exact wpAnyH_cast (by kernel_rfl) (by kernel_rfl) hh
       have st1_ : ∀ (W : World),Fn wg W [(g18,35,dv e),(g17,35,dv v),(g16,35,dv u),(g15,35,dv le),(g14,35,dv su),(g11,35,dv s2.d),(g10,35,dv s2.c),(g9,35,dv s2.b),(g8,35,dv s2.a),(g6,35,dv x),(g5,23,ks K)] → wpAnyH Tryd.prog .any ops Q (fun W => Fn wg W [(g18,35,dv e),(g17,35,dv v),(g16,35,dv u),(g15,35,dv le),(g14,35,dv su),(g11,35,dv s2.d),(g10,35,dv s2.c),(g9,35,dv s2.b),(g8,35,dv s2.a),(g6,35,dv x),(g5,23,ks K)]) 3 #[true,true,true,true,false,false,false] { tmps := fF (.agg (dv cd)) (u76) (u19),defers := [] } W := by
        as_aux_lemma =>
         clear st2_5
         intro W hHeld
         rw [← hops,hfF]
         refine wpAnyH_ready (rs := [4,5]) (by kernel_rfl) (by simp) (AllReadyH.cons rfl (fun K hK => ?_) (AllReadyH.cons rfl (fun K hK => ?_) AllReadyH.nil))
         ·
          have h0 := hHeld
          clear hHeld
          try simp only [e1,e2,e3]
          have H0 := Lib.hid h0
          clear h0
          go_simp
          go_at_call 21
          refine (mulD H_m.out _).mono ?_
          rintro e vv ⟨rfl,hb⟩
          have h1 := H0.out.ext hb
          clear hb H0
          go_wp2_with (fail)
          refine hK.out _ _ h1 (fun hHeld => ?_)
          clear hK K h1
          try simp only [Act.put,e1,e2,e3,e4,e5,e6]
          have hh := st2_ _ hHeld
          rw [← hops,hfF] at hh
          exact wpAnyH_cast (by kernel_rfl) (by kernel_rfl) hh
         ·
          have h0 := hHeld
          clear hHeld
          try simp only [e1,e2,e3]
          obtain ⟨kz,hg⟩ := frZ h0
          have KZ := Lib.hid kz
          have HG := Lib.hid hg
          have H0 := Lib.hid h0
          clear kz hg h0
          go_simp
          refine hK.out _ _ (Fn.pass H0.out _) (fun hHeld => ?_)
          clear hK K H0
          try simp only [Act.put,e1,e2,e3,e4,e5,e6]
          have k5 := KZ.out
          have z5 := HG.out
          have hh := st1_5 _ _ hHeld k5 z5
          rw [← hops,hfF] at hh
          exact wpAnyH_cast (by kernel_rfl) (by kernel_rfl) hh
       have st0_5 : ∀ (g19 : Nat) (W : World),Fn wg W [(g18,35,dv e),(g17,35,dv v),(g16,35,dv u),(g15,35,dv le),(g14,35,dv su),(g11,35,dv s2.d),(g10,35,dv s2.c),(g9,35,dv s2.b),(g8,35,dv s2.a),(g6,35,dv x),(g5,23,ks K)] → Blk W g19 35 #[.int .u64 0,.int .u64 0,.int .u64 0,.int .u64 0,.int .u64 0,.int .u64 0,.int .u64 0,.int .u64 0,.int .u64 0,.int .u64 0,.int .u64 0,.int .u64 0,.int .u64 0,.int .u64 0,.int .u64 0,.int .u64 0] → wg.heap.size ≤ g19 → wpAnyH Tryd.prog .any ops Q (fun W => Fn wg W [(g18,35,dv e),(g17,35,dv v),(g16,35,dv u),(g15,35,dv le),(g14,35,dv su),(g11,35,dv s2.d),(g10,35,dv s2.c),(g9,35,dv s2.b),(g8,35,dv s2.a),(g6,35,dv x),(g5,23,ks K)]) 3 #[true,true,false,true,false,true,false] { tmps := fF (u74) (u76) (.pointer (some ⟨g19,0,none⟩)),defers := [] } W := by
        as_aux_lemma =>
         clear st1_ st2_ st2_5
         intro g19 W hHeld K5 Z5
         rw [← hops,hfF]
         refine wpAnyH_ready (rs := [2]) (by kernel_rfl) (by simp) (AllReadyH.cons rfl (fun K hK => ?_) AllReadyH.nil)
         have KH5 := Lib.hid K5
         have h0 := hHeld
         clear hHeld
         try simp only [e1,e2,e3]
         have H0 := Lib.hid h0
         clear h0
         go_simp
         go_at_call 18
         refine (addE H_cd.out _).mono ?_
         rintro e vv ⟨rfl,hb⟩
         have KJ5 := Lib.hid (KH5.out.below hb KH5.out.lt)
         have h1 := H0.out.ext hb
         clear hb H0
         go_wp2_with (fail)
         refine hK.out _ _ h1 (fun hHeld => ?_)
         clear hK K h1
         try simp only [Act.put,e1,e2,e3,e4,e5,e6]
         have k5 := KJ5.out
         have z5 := Z5
         have hh := st1_5 g19 _ hHeld k5 z5
         rw [← hops,hfF] at hh
         exact wpAnyH_cast (by kernel_rfl) (by kernel_rfl) hh
       have st0_ : ∀ (W : World),Fn wg W [(g18,35,dv e),(g17,35,dv v),(g16,35,dv u),(g15,35,dv le),(g14,35,dv su),(g11,35,dv s2.d),(g10,35,dv s2.c),(g9,35,dv s2.b),(g8,35,dv s2.a),(g6,35,dv x),(g5,23,ks K)] → wpAnyH Tryd.prog .any ops Q (fun W => Fn wg W [(g18,35,dv e),(g17,35,dv v),(g16,35,dv u),(g15,35,dv le),(g14,35,dv su),(g11,35,dv s2.d),(g10,35,dv s2.c),(g9,35,dv s2.b),(g8,35,dv s2.a),(g6,35,dv x),(g5,23,ks K)]) 4 #[true,true,false,true,false,false,false] { tmps := fF (u74) (u76) (u19),defers := [] } W := by
        as_aux_lemma =>
         clear st1_5 st2_ st2_5
         intro W hHeld
         rw [← hops,hfF]
         refine wpAnyH_ready (rs := [2,5]) (by kernel_rfl) (by simp) (AllReadyH.cons rfl (fun K hK => ?_) (AllReadyH.cons rfl (fun K hK => ?_) AllReadyH.nil))
         ·
          have h0 := hHeld
          clear hHeld
          try simp only [e1,e2,e3]
          have H0 := Lib.hid h0
          clear h0
          go_simp
          go_at_call 18
          refine (addE H_cd.out _).mono ?_
          rintro e vv ⟨rfl,hb⟩
          have h1 := H0.out.ext hb
          clear hb H0
          go_wp2_with (fail)
          refine hK.out _ _ h1 (fun hHeld => ?_)
          clear hK K h1
          try simp only [Act.put,e1,e2,e3,e4,e5,e6]
          have hh := st1_ _ hHeld
          rw [← hops,hfF] at hh
          exact wpAnyH_cast (by kernel_rfl) (by kernel_rfl) hh
         ·
          have h0 := hHeld
          clear hHeld
          try simp only [e1,e2,e3]
          obtain ⟨kz,hg⟩ := frZ h0
          have KZ := Lib.hid kz
          have HG := Lib.hid hg
          have H0 := Lib.hid h0
          clear kz hg h0
          go_simp
          refine hK.out _ _ (Fn.pass H0.out _) (fun hHeld => ?_)
          clear hK K H0
          try simp only [Act.put,e1,e2,e3,e4,e5,e6]
          have k5 := KZ.out
          have z5 := HG.out
          have hh := st0_5 _ _ hHeld k5 z5
          rw [← hops,hfF] at hh
          exact wpAnyH_cast (by kernel_rfl) (by kernel_rfl) hh
       have hh := st0_ _ hHeld
       rw [hfF] at hh
       exact wpAnyH_cast (by kernel_rfl) (by kernel_rfl) hh
     obtain ⟨g19,rfl,y19,k19,hb⟩ := hcut
     have t19 : nb ≤ g19 := by omega
     have hf := (HF.out.ext hb).more k19
     have hcu2 : nb ≤ wc.heap.size := by have := hb.size; omega
     have HF4 := Lib.hid hf
     clear hf hb HF hcur k19 y19
     have HF := HF4
     clear HF4
     obtain ⟨wh,h_w⟩ : ∃ z : World,z = wc := ⟨_,rfl⟩
     rw [← h_w] at HF hcu2 ⊢
     clear h_w
     have hcur := hcu2
     clear hcu2
     go_wp2_with (fail)
     go_cut [20] (fun s20 wz => ∃ g20 : Nat,s20 = .pointer (some ⟨g20,0,none⟩) ∧ wh.heap.size ≤ g20 ∧ Blk wz g20 35 (dv kq) ∧ Below wh.heap.size wh wz)
     case first =>
      as_aux_lemma =>
       have hn := (HF.out.now.sub (L' := [(g19,35,dv m),(g18,35,dv e),(g17,35,dv v),(g16,35,dv u),(g15,35,dv le),(g14,35,dv su),(g11,35,dv s2.d),(g10,35,dv s2.c),(g9,35,dv s2.b),(g8,35,dv s2.a),(g6,35,dv x),(g5,23,ks K)]) (by simp))
       have HN := Lib.hid hn
       clear hn
       refine wp_region_held_drew (S := fun W => Fn wh W [(g19,35,dv m),(g18,35,dv e),(g17,35,dv v),(g16,35,dv u),(g15,35,dv le),(g14,35,dv su),(g11,35,dv s2.d),(g10,35,dv s2.c),(g9,35,dv s2.b),(g8,35,dv s2.a),(g6,35,dv x),(g5,23,ks K)]) (by kernel_rfl) ?_ (fun hHeld => ?_)
       ·
        exact HN.out.drew
       refine wpAnyH_take (i := 0) (v := .agg (dv s2.c)) rfl (by kernel_rfl) (by kernel_rfl) (by kernel_rfl) (fun _ _ _ h => h) (yields_row (by rfl) 35 (.tmp 10) rfl (g10) rfl 35 (dv s2.c) _ (fun W (h : Fn _ W _) => h.get (by simp)) Tryd.underlying35 rfl (info_dv _)) hHeld ?_
       try simp only [Act.put,e1,e2,e3,e4,e5,e6]
       refine wpAnyH_take (i := 1) (v := .agg (dv s2.d)) rfl (by kernel_rfl) (by kernel_rfl) (by kernel_rfl) (fun _ _ _ h => h) (yields_row (by rfl) 35 (.tmp 11) rfl (g11) rfl 35 (dv s2.d) _ (fun W (h : Fn _ W _) => h.get (by simp)) Tryd.underlying35 rfl (info_dv _)) hHeld ?_
       try simp only [Act.put,e1,e2,e3,e4,e5,e6]
       refine wpAnyH_take (i := 3) (v := .agg (dv su)) rfl (by kernel_rfl) (by kernel_rfl) (by kernel_rfl) (fun _ _ _ h => h) (yields_row (by rfl) 35 (.tmp 14) rfl (g14) rfl 35 (dv su) _ (fun W (h : Fn _ W _) => h.get (by simp)) Tryd.underlying35 rfl (info_dv _)) hHeld ?_
       try simp only [Act.put,e1,e2,e3,e4,e5,e6]
       refine wpAnyH_name ?_
       intro ops Q hops hQ
       obtain ⟨fF,hfF⟩ : ∃ f : Value → Value → Value → Array Value,∀ p0 p1 p2,f p0 p1 p2 = #[.agg (ks k),.agg (ks n),.pointer (some ⟨w.heap.size,0,none⟩),.pointer (some ⟨w.heap.size + 1,0,none⟩),.pointer (some ⟨w.heap.size + 1 + 1,0,none⟩),.pointer (some ⟨g5,0,none⟩),.pointer (some ⟨g6,0,none⟩),.pointer (some ⟨g7,0,none⟩),.pointer (some ⟨g8,0,none⟩),.pointer (some ⟨g9,0,none⟩),.pointer (some ⟨g10,0,none⟩),.pointer (some ⟨g11,0,none⟩),.int .i64 (i : Int),.bool t,.pointer (some ⟨g14,0,none⟩),.pointer (some ⟨g15,0,none⟩),.pointer (some ⟨g16,0,none⟩),.pointer (some ⟨g17,0,none⟩),.pointer (some ⟨g18,0,none⟩),.pointer (some ⟨g19,0,none⟩),p2,u21,u22,u23,u24,u25,u26,u27,u28,u29,u30,u31,u32,u33,u34,u35,u36,u37,u38,u39,u40,u41,u42,u43,u44,u45,u46,u47,u48,u49,u50,u51,u52,u53,u54,u55,u56,u57,u58,u59,u60,u61,u62,u63,u64,u65,u66,u67,u68,u69,u70,u71,u72,u73,u74,u75,u76,.agg (dv s2.c),.agg (dv s2.d),p0,.agg (dv su),p1,u82,u83,u84,u85,u86,u87,u88,u89,u90,u91,u92,u93,u94,u95,u96,u97,u98,u99,u100,u101,u102,u103,u104,u105,u106,u107,u108,u109,u110,u111,u112,u113,u114,u115] := ⟨_,fun _ _ _ => rfl⟩
       have st2_5 : ∀ (g20 : Nat) (W : World),Fn wh W [(g19,35,dv m),(g18,35,dv e),(g17,35,dv v),(g16,35,dv u),(g15,35,dv le),(g14,35,dv su),(g11,35,dv s2.d),(g10,35,dv s2.c),(g9,35,dv s2.b),(g8,35,dv s2.a),(g6,35,dv x),(g5,23,ks K)] → Blk W g20 35 #[.int .u64 0,.int .u64 0,.int .u64 0,.int .u64 0,.int .u64 0,.int .u64 0,.int .u64 0,.int .u64 0,.int .u64 0,.int .u64 0,.int .u64 0,.int .u64 0,.int .u64 0,.int .u64 0,.int .u64 0,.int .u64 0] → wh.heap.size ≤ g20 → wpAnyH Tryd.prog .any ops Q (fun W => Fn wh W [(g19,35,dv m),(g18,35,dv e),(g17,35,dv v),(g16,35,dv u),(g15,35,dv le),(g14,35,dv su),(g11,35,dv s2.d),(g10,35,dv s2.c),(g9,35,dv s2.b),(g8,35,dv s2.a),(g6,35,dv x),(g5,23,ks K)]) 1 #[true,true,true,true,true,true,false] { tmps := fF (.agg (dv ce)) (.agg (dv kq)) (.pointer (some ⟨g20,0,none⟩)),defers := [] } W := by
        as_aux_lemma =>
         intro g20 W hHeld K5 Z5
         rw [← hops,hfF]
         rw [← hQ]
         have KK5 := Lib.hid K5
         clear K5
         refine wpAnyH_ready (rs := [6]) (by kernel_rfl) (by simp) (AllReadyH.cons rfl (fun K hK => ?_) AllReadyH.nil)
         have h0 := hHeld
         clear hHeld
         try simp only [e1,e2,e3]
         rw [if_pos (by rfl)]
         refine wp_store_row 35 (.tmp 20) (.tmp 81) rfl g20 (dv kq) rfl rfl 35 _ KK5.out (info_dv _) (by rw [dv_size]; rfl) (dv_one _) ?_
         refine hK.out _ _ (Fn.setFresh h0 Z5 _) (fun hHeld => ?_)
         have J5 := Lib.hid (KK5.out.setRow_same (dv kq))
         clear KK5
         have KK5 := J5
         clear J5
         clear hK K h0
         try simp only [Act.put,e1,e2,e3,e4,e5,e6]
         refine wpAnyH_done (by kernel_rfl) ?_ _
         have HB := Lib.hid hHeld.below
         clear hHeld
         go_wp2_with (fail)
         go_meet
         exact ⟨g20,rfl,Z5,KK5.out,HB.out⟩
       have st2_ : ∀ (W : World),Fn wh W [(g19,35,dv m),(g18,35,dv e),(g17,35,dv v),(g16,35,dv u),(g15,35,dv le),(g14,35,dv su),(g11,35,dv s2.d),(g10,35,dv s2.c),(g9,35,dv s2.b),(g8,35,dv s2.a),(g6,35,dv x),(g5,23,ks K)] → wpAnyH Tryd.prog .any ops Q (fun W => Fn wh W [(g19,35,dv m),(g18,35,dv e),(g17,35,dv v),(g16,35,dv u),(g15,35,dv le),(g14,35,dv su),(g11,35,dv s2.d),(g10,35,dv s2.c),(g9,35,dv s2.b),(g8,35,dv s2.a),(g6,35,dv x),(g5,23,ks K)]) 2 #[true,true,true,true,true,false,false] { tmps := fF (.agg (dv ce)) (.agg (dv kq)) (u20),defers := [] } W := by
        as_aux_lemma =>
         intro W hHeld
         rw [← hops,hfF]
         refine wpAnyH_ready (rs := [5]) (by kernel_rfl) (by simp) (AllReadyH.cons rfl (fun K hK => ?_) AllReadyH.nil)
         have h0 := hHeld
         clear hHeld
         try simp only [e1,e2,e3]
         obtain ⟨kz,hg⟩ := frZ h0
         have KZ := Lib.hid kz
         have HG := Lib.hid hg
         have H0 := Lib.hid h0
         clear kz hg h0
         go_simp
         refine hK.out _ _ (Fn.pass H0.out _) (fun hHeld => ?_)
         clear hK K H0
         try simp only [Act.put,e1,e2,e3,e4,e5,e6]
         have k5 := KZ.out
         have z5 := HG.out
         have hh := st2_5 _ _ hHeld k5 z5
         rw [← hops,hfF] at hh
         exact wpAnyH_cast (by kernel_rfl) (by kernel_rfl) hh
       have st1_5 : ∀ (g20 : Nat) (W : World),Fn wh W [(g19,35,dv m),(g18,35,dv e),(g17,35,dv v),(g16,35,dv u),(g15,35,dv le),(g14,35,dv su),(g11,35,dv s2.d),(g10,35,dv s2.c),(g9,35,dv s2.b),(g8,35,dv s2.a),(g6,35,dv x),(g5,23,ks K)] → Blk W g20 35 #[.int .u64 0,.int .u64 0,.int .u64 0,.int .u64 0,.int .u64 0,.int .u64 0,.int .u64 0,.int .u64 0,.int .u64 0,.int .u64 0,.int .u64 0,.int .u64 0,.int .u64 0,.int .u64 0,.int .u64 0,.int .u64 0] → wh.heap.size ≤ g20 → wpAnyH Tryd.prog .any ops Q (fun W => Fn wh W [(g19,35,dv m),(g18,35,dv e),(g17,35,dv v),(g16,35,dv u),(g15,35,dv le),(g14,35,dv su),(g11,35,dv s2.d),(g10,35,dv s2.c),(g9,35,dv s2.b),(g8,35,dv s2.a),(g6,35,dv x),(g5,23,ks K)]) 2 #[true,true,true,true,false,true,false] { tmps := fF (.agg (dv ce)) (u81) (.pointer (some ⟨g20,0,none⟩)),defers := [] } W := by
        as_aux_lemma =>
         clear st2_
         intro g20 W hHeld K5 Z5
         rw [← hops,hfF]
         refine wpAnyH_ready (rs := [4]) (by kernel_rfl) (by simp) (AllReadyH.cons rfl (fun K hK => ?_) AllReadyH.nil)
         have KH5 := Lib.hid K5
         have h0 := hHeld
         clear hHeld
         try simp only [e1,e2,e3]
         have H0 := Lib.hid h0
         clear h0
         go_simp
         go_at_call 21
         refine (mulD H_kq.out _).mono ?_
         rintro e vv ⟨rfl,hb⟩
         have KJ5 := Lib.hid (KH5.out.below hb KH5.out.lt)
         have h1 := H0.out.ext hb
         clear hb H0
         go_wp2_with (fail)
         refine hK.out _ _ h1 (fun hHeld => ?_)
         clear hK K h1
         try simp only [Act.put,e1,e2,e3,e4,e5,e6]
         have k5 := KJ5.out
         have z5 := Z5
         have hh := st2_5 g20 _ hHeld k5 z5
         rw [← hops,hfF] at hh
         exact wpAnyH_cast (by kernel_rfl) (by kernel_rfl) hh
       have st1_ : ∀ (W : World),Fn wh W [(g19,35,dv m),(g18,35,dv e),(g17,35,dv v),(g16,35,dv u),(g15,35,dv le),(g14,35,dv su),(g11,35,dv s2.d),(g10,35,dv s2.c),(g9,35,dv s2.b),(g8,35,dv s2.a),(g6,35,dv x),(g5,23,ks K)] → wpAnyH Tryd.prog .any ops Q (fun W => Fn wh W [(g19,35,dv m),(g18,35,dv e),(g17,35,dv v),(g16,35,dv u),(g15,35,dv le),(g14,35,dv su),(g11,35,dv s2.d),(g10,35,dv s2.c),(g9,35,dv s2.b),(g8,35,dv s2.a),(g6,35,dv x),(g5,23,ks K)]) 3 #[true,true,true,true,false,false,false] { tmps := fF (.agg (dv ce)) (u81) (u20),defers := [] } W := by
        as_aux_lemma =>
         clear st2_5
         intro W hHeld
         rw [← hops,hfF]
         refine wpAnyH_ready (rs := [4,5]) (by kernel_rfl) (by simp) (AllReadyH.cons rfl (fun K hK => ?_) (AllReadyH.cons rfl (fun K hK => ?_) AllReadyH.nil))
         ·
          have h0 := hHeld
          clear hHeld
          try simp only [e1,e2,e3]
          have H0 := Lib.hid h0
          clear h0
          go_simp
          go_at_call 21
          refine (mulD H_kq.out _).mono ?_
          rintro e vv ⟨rfl,hb⟩
          have h1 := H0.out.ext hb
          clear hb H0
          go_wp2_with (fail)
          refine hK.out _ _ h1 (fun hHeld => ?_)
          clear hK K h1
          try simp only [Act.put,e1,e2,e3,e4,e5,e6]
          have hh := st2_ _ hHeld
          rw [← hops,hfF] at hh
          exact wpAnyH_cast (by kernel_rfl) (by kernel_rfl) hh
         ·
          have h0 := hHeld
          clear hHeld
          try simp only [e1,e2,e3]
          obtain ⟨kz,hg⟩ := frZ h0
          have KZ := Lib.hid kz
          have HG := Lib.hid hg
          have H0 := Lib.hid h0
          clear kz hg h0
          go_simp
          refine hK.out _ _ (Fn.pass H0.out _) (fun hHeld => ?_)
          clear hK K H0
          try simp only [Act.put,e1,e2,e3,e4,e5,e6]
          have k5 := KZ.out
          have z5 := HG.out
          have hh := st1_5 _ _ hHeld k5 z5
          rw [← hops,hfF] at hh
          exact wpAnyH_cast (by kernel_rfl) (by kernel_rfl) hh
       have st0_5 : ∀ (g20 : Nat) (W : World),Fn wh W [(g19,35,dv m),(g18,35,dv e),(g17,35,dv v),(g16,35,dv u),(g15,35,dv le),(g14,35,dv su),(g11,35,dv s2.d),(g10,35,dv s2.c),(g9,35,dv s2.b),(g8,35,dv s2.a),(g6,35,dv x),(g5,23,ks K)] → Blk W g20 35 #[.int .u64 0,.int .u64 0,.int .u64 0,.int .u64 0,.int .u64 0,.int .u64 0,.int .u64 0,.int .u64 0,.int .u64 0,.int .u64 0,.int .u64 0,.int .u64 0,.int .u64 0,.int .u64 0,.int .u64 0,.int .u64 0] → wh.heap.size ≤ g20 → wpAnyH Tryd.prog .any ops Q (fun W => Fn wh W [(g19,35,dv m),(g18,35,dv e),(g17,35,dv v),(g16,35,dv u),(g15,35,dv le),(g14,35,dv su),(g11,35,dv s2.d),(g10,35,dv s2.c),(g9,35,dv s2.b),(g8,35,dv s2.a),(g6,35,dv x),(g5,23,ks K)]) 3 #[true,true,false,true,false,true,false] { tmps := fF (u79) (u81) (.pointer (some ⟨g20,0,none⟩)),defers := [] } W := by
        as_aux_lemma =>
         clear st1_ st2_ st2_5
         intro g20 W hHeld K5 Z5
         rw [← hops,hfF]
         refine wpAnyH_ready (rs := [2]) (by kernel_rfl) (by simp) (AllReadyH.cons rfl (fun K hK => ?_) AllReadyH.nil)
         have KH5 := Lib.hid K5
         have h0 := hHeld
         clear hHeld
         try simp only [e1,e2,e3]
         have H0 := Lib.hid h0
         clear h0
         go_simp
         go_at_call 20
         refine (subD H_ce.out _).mono ?_
         rintro e vv ⟨rfl,hb⟩
         have KJ5 := Lib.hid (KH5.out.below hb KH5.out.lt)
         have h1 := H0.out.ext hb
         clear hb H0
         go_wp2_with (fail)
         refine hK.out _ _ h1 (fun hHeld => ?_)
         clear hK K h1
         try simp only [Act.put,e1,e2,e3,e4,e5,e6]
         have k5 := KJ5.out
         have z5 := Z5
         have hh := st1_5 g20 _ hHeld k5 z5
         rw [← hops,hfF] at hh
         exact wpAnyH_cast (by kernel_rfl) (by kernel_rfl) hh
       have st0_ : ∀ (W : World),Fn wh W [(g19,35,dv m),(g18,35,dv e),(g17,35,dv v),(g16,35,dv u),(g15,35,dv le),(g14,35,dv su),(g11,35,dv s2.d),(g10,35,dv s2.c),(g9,35,dv s2.b),(g8,35,dv s2.a),(g6,35,dv x),(g5,23,ks K)] → wpAnyH Tryd.prog .any ops Q (fun W => Fn wh W [(g19,35,dv m),(g18,35,dv e),(g17,35,dv v),(g16,35,dv u),(g15,35,dv le),(g14,35,dv su),(g11,35,dv s2.d),(g10,35,dv s2.c),(g9,35,dv s2.b),(g8,35,dv s2.a),(g6,35,dv x),(g5,23,ks K)]) 4 #[true,true,false,true,false,false,false] { tmps := fF (u79) (u81) (u20),defers := [] } W := by
        as_aux_lemma =>
         clear st1_5 st2_ st2_5
         intro W hHeld
         rw [← hops,hfF]
         refine wpAnyH_ready (rs := [2,5]) (by kernel_rfl) (by simp) (AllReadyH.cons rfl (fun K hK => ?_) (AllReadyH.cons rfl (fun K hK => ?_) AllReadyH.nil))
         ·
          have h0 := hHeld
          clear hHeld
          try simp only [e1,e2,e3]
          have H0 := Lib.hid h0
          clear h0
          go_simp
          go_at_call 20
          refine (subD H_ce.out _).mono ?_
          rintro e vv ⟨rfl,hb⟩
          have h1 := H0.out.ext hb
          clear hb H0
          go_wp2_with (fail)
          refine hK.out _ _ h1 (fun hHeld => ?_)
          clear hK K h1
          try simp only [Act.put,e1,e2,e3,e4,e5,e6]
          have hh := st1_ _ hHeld
          rw [← hops,hfF] at hh
          exact wpAnyH_cast (by kernel_rfl) (by kernel_rfl) hh
         ·
          have h0 := hHeld
          clear hHeld
          try simp only [e1,e2,e3]
          obtain ⟨kz,hg⟩ := frZ h0
          have KZ := Lib.hid kz
          have HG := Lib.hid hg
          have H0 := Lib.hid h0
          clear kz hg h0
          go_simp
          refine hK.out _ _ (Fn.pass H0.out _) (fun hHeld => ?_)
          clear hK K H0
          try simp only [Act.put,e1,e2,e3,e4,e5,e6]
          have k5 := KZ.out
          have z5 := HG.out
          have hh := st0_5 _ _ hHeld k5 z5
          rw [← hops,hfF] at hh
          exact wpAnyH_cast (by kernel_rfl) (by kernel_rfl) hh
       have hh := st0_ _ hHeld
       rw [hfF] at hh
       exact wpAnyH_cast (by kernel_rfl) (by kernel_rfl) hh
     obtain ⟨g20,rfl,y20,k20,hb⟩ := hcut
     have t20 : nb ≤ g20 := by omega
     have hf := (HF.out.ext hb).more k20
     have hcu2 : nb ≤ wc.heap.size := by have := hb.size; omega
     have HF4 := Lib.hid hf
     clear hf hb HF hcur k20 y20
     have HF := HF4
     clear HF4
     obtain ⟨wi,h_w⟩ : ∃ z : World,z = wc := ⟨_,rfl⟩
     rw [← h_w] at HF hcu2 ⊢
     clear h_w
     have hcur := hcu2
     clear hcu2
     have l16 := HF.out.get (g := g16) (t := 35) (cs := dv u) (by simp)
     have l17 := HF.out.get (g := g17) (t := 35) (cs := dv v) (by simp)
     go_wp2_with (first | (refine wpList_load_row rfl 35 (.tmp 16) rfl (g16) rfl 35 (dv u) (0,0) _ l16 Tryd.underlying35 rfl (info_dv _) ?_) | (refine wpList_load_row rfl 35 (.tmp 17) rfl (g17) rfl 35 (dv v) (0,0) _ l17 Tryd.underlying35 rfl (info_dv _) ?_))
     clear l16 l17
     refine (mulD H_za.out _).mono ?_
     rintro e0 vq ⟨rfl,hb⟩
     have hf := HF.out.ext hb
     have kz := hf.get (g := g8) (t := 35) (cs := dv s2.a) (by simp)
     have hf2 := ((hf.sub (L' := [(g20,35,dv kq),(g19,35,dv m),(g18,35,dv e),(g17,35,dv v),(g16,35,dv u),(g15,35,dv le),(g14,35,dv su),(g11,35,dv s2.d),(g10,35,dv s2.c),(g9,35,dv s2.b),(g6,35,dv x),(g5,23,ks K)]) (R' := [(w.heap.size + 1 + 1,23,32)]) (by simp) (by simp)).setOut (g := g8) (by omega) (by simp <;> omega) (by simp <;> omega) (dv za)).more (kz.setRow_same (dv za))
     have hcu2 : nb ≤ vq.heap.size := by have := hb.size; omega
     have KZ := Lib.hid kz
     have HF4 := Lib.hid hf2
     clear hb hf kz hf2 HF hcur
     go_wp2_with (first | (refine wpList_store_row rfl 35 (.tmp 8) (.tmp 84) rfl (g8) (dv za) rfl rfl 35 _ KZ.out (info_dv _) (by rw [dv_size,dv_size]) (dv_one _) ?_))
     obtain ⟨wj,h_w⟩ : ∃ z : World,z = vq.setRow g8 (dv za) := ⟨_,rfl⟩
     have hcur : nb ≤ wj.heap.size := by rw [h_w]; simp; omega
     rw [← h_w] at HF4 ⊢
     clear h_w KZ hcu2
     have HF := HF4
     clear HF4
     try simp only [Act.put,e1,e4,e5,e6]
     have kz := HF.out.get (g := g9) (t := 35) (cs := dv s2.b) (by simp)
     have KZ := Lib.hid kz.drew
     clear kz
     have hf1 := HF.out.sub (L' := [(g8,35,dv za),(g20,35,dv kq),(g19,35,dv m),(g18,35,dv e),(g17,35,dv v),(g16,35,dv u),(g15,35,dv le),(g14,35,dv su),(g11,35,dv s2.d),(g10,35,dv s2.c),(g6,35,dv x),(g5,23,ks K)]) (R' := [(w.heap.size + 1 + 1,23,32)]) (by simp) (by simp)
     have HF1 := Lib.hid hf1
     clear hf1 HF
     refine wp_region_held_drew (S := fun W => Fr w W [(g8,35,dv za),(g20,35,dv kq),(g19,35,dv m),(g18,35,dv e),(g17,35,dv v),(g16,35,dv u),(g15,35,dv le),(g14,35,dv su),(g11,35,dv s2.d),(g10,35,dv s2.c),(g6,35,dv x),(g5,23,ks K)] [(w.heap.size + 1 + 1,23,32)]) (by kernel_rfl) ?_ (fun hHeld => ?_)
     ·
      exact HF1.out.drew
     refine wpAnyH_take (i := 0) (v := .agg (dv e)) rfl (by kernel_rfl) (by kernel_rfl) (by kernel_rfl) (fun _ _ _ h => h) (yields_row (by rfl) 35 (.tmp 18) rfl (g18) rfl 35 (dv e) _ (fun W (h : Fr _ W _ _) => h.get (by simp)) Tryd.underlying35 rfl (info_dv _)) hHeld ?_
     try simp only [Act.put,e1,e2,e3,e4,e5,e6]
     refine wpAnyH_take (i := 1) (v := .agg (dv u)) rfl (by kernel_rfl) (by kernel_rfl) (by kernel_rfl) (fun _ _ _ h => h) (yields_row (by rfl) 35 (.tmp 16) rfl (g16) rfl 35 (dv u) _ (fun W (h : Fr _ W _ _) => h.get (by simp)) Tryd.underlying35 rfl (info_dv _)) hHeld ?_
     try simp only [Act.put,e1,e2,e3,e4,e5,e6]
     refine wpAnyH_take (i := 3) (v := .agg (dv e)) rfl (by kernel_rfl) (by kernel_rfl) (by kernel_rfl) (fun _ _ _ h => h) (yields_row (by rfl) 35 (.tmp 18) rfl (g18) rfl 35 (dv e) _ (fun W (h : Fr _ W _ _) => h.get (by simp)) Tryd.underlying35 rfl (info_dv _)) hHeld ?_
     try simp only [Act.put,e1,e2,e3,e4,e5,e6]
     refine wpAnyH_ready (rs := [2]) (by kernel_rfl) (by simp) (AllReadyH.cons rfl (fun K hK => ?_) AllReadyH.nil)
     have h0 := hHeld
     clear hHeld
     try simp only [e1,e2,e3]
     have H0 := Lib.hid h0
     clear h0
     go_simp
     go_at_call 16
     refine (smallD 121665 H_qq.out (by omega) _).mono ?_
     rintro e vv ⟨rfl,hb⟩
     have kz := KZ.out.below hb KZ.out.lt
     clear KZ
     have KZ := Lib.hid kz
     clear kz
     have h1 := H0.out.ext hb
     clear hb H0
     go_wp2_with (fail)
     refine hK.out _ _ h1 (fun hHeld => ?_)
     clear hK K h1
     try simp only [Act.put,e1,e2,e3,e4,e5,e6]
     refine wpAnyH_ready (rs := [4]) (by kernel_rfl) (by simp) (AllReadyH.cons rfl (fun K hK => ?_) AllReadyH.nil)
     have h0 := hHeld
     clear hHeld
     try simp only [e1,e2,e3]
     have H0 := Lib.hid h0
     clear h0
     go_simp
     go_at_call 21
     refine (mulD H_qe.out _).mono ?_
     rintro e vv ⟨rfl,hb⟩
     have kz := KZ.out.below hb KZ.out.lt
     clear KZ
     have KZ := Lib.hid kz
     clear kz
     have h1 := H0.out.ext hb
     clear hb H0
     go_wp2_with (fail)
     refine hK.out _ _ h1 (fun hHeld => ?_)
     clear hK K h1
     try simp only [Act.put,e1,e2,e3,e4,e5,e6]
     refine wpAnyH_ready (rs := [5]) (by kernel_rfl) (by simp) (AllReadyH.cons rfl (fun K hK => ?_) AllReadyH.nil)
     have h0 := hHeld
     clear hHeld
     try simp only [e1,e2,e3]
     have H0 := Lib.hid h0
     clear h0
     go_simp
     go_at_call 18
     refine (addE H_ue.out _).mono ?_
     rintro e vv ⟨rfl,hb⟩
     have kz := KZ.out.below hb KZ.out.lt
     clear KZ
     have KZ := Lib.hid kz
     clear kz
     have h1 := H0.out.ext hb
     clear hb H0
     go_wp2_with (fail)
     refine hK.out _ _ h1 (fun hHeld => ?_)
     clear hK K h1
     try simp only [Act.put,e1,e2,e3,e4,e5,e6]
     refine wpAnyH_ready (rs := [6]) (by kernel_rfl) (by simp) (AllReadyH.cons rfl (fun K hK => ?_) AllReadyH.nil)
     have h0 := hHeld
     clear hHeld
     try simp only [e1,e2,e3]
     have H0 := Lib.hid h0
     clear h0
     go_simp
     go_at_call 21
     refine (mulD H_zb.out _).mono ?_
     rintro e vv ⟨rfl,hb⟩
     have kz := KZ.out.below hb KZ.out.lt
     clear KZ
     have KZ := Lib.hid kz
     clear kz
     have h1 := H0.out.ext hb
     clear hb H0
     go_wp2_with (fail)
     refine hK.out _ _ h1 (fun hHeld => ?_)
     clear hK K h1
     try simp only [Act.put,e1,e2,e3,e4,e5,e6]
     refine wpAnyH_ready (rs := [7]) (by kernel_rfl) (by simp) (AllReadyH.cons rfl (fun K hK => ?_) AllReadyH.nil)
     have h0 := hHeld
     clear hHeld
     try simp only [e1,e2,e3]
     rw [if_pos (by rfl)]
     refine wp_store_row 35 (.tmp 9) (.tmp 91) rfl (g9) (dv zb) rfl rfl 35 _ KZ.out (info_dv _) (by rw [dv_size,dv_size]) (dv_one _) ?_
     refine hK.out _ _ (Fr.setOut h0 (g := g9) (by omega) (by simp <;> omega) (by simp <;> omega) _) (fun hHeld => ?_)
     have kb := KZ.out.setRow_same (dv zb)
     clear hK K h0
     try simp only [Act.put,e1,e2,e3,e4,e5,e6]
     refine wpAnyH_done (by kernel_rfl) ?_ _
     have hff := hHeld.more kb
     have HF := Lib.hid hff
     clear hHeld hff kb
     obtain ⟨wk,h_w⟩ : ∃ z : World,z = vv.setRow g9 (dv zb) := ⟨_,rfl⟩
     rw [← h_w] at HF ⊢
     clear h_w hcur
     have hcur : nb ≤ wk.heap.size := by have := (HF.out.get (g := g20) (t := 35) (cs := dv kq) (by simp)).lt; omega
     go_wp2_with (fail)
     go_cut [21,22] (fun s21 s22 wz => ∃ g21 g22 : Nat,s21 = .pointer (some ⟨g21,0,none⟩) ∧ s22 = .pointer (some ⟨g22,0,none⟩) ∧ wk.heap.size ≤ g21 ∧ wk.heap.size ≤ g22 ∧ Blk wz g21 35 (dv mk) ∧ Blk wz g22 35 (dv ml) ∧ Below wk.heap.size wk wz)
     case first =>
      as_aux_lemma =>
       have hn := (HF.out.now.sub (L' := [(g9,35,dv zb),(g8,35,dv za),(g20,35,dv kq),(g19,35,dv m),(g18,35,dv e),(g17,35,dv v),(g16,35,dv u),(g15,35,dv le),(g14,35,dv su),(g11,35,dv s2.d),(g10,35,dv s2.c),(g6,35,dv x),(g5,23,ks K)]) (by simp))
       have HN := Lib.hid hn
       clear hn
       refine wp_region_held_drew (S := fun W => Fn wk W [(g9,35,dv zb),(g8,35,dv za),(g20,35,dv kq),(g19,35,dv m),(g18,35,dv e),(g17,35,dv v),(g16,35,dv u),(g15,35,dv le),(g14,35,dv su),(g11,35,dv s2.d),(g10,35,dv s2.c),(g6,35,dv x),(g5,23,ks K)]) (by kernel_rfl) ?_ (fun hHeld => ?_)
       ·
        exact HN.out.drew
       refine wpAnyH_take (i := 0) (v := .agg (dv m)) rfl (by kernel_rfl) (by kernel_rfl) (by kernel_rfl) (fun _ _ _ h => h) (yields_row (by rfl) 35 (.tmp 19) rfl (g19) rfl 35 (dv m) _ (fun W (h : Fn _ W _) => h.get (by simp)) Tryd.underlying35 rfl (info_dv _)) hHeld ?_
       try simp only [Act.put,e1,e2,e3,e4,e5,e6]
       refine wpAnyH_take (i := 1) (v := .agg (dv kq)) rfl (by kernel_rfl) (by kernel_rfl) (by kernel_rfl) (fun _ _ _ h => h) (yields_row (by rfl) 35 (.tmp 20) rfl (g20) rfl 35 (dv kq) _ (fun W (h : Fn _ W _) => h.get (by simp)) Tryd.underlying35 rfl (info_dv _)) hHeld ?_
       try simp only [Act.put,e1,e2,e3,e4,e5,e6]
       refine wpAnyH_take (i := 3) (v := .agg (dv m)) rfl (by kernel_rfl) (by kernel_rfl) (by kernel_rfl) (fun _ _ _ h => h) (yields_row (by rfl) 35 (.tmp 19) rfl (g19) rfl 35 (dv m) _ (fun W (h : Fn _ W _) => h.get (by simp)) Tryd.underlying35 rfl (info_dv _)) hHeld ?_
       try simp only [Act.put,e1,e2,e3,e4,e5,e6]
       refine wpAnyH_take (i := 4) (v := .agg (dv kq)) rfl (by kernel_rfl) (by kernel_rfl) (by kernel_rfl) (fun _ _ _ h => h) (yields_row (by rfl) 35 (.tmp 20) rfl (g20) rfl 35 (dv kq) _ (fun W (h : Fn _ W _) => h.get (by simp)) Tryd.underlying35 rfl (info_dv _)) hHeld ?_
       try simp only [Act.put,e1,e2,e3,e4,e5,e6]
       refine wpAnyH_name ?_
       intro ops Q hops hQ
       obtain ⟨fF,hfF⟩ : ∃ f : Value → Value → Value → Value → Array Value,∀ p0 p1 p2 p3,f p0 p1 p2 p3 = #[.agg (ks k),.agg (ks n),.pointer (some ⟨w.heap.size,0,none⟩),.pointer (some ⟨w.heap.size + 1,0,none⟩),.pointer (some ⟨w.heap.size + 1 + 1,0,none⟩),.pointer (some ⟨g5,0,none⟩),.pointer (some ⟨g6,0,none⟩),.pointer (some ⟨g7,0,none⟩),.pointer (some ⟨g8,0,none⟩),.pointer (some ⟨g9,0,none⟩),.pointer (some ⟨g10,0,none⟩),.pointer (some ⟨g11,0,none⟩),.int .i64 (i : Int),.bool t,.pointer (some ⟨g14,0,none⟩),.pointer (some ⟨g15,0,none⟩),.pointer (some ⟨g16,0,none⟩),.pointer (some ⟨g17,0,none⟩),.pointer (some ⟨g18,0,none⟩),.pointer (some ⟨g19,0,none⟩),.pointer (some ⟨g20,0,none⟩),p2,p3,u23,u24,u25,u26,u27,u28,u29,u30,u31,u32,u33,u34,u35,u36,u37,u38,u39,u40,u41,u42,u43,u44,u45,u46,u47,u48,u49,u50,u51,u52,u53,u54,u55,u56,u57,u58,u59,u60,u61,u62,u63,u64,u65,u66,u67,u68,u69,u70,u71,u72,u73,u74,u75,u76,u77,u78,u79,u80,u81,.agg (dv u),.agg (dv v),.agg (dv za),.agg (dv e),.agg (dv u),.agg (dv qq),.agg (dv e),.agg (dv qe),.agg (dv ue),.agg (dv zb),.agg (dv m),.agg (dv kq),p0,.agg (dv m),.agg (dv kq),p1,u98,u99,u100,u101,u102,u103,u104,u105,u106,u107,u108,u109,u110,u111,u112,u113,u114,u115] := ⟨_,fun _ _ _ _ => rfl⟩
       have st2_67 : ∀ (g21 g22 : Nat) (W : World),Fn wk W [(g9,35,dv zb),(g8,35,dv za),(g20,35,dv kq),(g19,35,dv m),(g18,35,dv e),(g17,35,dv v),(g16,35,dv u),(g15,35,dv le),(g14,35,dv su),(g11,35,dv s2.d),(g10,35,dv s2.c),(g6,35,dv x),(g5,23,ks K)] → Blk W g21 35 #[.int .u64 0,.int .u64 0,.int .u64 0,.int .u64 0,.int .u64 0,.int .u64 0,.int .u64 0,.int .u64 0,.int .u64 0,.int .u64 0,.int .u64 0,.int .u64 0,.int .u64 0,.int .u64 0,.int .u64 0,.int .u64 0] → wk.heap.size ≤ g21 → Blk W g22 35 #[.int .u64 0,.int .u64 0,.int .u64 0,.int .u64 0,.int .u64 0,.int .u64 0,.int .u64 0,.int .u64 0,.int .u64 0,.int .u64 0,.int .u64 0,.int .u64 0,.int .u64 0,.int .u64 0,.int .u64 0,.int .u64 0] → wk.heap.size ≤ g22 → g21 ≠ g22 → wpAnyH Tryd.prog .any ops Q (fun W => Fn wk W [(g9,35,dv zb),(g8,35,dv za),(g20,35,dv kq),(g19,35,dv m),(g18,35,dv e),(g17,35,dv v),(g16,35,dv u),(g15,35,dv le),(g14,35,dv su),(g11,35,dv s2.d),(g10,35,dv s2.c),(g6,35,dv x),(g5,23,ks K)]) 2 #[true,true,true,true,true,true,true,true,false,false] { tmps := fF (.agg (dv mk)) (.agg (dv ml)) (.pointer (some ⟨g21,0,none⟩)) (.pointer (some ⟨g22,0,none⟩)),defers := [] } W := by
        as_aux_lemma =>
         intro g21 g22 W hHeld K6 Z6 K7 Z7 n6_7
         rw [← hops,hfF]
         rw [← hQ]
         have KK6 := Lib.hid K6
         clear K6
         have KK7 := Lib.hid K7
         clear K7
         refine wpAnyH_ready (rs := [8]) (by kernel_rfl) (by simp) (AllReadyH.cons rfl (fun K hK => ?_) AllReadyH.nil)
         have h0 := hHeld
         clear hHeld
         try simp only [e1,e2,e3]
         rw [if_pos (by rfl)]
         refine wp_store_row 35 (.tmp 21) (.tmp 94) rfl g21 (dv mk) rfl rfl 35 _ KK6.out (info_dv _) (by rw [dv_size]; rfl) (dv_one _) ?_
         refine hK.out _ _ (Fn.setFresh h0 Z6 _) (fun hHeld => ?_)
         have J6 := Lib.hid (KK6.out.setRow_same (dv mk))
         clear KK6
         have KK6 := J6
         clear J6
         have J7 := Lib.hid (KK7.out.setRow_other (Ne.symm n6_7) (dv mk))
         clear KK7
         have KK7 := J7
         clear J7
         clear hK K h0
         try simp only [Act.put,e1,e2,e3,e4,e5,e6]
         refine wpAnyH_ready (rs := [9]) (by kernel_rfl) (by simp) (AllReadyH.cons rfl (fun K hK => ?_) AllReadyH.nil)
         have h0 := hHeld
         clear hHeld
         try simp only [e1,e2,e3]
         rw [if_pos (by rfl)]
         refine wp_store_row 35 (.tmp 22) (.tmp 97) rfl g22 (dv ml) rfl rfl 35 _ KK7.out (info_dv _) (by rw [dv_size]; rfl) (dv_one _) ?_
         refine hK.out _ _ (Fn.setFresh h0 Z7 _) (fun hHeld => ?_)
         have J7 := Lib.hid (KK7.out.setRow_same (dv ml))
         clear KK7
         have KK7 := J7
         clear J7
         have J6 := Lib.hid (KK6.out.setRow_other n6_7 (dv ml))
         clear KK6
         have KK6 := J6
         clear J6
         clear hK K h0
         try simp only [Act.put,e1,e2,e3,e4,e5,e6]
         refine wpAnyH_done (by kernel_rfl) ?_ _
         have HB := Lib.hid hHeld.below
         clear hHeld
         go_wp2_with (fail)
         go_meet
         exact ⟨g21,g22,rfl,rfl,Z6,Z7,KK6.out,KK7.out,HB.out⟩
       have st2_6 : ∀ (g21 : Nat) (W : World),Fn wk W [(g9,35,dv zb),(g8,35,dv za),(g20,35,dv kq),(g19,35,dv m),(g18,35,dv e),(g17,35,dv v),(g16,35,dv u),(g15,35,dv le),(g14,35,dv su),(g11,35,dv s2.d),(g10,35,dv s2.c),(g6,35,dv x),(g5,23,ks K)] → Blk W g21 35 #[.int .u64 0,.int .u64 0,.int .u64 0,.int .u64 0,.int .u64 0,.int .u64 0,.int .u64 0,.int .u64 0,.int .u64 0,.int .u64 0,.int .u64 0,.int .u64 0,.int .u64 0,.int .u64 0,.int .u64 0,.int .u64 0] → wk.heap.size ≤ g21 → wpAnyH Tryd.prog .any ops Q (fun W => Fn wk W [(g9,35,dv zb),(g8,35,dv za),(g20,35,dv kq),(g19,35,dv m),(g18,35,dv e),(g17,35,dv v),(g16,35,dv u),(g15,35,dv le),(g14,35,dv su),(g11,35,dv s2.d),(g10,35,dv s2.c),(g6,35,dv x),(g5,23,ks K)]) 3 #[true,true,true,true,true,true,true,false,false,false] { tmps := fF (.agg (dv mk)) (.agg (dv ml)) (.pointer (some ⟨g21,0,none⟩)) (u22),defers := [] } W := by
        as_aux_lemma =>
         intro g21 W hHeld K6 Z6
         rw [← hops,hfF]
         refine wpAnyH_ready (rs := [7]) (by kernel_rfl) (by simp) (AllReadyH.cons rfl (fun K hK => ?_) AllReadyH.nil)
         have h0 := hHeld
         clear hHeld
         try simp only [e1,e2,e3]
         obtain ⟨kz,hg⟩ := frZ h0
         have KZ := Lib.hid kz
         have HG := Lib.hid hg
         have H0 := Lib.hid h0
         clear kz hg h0
         have KH6 := Lib.hid K6
         go_simp
         refine hK.out _ _ (Fn.pass H0.out _) (fun hHeld => ?_)
         clear hK K H0
         try simp only [Act.put,e1,e2,e3,e4,e5,e6]
         have k6 := alZ KH6.out
         have z6 := Z6
         have k7 := KZ.out
         have z7 := HG.out
         have hh := st2_67 g21 _ _ hHeld k6 z6 k7 z7 (Nat.ne_of_lt K6.lt)
         rw [← hops,hfF] at hh
         exact wpAnyH_cast (by kernel_rfl) (by kernel_rfl) hh
       have st2_7 : ∀ (g22 : Nat) (W : World),Fn wk W [(g9,35,dv zb),(g8,35,dv za),(g20,35,dv kq),(g19,35,dv m),(g18,35,dv e),(g17,35,dv v),(g16,35,dv u),(g15,35,dv le),(g14,35,dv su),(g11,35,dv s2.d),(g10,35,dv s2.c),(g6,35,dv x),(g5,23,ks K)] → Blk W g22 35 #[.int .u64 0,.int .u64 0,.int .u64 0,.int .u64 0,.int .u64 0,.int .u64 0,.int .u64 0,.int .u64 0,.int .u64 0,.int .u64 0,.int .u64 0,.int .u64 0,.int .u64 0,.int .u64 0,.int .u64 0,.int .u64 0] → wk.heap.size ≤ g22 → wpAnyH Tryd.prog .any ops Q (fun W => Fn wk W [(g9,35,dv zb),(g8,35,dv za),(g20,35,dv kq),(g19,35,dv m),(g18,35,dv e),(g17,35,dv v),(g16,35,dv u),(g15,35,dv le),(g14,35,dv su),(g11,35,dv s2.d),(g10,35,dv s2.c),(g6,35,dv x),(g5,23,ks K)]) 3 #[true,true,true,true,true,true,false,true,false,false] { tmps := fF (.agg (dv mk)) (.agg (dv ml)) (u21) (.pointer (some ⟨g22,0,none⟩)),defers := [] } W := by
        as_aux_lemma =>
         clear st2_6
         intro g22 W hHeld K7 Z7
         rw [← hops,hfF]
         refine wpAnyH_ready (rs := [6]) (by kernel_rfl) (by simp) (AllReadyH.cons rfl (fun K hK => ?_) AllReadyH.nil)
         have h0 := hHeld
         clear hHeld
         try simp only [e1,e2,e3]
         obtain ⟨kz,hg⟩ := frZ h0
         have KZ := Lib.hid kz
         have HG := Lib.hid hg
         have H0 := Lib.hid h0
         clear kz hg h0
         have KH7 := Lib.hid K7
         go_simp
         refine hK.out _ _ (Fn.pass H0.out _) (fun hHeld => ?_)
         clear hK K H0
         try simp only [Act.put,e1,e2,e3,e4,e5,e6]
         have k7 := alZ KH7.out
         have z7 := Z7
         have k6 := KZ.out
         have z6 := HG.out
         have hh := st2_67 _ g22 _ hHeld k6 z6 k7 z7 (Ne.symm (Nat.ne_of_lt K7.lt))
         rw [← hops,hfF] at hh
         exact wpAnyH_cast (by kernel_rfl) (by kernel_rfl) hh
       have st1_67 : ∀ (g21 g22 : Nat) (W : World),Fn wk W [(g9,35,dv zb),(g8,35,dv za),(g20,35,dv kq),(g19,35,dv m),(g18,35,dv e),(g17,35,dv v),(g16,35,dv u),(g15,35,dv le),(g14,35,dv su),(g11,35,dv s2.d),(g10,35,dv s2.c),(g6,35,dv x),(g5,23,ks K)] → Blk W g21 35 #[.int .u64 0,.int .u64 0,.int .u64 0,.int .u64 0,.int .u64 0,.int .u64 0,.int .u64 0,.int .u64 0,.int .u64 0,.int .u64 0,.int .u64 0,.int .u64 0,.int .u64 0,.int .u64 0,.int .u64 0,.int .u64 0] → wk.heap.size ≤ g21 → Blk W g22 35 #[.int .u64 0,.int .u64 0,.int .u64 0,.int .u64 0,.int .u64 0,.int .u64 0,.int .u64 0,.int .u64 0,.int .u64 0,.int .u64 0,.int .u64 0,.int .u64 0,.int .u64 0,.int .u64 0,.int .u64 0,.int .u64 0] → wk.heap.size ≤ g22 → g21 ≠ g22 → wpAnyH Tryd.prog .any ops Q (fun W => Fn wk W [(g9,35,dv zb),(g8,35,dv za),(g20,35,dv kq),(g19,35,dv m),(g18,35,dv e),(g17,35,dv v),(g16,35,dv u),(g15,35,dv le),(g14,35,dv su),(g11,35,dv s2.d),(g10,35,dv s2.c),(g6,35,dv x),(g5,23,ks K)]) 3 #[true,true,true,true,true,false,true,true,false,false] { tmps := fF (.agg (dv mk)) (u97) (.pointer (some ⟨g21,0,none⟩)) (.pointer (some ⟨g22,0,none⟩)),defers := [] } W := by
        as_aux_lemma =>
         clear st2_7 st2_6
         intro g21 g22 W hHeld K6 Z6 K7 Z7 n6_7
         rw [← hops,hfF]
         refine wpAnyH_ready (rs := [5]) (by kernel_rfl) (by simp) (AllReadyH.cons rfl (fun K hK => ?_) AllReadyH.nil)
         have KH6 := Lib.hid K6
         have KH7 := Lib.hid K7
         have h0 := hHeld
         clear hHeld
         try simp only [e1,e2,e3]
         have H0 := Lib.hid h0
         clear h0
         go_simp
         go_at_call 20
         refine (subD H_ml.out _).mono ?_
         rintro e vv ⟨rfl,hb⟩
         have KJ6 := Lib.hid (KH6.out.below hb KH6.out.lt)
         have KJ7 := Lib.hid (KH7.out.below hb KH7.out.lt)
         have h1 := H0.out.ext hb
         clear hb H0
         go_wp2_with (fail)
         refine hK.out _ _ h1 (fun hHeld => ?_)
         clear hK K h1
         try simp only [Act.put,e1,e2,e3,e4,e5,e6]
         have k6 := KJ6.out
         have k7 := KJ7.out
         have z6 := Z6
         have z7 := Z7
         have hh := st2_67 g21 g22 _ hHeld k6 z6 k7 z7 n6_7
         rw [← hops,hfF] at hh
         exact wpAnyH_cast (by kernel_rfl) (by kernel_rfl) hh
       have st2_ : ∀ (W : World),Fn wk W [(g9,35,dv zb),(g8,35,dv za),(g20,35,dv kq),(g19,35,dv m),(g18,35,dv e),(g17,35,dv v),(g16,35,dv u),(g15,35,dv le),(g14,35,dv su),(g11,35,dv s2.d),(g10,35,dv s2.c),(g6,35,dv x),(g5,23,ks K)] → wpAnyH Tryd.prog .any ops Q (fun W => Fn wk W [(g9,35,dv zb),(g8,35,dv za),(g20,35,dv kq),(g19,35,dv m),(g18,35,dv e),(g17,35,dv v),(g16,35,dv u),(g15,35,dv le),(g14,35,dv su),(g11,35,dv s2.d),(g10,35,dv s2.c),(g6,35,dv x),(g5,23,ks K)]) 4 #[true,true,true,true,true,true,false,false,false,false] { tmps := fF (.agg (dv mk)) (.agg (dv ml)) (u21) (u22),defers := [] } W := by
        as_aux_lemma =>
         clear st1_67 st2_67
         intro W hHeld
         rw [← hops,hfF]
         refine wpAnyH_ready (rs := [6,7]) (by kernel_rfl) (by simp) (AllReadyH.cons rfl (fun K hK => ?_) (AllReadyH.cons rfl (fun K hK => ?_) AllReadyH.nil))
         ·
          have h0 := hHeld
          clear hHeld
          try simp only [e1,e2,e3]
          obtain ⟨kz,hg⟩ := frZ h0
          have KZ := Lib.hid kz
          have HG := Lib.hid hg
          have H0 := Lib.hid h0
          clear kz hg h0
          go_simp
          refine hK.out _ _ (Fn.pass H0.out _) (fun hHeld => ?_)
          clear hK K H0
          try simp only [Act.put,e1,e2,e3,e4,e5,e6]
          have k6 := KZ.out
          have z6 := HG.out
          have hh := st2_6 _ _ hHeld k6 z6
          rw [← hops,hfF] at hh
          exact wpAnyH_cast (by kernel_rfl) (by kernel_rfl) hh
         ·
          have h0 := hHeld
          clear hHeld
          try simp only [e1,e2,e3]
          obtain ⟨kz,hg⟩ := frZ h0
          have KZ := Lib.hid kz
          have HG := Lib.hid hg
          have H0 := Lib.hid h0
          clear kz hg h0
          go_simp
          refine hK.out _ _ (Fn.pass H0.out _) (fun hHeld => ?_)
          clear hK K H0
          try simp only [Act.put,e1,e2,e3,e4,e5,e6]
          have k7 := KZ.out
          have z7 := HG.out
          have hh := st2_7 _ _ hHeld k7 z7
          rw [← hops,hfF] at hh
          exact wpAnyH_cast (by kernel_rfl) (by kernel_rfl) hh
       have st1_6 : ∀ (g21 : Nat) (W : World),Fn wk W [(g9,35,dv zb),(g8,35,dv za),(g20,35,dv kq),(g19,35,dv m),(g18,35,dv e),(g17,35,dv v),(g16,35,dv u),(g15,35,dv le),(g14,35,dv su),(g11,35,dv s2.d),(g10,35,dv s2.c),(g6,35,dv x),(g5,23,ks K)] → Blk W g21 35 #[.int .u64 0,.int .u64 0,.int .u64 0,.int .u64 0,.int .u64 0,.int .u64 0,.int .u64 0,.int .u64 0,.int .u64 0,.int .u64 0,.int .u64 0,.int .u64 0,.int .u64 0,.int .u64 0,.int .u64 0,.int .u64 0] → wk.heap.size ≤ g21 → wpAnyH Tryd.prog .any ops Q (fun W => Fn wk W [(g9,35,dv zb),(g8,35,dv za),(g20,35,dv kq),(g19,35,dv m),(g18,35,dv e),(g17,35,dv v),(g16,35,dv u),(g15,35,dv le),(g14,35,dv su),(g11,35,dv s2.d),(g10,35,dv s2.c),(g6,35,dv x),(g5,23,ks K)]) 4 #[true,true,true,true,true,false,true,false,false,false] { tmps := fF (.agg (dv mk)) (u97) (.pointer (some ⟨g21,0,none⟩)) (u22),defers := [] } W := by
        as_aux_lemma =>
         clear st2_ st2_7 st2_67
         intro g21 W hHeld K6 Z6
         rw [← hops,hfF]
         refine wpAnyH_ready (rs := [5,7]) (by kernel_rfl) (by simp) (AllReadyH.cons rfl (fun K hK => ?_) (AllReadyH.cons rfl (fun K hK => ?_) AllReadyH.nil))
         ·
          have KH6 := Lib.hid K6
          have h0 := hHeld
          clear hHeld
          try simp only [e1,e2,e3]
          have H0 := Lib.hid h0
          clear h0
          go_simp
          go_at_call 20
          refine (subD H_ml.out _).mono ?_
          rintro e vv ⟨rfl,hb⟩
          have KJ6 := Lib.hid (KH6.out.below hb KH6.out.lt)
          have h1 := H0.out.ext hb
          clear hb H0
          go_wp2_with (fail)
          refine hK.out _ _ h1 (fun hHeld => ?_)
          clear hK K h1
          try simp only [Act.put,e1,e2,e3,e4,e5,e6]
          have k6 := KJ6.out
          have z6 := Z6
          have hh := st2_6 g21 _ hHeld k6 z6
          rw [← hops,hfF] at hh
          exact wpAnyH_cast (by kernel_rfl) (by kernel_rfl) hh
         ·
          have h0 := hHeld
          clear hHeld
          try simp only [e1,e2,e3]
          obtain ⟨kz,hg⟩ := frZ h0
          have KZ := Lib.hid kz
          have HG := Lib.hid hg
          have H0 := Lib.hid h0
          clear kz hg h0
          have KH6 := Lib.hid K6
          go_simp
          refine hK.out _ _ (Fn.pass H0.out _) (fun hHeld => ?_)
          clear hK K H0
          try simp only [Act.put,e1,e2,e3,e4,e5,e6]
          have k6 := alZ KH6.out
          have z6 := Z6
          have k7 := KZ.out
          have z7 := HG.out
          have hh := st1_67 g21 _ _ hHeld k6 z6 k7 z7 (Nat.ne_of_lt K6.lt)
          rw [← hops,hfF] at hh
          exact wpAnyH_cast (by kernel_rfl) (by kernel_rfl) hh
       have st1_7 : ∀ (g22 : Nat) (W : World),Fn wk W [(g9,35,dv zb),(g8,35,dv za),(g20,35,dv kq),(g19,35,dv m),(g18,35,dv e),(g17,35,dv v),(g16,35,dv u),(g15,35,dv le),(g14,35,dv su),(g11,35,dv s2.d),(g10,35,dv s2.c),(g6,35,dv x),(g5,23,ks K)] → Blk W g22 35 #[.int .u64 0,.int .u64 0,.int .u64 0,.int .u64 0,.int .u64 0,.int .u64 0,.int .u64 0,.int .u64 0,.int .u64 0,.int .u64 0,.int .u64 0,.int .u64 0,.int .u64 0,.int .u64 0,.int .u64 0,.int .u64 0] → wk.heap.size ≤ g22 → wpAnyH Tryd.prog .any ops Q (fun W => Fn wk W [(g9,35,dv zb),(g8,35,dv za),(g20,35,dv kq),(g19,35,dv m),(g18,35,dv e),(g17,35,dv v),(g16,35,dv u),(g15,35,dv le),(g14,35,dv su),(g11,35,dv s2.d),(g10,35,dv s2.c),(g6,35,dv x),(g5,23,ks K)]) 4 #[true,true,true,true,true,false,false,true,false,false] { tmps := fF (.agg (dv mk)) (u97) (u21) (.pointer (some ⟨g22,0,none⟩)),defers := [] } W := by
        as_aux_lemma =>
         clear st1_6 st2_ st2_6 st2_67
         intro g22 W hHeld K7 Z7
         rw [← hops,hfF]
         refine wpAnyH_ready (rs := [5,6]) (by kernel_rfl) (by simp) (AllReadyH.cons rfl (fun K hK => ?_) (AllReadyH.cons rfl (fun K hK => ?_) AllReadyH.nil))
         ·
          have KH7 := Lib.hid K7
          have h0 := hHeld
          clear hHeld
          try simp only [e1,e2,e3]
          have H0 := Lib.hid h0
          clear h0
          go_simp
          go_at_call 20
          refine (subD H_ml.out _).mono ?_
          rintro e vv ⟨rfl,hb⟩
          have KJ7 := Lib.hid (KH7.out.below hb KH7.out.lt)
          have h1 := H0.out.ext hb
          clear hb H0
          go_wp2_with (fail)
          refine hK.out _ _ h1 (fun hHeld => ?_)
          clear hK K h1
          try simp only [Act.put,e1,e2,e3,e4,e5,e6]
          have k7 := KJ7.out
          have z7 := Z7
          have hh := st2_7 g22 _ hHeld k7 z7
          rw [← hops,hfF] at hh
          exact wpAnyH_cast (by kernel_rfl) (by kernel_rfl) hh
         ·
          have h0 := hHeld
          clear hHeld
          try simp only [e1,e2,e3]
          obtain ⟨kz,hg⟩ := frZ h0
          have KZ := Lib.hid kz
          have HG := Lib.hid hg
          have H0 := Lib.hid h0
          clear kz hg h0
          have KH7 := Lib.hid K7
          go_simp
          refine hK.out _ _ (Fn.pass H0.out _) (fun hHeld => ?_)
          clear hK K H0
          try simp only [Act.put,e1,e2,e3,e4,e5,e6]
          have k7 := alZ KH7.out
          have z7 := Z7
          have k6 := KZ.out
          have z6 := HG.out
          have hh := st1_67 _ g22 _ hHeld k6 z6 k7 z7 (Ne.symm (Nat.ne_of_lt K7.lt))
          rw [← hops,hfF] at hh
          exact wpAnyH_cast (by kernel_rfl) (by kernel_rfl) hh
       have st0_67 : ∀ (g21 g22 : Nat) (W : World),Fn wk W [(g9,35,dv zb),(g8,35,dv za),(g20,35,dv kq),(g19,35,dv m),(g18,35,dv e),(g17,35,dv v),(g16,35,dv u),(g15,35,dv le),(g14,35,dv su),(g11,35,dv s2.d),(g10,35,dv s2.c),(g6,35,dv x),(g5,23,ks K)] → Blk W g21 35 #[.int .u64 0,.int .u64 0,.int .u64 0,.int .u64 0,.int .u64 0,.int .u64 0,.int .u64 0,.int .u64 0,.int .u64 0,.int .u64 0,.int .u64 0,.int .u64 0,.int .u64 0,.int .u64 0,.int .u64 0,.int .u64 0] → wk.heap.size ≤ g21 → Blk W g22 35 #[.int .u64 0,.int .u64 0,.int .u64 0,.int .u64 0,.int .u64 0,.int .u64 0,.int .u64 0,.int .u64 0,.int .u64 0,.int .u64 0,.int .u64 0,.int .u64 0,.int .u64 0,.int .u64 0,.int .u64 0,.int .u64 0] → wk.heap.size ≤ g22 → g21 ≠ g22 → wpAnyH Tryd.prog .any ops Q (fun W => Fn wk W [(g9,35,dv zb),(g8,35,dv za),(g20,35,dv kq),(g19,35,dv m),(g18,35,dv e),(g17,35,dv v),(g16,35,dv u),(g15,35,dv le),(g14,35,dv su),(g11,35,dv s2.d),(g10,35,dv s2.c),(g6,35,dv x),(g5,23,ks K)]) 4 #[true,true,false,true,true,false,true,true,false,false] { tmps := fF (u94) (u97) (.pointer (some ⟨g21,0,none⟩)) (.pointer (some ⟨g22,0,none⟩)),defers := [] } W := by
        as_aux_lemma =>
         clear st1_7 st1_6 st2_ st2_7 st2_6 st2_67
         intro g21 g22 W hHeld K6 Z6 K7 Z7 n6_7
         rw [← hops,hfF]
         refine wpAnyH_ready (rs := [2]) (by kernel_rfl) (by simp) (AllReadyH.cons rfl (fun K hK => ?_) AllReadyH.nil)
         have KH6 := Lib.hid K6
         have KH7 := Lib.hid K7
         have h0 := hHeld
         clear hHeld
         try simp only [e1,e2,e3]
         have H0 := Lib.hid h0
         clear h0
         go_simp
         go_at_call 18
         refine (addE H_mk.out _).mono ?_
         rintro e vv ⟨rfl,hb⟩
         have KJ6 := Lib.hid (KH6.out.below hb KH6.out.lt)
         have KJ7 := Lib.hid (KH7.out.below hb KH7.out.lt)
         have h1 := H0.out.ext hb
         clear hb H0
         go_wp2_with (fail)
         refine hK.out _ _ h1 (fun hHeld => ?_)
         clear hK K h1
         try simp only [Act.put,e1,e2,e3,e4,e5,e6]
         have k6 := KJ6.out
         have k7 := KJ7.out
         have z6 := Z6
         have z7 := Z7
         have hh := st1_67 g21 g22 _ hHeld k6 z6 k7 z7 n6_7
         rw [← hops,hfF] at hh
         exact wpAnyH_cast (by kernel_rfl) (by kernel_rfl) hh
       have st1_ : ∀ (W : World),Fn wk W [(g9,35,dv zb),(g8,35,dv za),(g20,35,dv kq),(g19,35,dv m),(g18,35,dv e),(g17,35,dv v),(g16,35,dv u),(g15,35,dv le),(g14,35,dv su),(g11,35,dv s2.d),(g10,35,dv s2.c),(g6,35,dv x),(g5,23,ks K)] → wpAnyH Tryd.prog .any ops Q (fun W => Fn wk W [(g9,35,dv zb),(g8,35,dv za),(g20,35,dv kq),(g19,35,dv m),(g18,35,dv e),(g17,35,dv v),(g16,35,dv u),(g15,35,dv le),(g14,35,dv su),(g11,35,dv s2.d),(g10,35,dv s2.c),(g6,35,dv x),(g5,23,ks K)]) 5 #[true,true,true,true,true,false,false,false,false,false] { tmps := fF (.agg (dv mk)) (u97) (u21) (u22),defers := [] } W := by
        as_aux_lemma =>
         clear st0_67 st1_67 st2_7 st2_6 st2_67
         intro W hHeld
         rw [← hops,hfF]
         refine wpAnyH_ready (rs := [5,6,7]) (by kernel_rfl) (by simp) (AllReadyH.cons rfl (fun K hK => ?_) (AllReadyH.cons rfl (fun K hK => ?_) (AllReadyH.cons rfl (fun K hK => ?_) AllReadyH.nil)))
         ·
          have h0 := hHeld
          clear hHeld
          try simp only [e1,e2,e3]
          have H0 := Lib.hid h0
          clear h0
          go_simp
          go_at_call 20
          refine (subD H_ml.out _).mono ?_
          rintro e vv ⟨rfl,hb⟩
          have h1 := H0.out.ext hb
          clear hb H0
          go_wp2_with (fail)
          refine hK.out _ _ h1 (fun hHeld => ?_)
          clear hK K h1
          try simp only [Act.put,e1,e2,e3,e4,e5,e6]
          have hh := st2_ _ hHeld
          rw [← hops,hfF] at hh
          exact wpAnyH_cast (by kernel_rfl) (by kernel_rfl) hh
         ·
          have h0 := hHeld
          clear hHeld
          try simp only [e1,e2,e3]
          obtain ⟨kz,hg⟩ := frZ h0
          have KZ := Lib.hid kz
          have HG := Lib.hid hg
          have H0 := Lib.hid h0
          clear kz hg h0
          go_simp
          refine hK.out _ _ (Fn.pass H0.out _) (fun hHeld => ?_)
          clear hK K H0
          try simp only [Act.put,e1,e2,e3,e4,e5,e6]
          have k6 := KZ.out
          have z6 := HG.out
          have hh := st1_6 _ _ hHeld k6 z6
          rw [← hops,hfF] at hh
          exact wpAnyH_cast (by kernel_rfl) (by kernel_rfl) hh
         ·
          have h0 := hHeld
          clear hHeld
          try simp only [e1,e2,e3]
          obtain ⟨kz,hg⟩ := frZ h0
          have KZ := Lib.hid kz
          have HG := Lib.hid hg
          have H0 := Lib.hid h0
          clear kz hg h0
          go_simp
          refine hK.out _ _ (Fn.pass H0.out _) (fun hHeld => ?_)
          clear hK K H0
          try simp only [Act.put,e1,e2,e3,e4,e5,e6]
          have k7 := KZ.out
          have z7 := HG.out
          have hh := st1_7 _ _ hHeld k7 z7
          rw [← hops,hfF] at hh
          exact wpAnyH_cast (by kernel_rfl) (by kernel_rfl) hh
       have st0_6 : ∀ (g21 : Nat) (W : World),Fn wk W [(g9,35,dv zb),(g8,35,dv za),(g20,35,dv kq),(g19,35,dv m),(g18,35,dv e),(g17,35,dv v),(g16,35,dv u),(g15,35,dv le),(g14,35,dv su),(g11,35,dv s2.d),(g10,35,dv s2.c),(g6,35,dv x),(g5,23,ks K)] → Blk W g21 35 #[.int .u64 0,.int .u64 0,.int .u64 0,.int .u64 0,.int .u64 0,.int .u64 0,.int .u64 0,.int .u64 0,.int .u64 0,.int .u64 0,.int .u64 0,.int .u64 0,.int .u64 0,.int .u64 0,.int .u64 0,.int .u64 0] → wk.heap.size ≤ g21 → wpAnyH Tryd.prog .any ops Q (fun W => Fn wk W [(g9,35,dv zb),(g8,35,dv za),(g20,35,dv kq),(g19,35,dv m),(g18,35,dv e),(g17,35,dv v),(g16,35,dv u),(g15,35,dv le),(g14,35,dv su),(g11,35,dv s2.d),(g10,35,dv s2.c),(g6,35,dv x),(g5,23,ks K)]) 5 #[true,true,false,true,true,false,true,false,false,false] { tmps := fF (u94) (u97) (.pointer (some ⟨g21,0,none⟩)) (u22),defers := [] } W := by
        as_aux_lemma =>
         clear st1_ st1_7 st2_ st1_67 st2_7 st2_6 st2_67
         intro g21 W hHeld K6 Z6
         rw [← hops,hfF]
         refine wpAnyH_ready (rs := [2,7]) (by kernel_rfl) (by simp) (AllReadyH.cons rfl (fun K hK => ?_) (AllReadyH.cons rfl (fun K hK => ?_) AllReadyH.nil))
         ·
          have KH6 := Lib.hid K6
          have h0 := hHeld
          clear hHeld
          try simp only [e1,e2,e3]
          have H0 := Lib.hid h0
          clear h0
          go_simp
          go_at_call 18
          refine (addE H_mk.out _).mono ?_
          rintro e vv ⟨rfl,hb⟩
          have KJ6 := Lib.hid (KH6.out.below hb KH6.out.lt)
          have h1 := H0.out.ext hb
          clear hb H0
          go_wp2_with (fail)
          refine hK.out _ _ h1 (fun hHeld => ?_)
          clear hK K h1
          try simp only [Act.put,e1,e2,e3,e4,e5,e6]
          have k6 := KJ6.out
          have z6 := Z6
          have hh := st1_6 g21 _ hHeld k6 z6
          rw [← hops,hfF] at hh
          exact wpAnyH_cast (by kernel_rfl) (by kernel_rfl) hh
         ·
          have h0 := hHeld
          clear hHeld
          try simp only [e1,e2,e3]
          obtain ⟨kz,hg⟩ := frZ h0
          have KZ := Lib.hid kz
          have HG := Lib.hid hg
          have H0 := Lib.hid h0
          clear kz hg h0
          have KH6 := Lib.hid K6
          go_simp
          refine hK.out _ _ (Fn.pass H0.out _) (fun hHeld => ?_)
          clear hK K H0
          try simp only [Act.put,e1,e2,e3,e4,e5,e6]
          have k6 := alZ KH6.out
          have z6 := Z6
          have k7 := KZ.out
          have z7 := HG.out
          have hh := st0_67 g21 _ _ hHeld k6 z6 k7 z7 (Nat.ne_of_lt K6.lt)
          rw [← hops,hfF] at hh
          exact wpAnyH_cast (by kernel_rfl) (by kernel_rfl) hh
       have st0_7 : ∀ (g22 : Nat) (W : World),Fn wk W [(g9,35,dv zb),(g8,35,dv za),(g20,35,dv kq),(g19,35,dv m),(g18,35,dv e),(g17,35,dv v),(g16,35,dv u),(g15,35,dv le),(g14,35,dv su),(g11,35,dv s2.d),(g10,35,dv s2.c),(g6,35,dv x),(g5,23,ks K)] → Blk W g22 35 #[.int .u64 0,.int .u64 0,.int .u64 0,.int .u64 0,.int .u64 0,.int .u64 0,.int .u64 0,.int .u64 0,.int .u64 0,.int .u64 0,.int .u64 0,.int .u64 0,.int .u64 0,.int .u64 0,.int .u64 0,.int .u64 0] → wk.heap.size ≤ g22 → wpAnyH Tryd.prog .any ops Q (fun W => Fn wk W [(g9,35,dv zb),(g8,35,dv za),(g20,35,dv kq),(g19,35,dv m),(g18,35,dv e),(g17,35,dv v),(g16,35,dv u),(g15,35,dv le),(g14,35,dv su),(g11,35,dv s2.d),(g10,35,dv s2.c),(g6,35,dv x),(g5,23,ks K)]) 5 #[true,true,false,true,true,false,false,true,false,false] { tmps := fF (u94) (u97) (u21) (.pointer (some ⟨g22,0,none⟩)),defers := [] } W := by
        as_aux_lemma =>
         clear st0_6 st1_ st1_6 st2_ st1_67 st2_7 st2_6 st2_67
         intro g22 W hHeld K7 Z7
         rw [← hops,hfF]
         refine wpAnyH_ready (rs := [2,6]) (by kernel_rfl) (by simp) (AllReadyH.cons rfl (fun K hK => ?_) (AllReadyH.cons rfl (fun K hK => ?_) AllReadyH.nil))
         ·
          have KH7 := Lib.hid K7
          have h0 := hHeld
          clear hHeld
          try simp only [e1,e2,e3]
          have H0 := Lib.hid h0
          clear h0
          go_simp
          go_at_call 18
          refine (addE H_mk.out _).mono ?_
          rintro e vv ⟨rfl,hb⟩
          have KJ7 := Lib.hid (KH7.out.below hb KH7.out.lt)
          have h1 := H0.out.ext hb
          clear hb H0
          go_wp2_with (fail)
          refine hK.out _ _ h1 (fun hHeld => ?_)
          clear hK K h1
          try simp only [Act.put,e1,e2,e3,e4,e5,e6]
          have k7 := KJ7.out
          have z7 := Z7
          have hh := st1_7 g22 _ hHeld k7 z7
          rw [← hops,hfF] at hh
          exact wpAnyH_cast (by kernel_rfl) (by kernel_rfl) hh
         ·
          have h0 := hHeld
          clear hHeld
          try simp only [e1,e2,e3]
          obtain ⟨kz,hg⟩ := frZ h0
          have KZ := Lib.hid kz
          have HG := Lib.hid hg
          have H0 := Lib.hid h0
          clear kz hg h0
          have KH7 := Lib.hid K7
          go_simp
          refine hK.out _ _ (Fn.pass H0.out _) (fun hHeld => ?_)
          clear hK K H0
          try simp only [Act.put,e1,e2,e3,e4,e5,e6]
          have k7 := alZ KH7.out
          have z7 := Z7
          have k6 := KZ.out
          have z6 := HG.out
          have hh := st0_67 _ g22 _ hHeld k6 z6 k7 z7 (Ne.symm (Nat.ne_of_lt K7.lt))
          rw [← hops,hfF] at hh
          exact wpAnyH_cast (by kernel_rfl) (by kernel_rfl) hh
       have st0_ : ∀ (W : World),Fn wk W [(g9,35,dv zb),(g8,35,dv za),(g20,35,dv kq),(g19,35,dv m),(g18,35,dv e),(g17,35,dv v),(g16,35,dv u),(g15,35,dv le),(g14,35,dv su),(g11,35,dv s2.d),(g10,35,dv s2.c),(g6,35,dv x),(g5,23,ks K)] → wpAnyH Tryd.prog .any ops Q (fun W => Fn wk W [(g9,35,dv zb),(g8,35,dv za),(g20,35,dv kq),(g19,35,dv m),(g18,35,dv e),(g17,35,dv v),(g16,35,dv u),(g15,35,dv le),(g14,35,dv su),(g11,35,dv s2.d),(g10,35,dv s2.c),(g6,35,dv x),(g5,23,ks K)]) 6 #[true,true,false,true,true,false,false,false,false,false] { tmps := fF (u94) (u97) (u21) (u22),defers := [] } W := by
        as_aux_lemma =>
         clear st0_67 st1_7 st1_6 st2_ st1_67 st2_7 st2_6 st2_67
         intro W hHeld
         rw [← hops,hfF]
         refine wpAnyH_ready (rs := [2,6,7]) (by kernel_rfl) (by simp) (AllReadyH.cons rfl (fun K hK => ?_) (AllReadyH.cons rfl (fun K hK => ?_) (AllReadyH.cons rfl (fun K hK => ?_) AllReadyH.nil)))
         ·
          have h0 := hHeld
          clear hHeld
          try simp only [e1,e2,e3]
          have H0 := Lib.hid h0
          clear h0
          go_simp
          go_at_call 18
          refine (addE H_mk.out _).mono ?_
          rintro e vv ⟨rfl,hb⟩
          have h1 := H0.out.ext hb
          clear hb H0
          go_wp2_with (fail)
          refine hK.out _ _ h1 (fun hHeld => ?_)
          clear hK K h1
          try simp only [Act.put,e1,e2,e3,e4,e5,e6]
          have hh := st1_ _ hHeld
          rw [← hops,hfF] at hh
          exact wpAnyH_cast (by kernel_rfl) (by kernel_rfl) hh
         ·
          have h0 := hHeld
          clear hHeld
          try simp only [e1,e2,e3]
          obtain ⟨kz,hg⟩ := frZ h0
          have KZ := Lib.hid kz
          have HG := Lib.hid hg
          have H0 := Lib.hid h0
          clear kz hg h0
          go_simp
          refine hK.out _ _ (Fn.pass H0.out _) (fun hHeld => ?_)
          clear hK K H0
          try simp only [Act.put,e1,e2,e3,e4,e5,e6]
          have k6 := KZ.out
          have z6 := HG.out
          have hh := st0_6 _ _ hHeld k6 z6
          rw [← hops,hfF] at hh
          exact wpAnyH_cast (by kernel_rfl) (by kernel_rfl) hh
         ·
          have h0 := hHeld
          clear hHeld
          try simp only [e1,e2,e3]
          obtain ⟨kz,hg⟩ := frZ h0
          have KZ := Lib.hid kz
          have HG := Lib.hid hg
          have H0 := Lib.hid h0
          clear kz hg h0
          go_simp
          refine hK.out _ _ (Fn.pass H0.out _) (fun hHeld => ?_)
          clear hK K H0
          try simp only [Act.put,e1,e2,e3,e4,e5,e6]
          have k7 := KZ.out
          have z7 := HG.out
          have hh := st0_7 _ _ hHeld k7 z7
          rw [← hops,hfF] at hh
          exact wpAnyH_cast (by kernel_rfl) (by kernel_rfl) hh
       have hh := st0_ _ hHeld
       rw [hfF] at hh
       exact wpAnyH_cast (by kernel_rfl) (by kernel_rfl) hh
     obtain ⟨g21,g22,rfl,rfl,y21,y22,k21,k22,hb⟩ := hcut
     have t21 : nb ≤ g21 := by omega
     have t22 : nb ≤ g22 := by omega
     have hf := ((HF.out.ext hb).more k21).more k22
     have hcu2 : nb ≤ wc.heap.size := by have := hb.size; omega
     have HF4 := Lib.hid hf
     clear hf hb HF hcur k21 y21 k22 y22
     have HF := HF4
     clear HF4
     obtain ⟨wl,h_w⟩ : ∃ z : World,z = wc := ⟨_,rfl⟩
     rw [← h_w] at HF hcu2 ⊢
     clear h_w
     have hcur := hcu2
     clear hcu2
     have l21 := HF.out.get (g := g21) (t := 35) (cs := dv mk) (by simp)
     go_wp2_with (first | (refine wpList_load_row rfl 35 (.tmp 21) rfl (g21) rfl 35 (dv mk) (0,0) _ l21 Tryd.underlying35 rfl (info_dv _) ?_))
     clear l21
     refine (mulD H_zc.out _).mono ?_
     rintro e0 vq ⟨rfl,hb⟩
     have hf := HF.out.ext hb
     have kz := hf.get (g := g10) (t := 35) (cs := dv s2.c) (by simp)
     have hf2 := ((hf.sub (L' := [(g22,35,dv ml),(g21,35,dv mk),(g9,35,dv zb),(g8,35,dv za),(g20,35,dv kq),(g19,35,dv m),(g18,35,dv e),(g17,35,dv v),(g16,35,dv u),(g15,35,dv le),(g14,35,dv su),(g11,35,dv s2.d),(g6,35,dv x),(g5,23,ks K)]) (R' := [(w.heap.size + 1 + 1,23,32)]) (by simp) (by simp)).setOut (g := g10) (by omega) (by simp <;> omega) (by simp <;> omega) (dv zc)).more (kz.setRow_same (dv zc))
     have hcu2 : nb ≤ vq.heap.size := by have := hb.size; omega
     have KZ := Lib.hid kz
     have HF4 := Lib.hid hf2
     clear hb hf kz hf2 HF hcur
     go_wp2_with (first | (refine wpList_store_row rfl 35 (.tmp 10) (.tmp 100) rfl (g10) (dv zc) rfl rfl 35 _ KZ.out (info_dv _) (by rw [dv_size,dv_size]) (dv_one _) ?_))
     obtain ⟨wm,h_w⟩ : ∃ z : World,z = vq.setRow g10 (dv zc) := ⟨_,rfl⟩
     have hcur : nb ≤ wm.heap.size := by rw [h_w]; simp; omega
     rw [← h_w] at HF4 ⊢
     clear h_w KZ hcu2
     have HF := HF4
     clear HF4
     try simp only [Act.put,e1,e4,e5,e6]
     have kz := HF.out.get (g := g11) (t := 35) (cs := dv s2.d) (by simp)
     have KZ := Lib.hid kz.drew
     clear kz
     have hf1 := HF.out.sub (L' := [(g10,35,dv zc),(g22,35,dv ml),(g21,35,dv mk),(g9,35,dv zb),(g8,35,dv za),(g20,35,dv kq),(g19,35,dv m),(g18,35,dv e),(g17,35,dv v),(g16,35,dv u),(g15,35,dv le),(g14,35,dv su),(g6,35,dv x),(g5,23,ks K)]) (R' := [(w.heap.size + 1 + 1,23,32)]) (by simp) (by simp)
     have HF1 := Lib.hid hf1
     clear hf1 HF
     refine wp_region_held_drew (S := fun W => Fr w W [(g10,35,dv zc),(g22,35,dv ml),(g21,35,dv mk),(g9,35,dv zb),(g8,35,dv za),(g20,35,dv kq),(g19,35,dv m),(g18,35,dv e),(g17,35,dv v),(g16,35,dv u),(g15,35,dv le),(g14,35,dv su),(g6,35,dv x),(g5,23,ks K)] [(w.heap.size + 1 + 1,23,32)]) (by kernel_rfl) ?_ (fun hHeld => ?_)
     ·
      exact HF1.out.drew
     refine wpAnyH_take (i := 0) (v := .agg (dv x)) rfl (by kernel_rfl) (by kernel_rfl) (by kernel_rfl) (fun _ _ _ h => h) (yields_row (by rfl) 35 (.tmp 6) rfl (g6) rfl 35 (dv x) _ (fun W (h : Fr _ W _ _) => h.get (by simp)) Tryd.underlying35 rfl (info_dv _)) hHeld ?_
     try simp only [Act.put,e1,e2,e3,e4,e5,e6]
     refine wpAnyH_take (i := 1) (v := .agg (dv ml)) rfl (by kernel_rfl) (by kernel_rfl) (by kernel_rfl) (fun _ _ _ h => h) (yields_row (by rfl) 35 (.tmp 22) rfl (g22) rfl 35 (dv ml) _ (fun W (h : Fr _ W _ _) => h.get (by simp)) Tryd.underlying35 rfl (info_dv _)) hHeld ?_
     try simp only [Act.put,e1,e2,e3,e4,e5,e6]
     refine wpAnyH_take (i := 2) (v := .agg (dv ml)) rfl (by kernel_rfl) (by kernel_rfl) (by kernel_rfl) (fun _ _ _ h => h) (yields_row (by rfl) 35 (.tmp 22) rfl (g22) rfl 35 (dv ml) _ (fun W (h : Fr _ W _ _) => h.get (by simp)) Tryd.underlying35 rfl (info_dv _)) hHeld ?_
     try simp only [Act.put,e1,e2,e3,e4,e5,e6]
     refine wpAnyH_ready (rs := [3]) (by kernel_rfl) (by simp) (AllReadyH.cons rfl (fun K hK => ?_) AllReadyH.nil)
     have h0 := hHeld
     clear hHeld
     try simp only [e1,e2,e3]
     have H0 := Lib.hid h0
     clear h0
     go_simp
     go_at_call 21
     refine (mulD H_m2.out _).mono ?_
     rintro e vv ⟨rfl,hb⟩
     have kz := KZ.out.below hb KZ.out.lt
     clear KZ
     have KZ := Lib.hid kz
     clear kz
     have h1 := H0.out.ext hb
     clear hb H0
     go_wp2_with (fail)
     refine hK.out _ _ h1 (fun hHeld => ?_)
     clear hK K h1
     try simp only [Act.put,e1,e2,e3,e4,e5,e6]
     refine wpAnyH_ready (rs := [4]) (by kernel_rfl) (by simp) (AllReadyH.cons rfl (fun K hK => ?_) AllReadyH.nil)
     have h0 := hHeld
     clear hHeld
     try simp only [e1,e2,e3]
     have H0 := Lib.hid h0
     clear h0
     go_simp
     go_at_call 21
     refine (mulD H_zd.out _).mono ?_
     rintro e vv ⟨rfl,hb⟩
     have kz := KZ.out.below hb KZ.out.lt
     clear KZ
     have KZ := Lib.hid kz
     clear kz
     have h1 := H0.out.ext hb
     clear hb H0
     go_wp2_with (fail)
     refine hK.out _ _ h1 (fun hHeld => ?_)
     clear hK K h1
     try simp only [Act.put,e1,e2,e3,e4,e5,e6]
     refine wpAnyH_ready (rs := [5]) (by kernel_rfl) (by simp) (AllReadyH.cons rfl (fun K hK => ?_) AllReadyH.nil)
     have h0 := hHeld
     clear hHeld
     try simp only [e1,e2,e3]
     rw [if_pos (by rfl)]
     refine wp_store_row 35 (.tmp 11) (.tmp 105) rfl (g11) (dv zd) rfl rfl 35 _ KZ.out (info_dv _) (by rw [dv_size,dv_size]) (dv_one _) ?_
     refine hK.out _ _ (Fr.setOut h0 (g := g11) (by omega) (by simp <;> omega) (by simp <;> omega) _) (fun hHeld => ?_)
     have kb := KZ.out.setRow_same (dv zd)
     clear hK K h0
     try simp only [Act.put,e1,e2,e3,e4,e5,e6]
     refine wpAnyH_done (by kernel_rfl) ?_ _
     have hff := hHeld.more kb
     have HF := Lib.hid hff
     clear hHeld hff kb
     obtain ⟨wn,h_w⟩ : ∃ z : World,z = vv.setRow g11 (dv zd) := ⟨_,rfl⟩
     rw [← h_w] at HF ⊢
     clear h_w hcur
     have hcur : nb ≤ wn.heap.size := by have := (HF.out.get (g := g20) (t := 35) (cs := dv kq) (by simp)).lt; omega
     have hf3 : Fr w wn [(g11,35,dv (s3).d),(g10,35,dv (s3).c),(g9,35,dv (s3).b),(g8,35,dv (s3).a),(g6,35,dv x),(g5,23,ks K)] [(w.heap.size + 1 + 1,23,32)] := by rw [HEND.out]; exact HF.out.sub (by simp) (by simp)
     have HF3 := Lib.hid hf3
     clear hf3 HF
     have HF := HF3
     clear HF3
     obtain ⟨s4,hs4⟩ : ∃ s4,s4 = lsw t s3 := ⟨_,rfl⟩
     have hst := HST.out
     rw [← hs4] at hst
     have HS4 := Lib.hid hs4
     have HST4 := Lib.hid hst
     clear hs4 hst
     cases t
     ·
      go_wp2_with (fail)
      go_roundw
      case rel => exact ⟨i,by omega,rfl,by rw [← HST4.out,HS4.out]; exact HF.out⟩
      case measure => simp [intOf] <;> omega
     ·
      as_aux_lemma =>
       have HF0 := Lib.hid (HF.out.sub (L' := [(g6,35,dv x),(g5,23,ks K)]) (R' := [(w.heap.size + 1 + 1,23,32)]) (by simp) (by simp))
       have K8 := HF.out.get (g := g8) (t := 35) (cs := dv s3.a) (by simp)
       have K9 := HF.out.get (g := g9) (t := 35) (cs := dv s3.b) (by simp)
       have K10 := HF.out.get (g := g10) (t := 35) (cs := dv s3.c) (by simp)
       have K11 := HF.out.get (g := g11) (t := 35) (cs := dv s3.d) (by simp)
       go_wp2_with (fail)
       refine wp_region_held_drew (S := fun W => Fr w W [(g6,35,dv x),(g5,23,ks K)] [(w.heap.size + 1 + 1,23,32)]) (by kernel_rfl) ?_ (fun hHeld => ?_)
       ·
        exact HF0.out.drew
       refine wpAnyH_name ?_
       intro ops Q hops hQ
       obtain ⟨fF,hfF⟩ : ∃ f : Value → Value → Value → Value → Array Value,∀ p0 p1 p2 p3,f p0 p1 p2 p3 = #[.agg (ks k),.agg (ks n),.pointer (some ⟨w.heap.size,0,none⟩),.pointer (some ⟨w.heap.size + 1,0,none⟩),.pointer (some ⟨w.heap.size + 1 + 1,0,none⟩),.pointer (some ⟨g5,0,none⟩),.pointer (some ⟨g6,0,none⟩),.pointer (some ⟨g7,0,none⟩),.pointer (some ⟨g8,0,none⟩),.pointer (some ⟨g9,0,none⟩),.pointer (some ⟨g10,0,none⟩),.pointer (some ⟨g11,0,none⟩),.int .i64 (i : Int),.bool true,.pointer (some ⟨g14,0,none⟩),.pointer (some ⟨g15,0,none⟩),.pointer (some ⟨g16,0,none⟩),.pointer (some ⟨g17,0,none⟩),.pointer (some ⟨g18,0,none⟩),.pointer (some ⟨g19,0,none⟩),.pointer (some ⟨g20,0,none⟩),.pointer (some ⟨g21,0,none⟩),.pointer (some ⟨g22,0,none⟩),u23,u24,u25,u26,u27,u28,u29,u30,u31,u32,u33,u34,u35,u36,u37,u38,u39,u40,u41,u42,u43,u44,u45,u46,u47,u48,u49,u50,u51,u52,u53,u54,u55,u56,u57,u58,u59,u60,u61,u62,u63,u64,u65,u66,u67,u68,u69,u70,u71,u72,u73,u74,u75,u76,u77,u78,u79,u80,u81,u82,u83,u84,u85,u86,u87,u88,u89,u90,u91,u92,u93,u94,u95,u96,u97,.agg (dv mk),.agg (dv mk),.agg (dv zc),.agg (dv x),.agg (dv ml),.agg (dv ml),.agg (dv m2),.agg (dv zd),.bool true,p0,p1,p2,p3,u111,u112,u113,u114,u115] := ⟨_,fun _ _ _ _ => rfl⟩
       have sw01234 : ∀ W : World,Fr w W [(g6,35,dv x),(g5,23,ks K)] [(w.heap.size + 1 + 1,23,32)] → Blk W g8 35 (dv s3.c) → Blk W g9 35 (dv s3.b) → Blk W g10 35 (dv s3.c) → Blk W g11 35 (dv s3.d) → wpAnyH Tryd.prog .any ops Q (fun W => Fr w W [(g6,35,dv x),(g5,23,ks K)] [(w.heap.size + 1 + 1,23,32)]) 3 #[true,true,true,true,true,false,false,false] { tmps := fF (.agg (dv s3.c)) (.agg (dv s3.d)) (.agg (dv s3.a)) (.agg (dv s3.b)),defers := [] } W := by
        as_aux_lemma =>
         intro W hHeld K8 K9 K10 K11
         rw [← hops,hfF]
         rw [← hQ]
         refine wpAnyH_ready (rs := [5]) (by kernel_rfl) (by simp) (AllReadyH.cons rfl (fun K hK => ?_) AllReadyH.nil)
         have h0 := hHeld
         clear hHeld
         try simp only [e1,e2,e3]
         rw [if_pos (by rfl)]
         refine wp_store_row 35 (.tmp 9) (.tmp 108) rfl g9 (dv s3.d) rfl rfl 35 _ K9 (info_dv _) (by rw [dv_size,dv_size]) (dv_one _) ?_
         refine hK.out _ _ (Fr.setOut h0 (g := g9) (by omega) (by simp <;> omega) (by simp <;> omega) (dv s3.d)) (fun hHeld => ?_)
         have J8 := K8.setRow_other (k := g9) (by omega) (dv s3.d)
         have J9 := K9.setRow_same (dv s3.d)
         have J10 := K10.setRow_other (k := g9) (by omega) (dv s3.d)
         have J11 := K11.setRow_other (k := g9) (by omega) (dv s3.d)
         clear K8 K9 K10 K11 hK K h0
         have K8 := J8
         have K9 := J9
         have K10 := J10
         have K11 := J11
         clear J8 J9 J10 J11
         try simp only [Act.put,e1,e2,e3,e4,e5,e6]
         refine wpAnyH_ready (rs := [6]) (by kernel_rfl) (by simp) (AllReadyH.cons rfl (fun K hK => ?_) AllReadyH.nil)
         have h0 := hHeld
         clear hHeld
         try simp only [e1,e2,e3]
         rw [if_pos (by rfl)]
         refine wp_store_row 35 (.tmp 10) (.tmp 109) rfl g10 (dv s3.a) rfl rfl 35 _ K10 (info_dv _) (by rw [dv_size,dv_size]) (dv_one _) ?_
         refine hK.out _ _ (Fr.setOut h0 (g := g10) (by omega) (by simp <;> omega) (by simp <;> omega) (dv s3.a)) (fun hHeld => ?_)
         have J8 := K8.setRow_other (k := g10) (by omega) (dv s3.a)
         have J9 := K9.setRow_other (k := g10) (by omega) (dv s3.a)
         have J10 := K10.setRow_same (dv s3.a)
         have J11 := K11.setRow_other (k := g10) (by omega) (dv s3.a)
         clear K8 K9 K10 K11 hK K h0
         have K8 := J8
         have K9 := J9
         have K10 := J10
         have K11 := J11
         clear J8 J9 J10 J11
         try simp only [Act.put,e1,e2,e3,e4,e5,e6]
         refine wpAnyH_ready (rs := [7]) (by kernel_rfl) (by simp) (AllReadyH.cons rfl (fun K hK => ?_) AllReadyH.nil)
         have h0 := hHeld
         clear hHeld
         try simp only [e1,e2,e3]
         rw [if_pos (by rfl)]
         refine wp_store_row 35 (.tmp 11) (.tmp 110) rfl g11 (dv s3.b) rfl rfl 35 _ K11 (info_dv _) (by rw [dv_size,dv_size]) (dv_one _) ?_
         refine hK.out _ _ (Fr.setOut h0 (g := g11) (by omega) (by simp <;> omega) (by simp <;> omega) (dv s3.b)) (fun hHeld => ?_)
         have J8 := K8.setRow_other (k := g11) (by omega) (dv s3.b)
         have J9 := K9.setRow_other (k := g11) (by omega) (dv s3.b)
         have J10 := K10.setRow_other (k := g11) (by omega) (dv s3.b)
         have J11 := K11.setRow_same (dv s3.b)
         clear K8 K9 K10 K11 hK K h0
         have K8 := J8
         have K9 := J9
         have K10 := J10
         have K11 := J11
         clear J8 J9 J10 J11
         try simp only [Act.put,e1,e2,e3,e4,e5,e6]
         refine wpAnyH_done (by kernel_rfl) ?_ _
         have hff := (((hHeld.more K8).more K9).more K10).more K11
         have HFF := Lib.hid hff
         clear hHeld hff K8 K9 K10 K11
         go_wp2_with (fail)
         go_roundw
         case rel => exact ⟨i,by omega,rfl,by rw [← HST4.out,HS4.out]; exact HFF.out⟩
         case measure => simp [intOf] <;> omega
       have sw0234 : ∀ W : World,Fr w W [(g6,35,dv x),(g5,23,ks K)] [(w.heap.size + 1 + 1,23,32)] → Blk W g8 35 (dv s3.c) → Blk W g9 35 (dv s3.b) → Blk W g10 35 (dv s3.c) → Blk W g11 35 (dv s3.d) → wpAnyH Tryd.prog .any ops Q (fun W => Fr w W [(g6,35,dv x),(g5,23,ks K)] [(w.heap.size + 1 + 1,23,32)]) 4 #[true,false,true,true,true,false,false,false] { tmps := fF (.agg (dv s3.c)) (u108) (.agg (dv s3.a)) (.agg (dv s3.b)),defers := [] } W := by
        as_aux_lemma =>
         intro W hHeld K8 K9 K10 K11
         rw [← hops,hfF]
         refine wpAnyH_ready (rs := [1]) (by kernel_rfl) (by simp) (AllReadyH.cons rfl (fun K hK => ?_) AllReadyH.nil)
         have h0 := hHeld
         clear hHeld
         try simp only [e1,e2,e3]
         rw [if_pos (by rfl)]
         refine wp_load_row 35 (.tmp 11) rfl g11 rfl 35 (dv s3.d) (0,0) _ K11 Tryd.underlying35 rfl (info_dv _) ?_
         refine hK.out _ _ h0 (fun hHeld => ?_)
         clear hK K h0
         try simp only [Act.put,e1,e2,e3,e4,e5,e6]
         have hh := sw01234 _ hHeld K8 K9 K10 K11
         rw [← hops,hfF] at hh
         exact wpAnyH_cast (by kernel_rfl) (by kernel_rfl) hh
       have sw0123 : ∀ W : World,Fr w W [(g6,35,dv x),(g5,23,ks K)] [(w.heap.size + 1 + 1,23,32)] → Blk W g8 35 (dv s3.a) → Blk W g9 35 (dv s3.b) → Blk W g10 35 (dv s3.c) → Blk W g11 35 (dv s3.d) → wpAnyH Tryd.prog .any ops Q (fun W => Fr w W [(g6,35,dv x),(g5,23,ks K)] [(w.heap.size + 1 + 1,23,32)]) 4 #[true,true,true,true,false,false,false,false] { tmps := fF (.agg (dv s3.c)) (.agg (dv s3.d)) (.agg (dv s3.a)) (.agg (dv s3.b)),defers := [] } W := by
        as_aux_lemma =>
         intro W hHeld K8 K9 K10 K11
         rw [← hops,hfF]
         refine wpAnyH_ready (rs := [4]) (by kernel_rfl) (by simp) (AllReadyH.cons rfl (fun K hK => ?_) AllReadyH.nil)
         have h0 := hHeld
         clear hHeld
         try simp only [e1,e2,e3]
         rw [if_pos (by rfl)]
         refine wp_store_row 35 (.tmp 8) (.tmp 107) rfl g8 (dv s3.c) rfl rfl 35 _ K8 (info_dv _) (by rw [dv_size,dv_size]) (dv_one _) ?_
         refine hK.out _ _ (Fr.setOut h0 (g := g8) (by omega) (by simp <;> omega) (by simp <;> omega) (dv s3.c)) (fun hHeld => ?_)
         have J8 := K8.setRow_same (dv s3.c)
         have J9 := K9.setRow_other (k := g8) (by omega) (dv s3.c)
         have J10 := K10.setRow_other (k := g8) (by omega) (dv s3.c)
         have J11 := K11.setRow_other (k := g8) (by omega) (dv s3.c)
         clear K8 K9 K10 K11 hK K h0
         have K8 := J8
         have K9 := J9
         have K10 := J10
         have K11 := J11
         clear J8 J9 J10 J11
         try simp only [Act.put,e1,e2,e3,e4,e5,e6]
         have hh := sw01234 _ hHeld K8 K9 K10 K11
         rw [← hops,hfF] at hh
         exact wpAnyH_cast (by kernel_rfl) (by kernel_rfl) hh
       have sw012 : ∀ W : World,Fr w W [(g6,35,dv x),(g5,23,ks K)] [(w.heap.size + 1 + 1,23,32)] → Blk W g8 35 (dv s3.a) → Blk W g9 35 (dv s3.b) → Blk W g10 35 (dv s3.c) → Blk W g11 35 (dv s3.d) → wpAnyH Tryd.prog .any ops Q (fun W => Fr w W [(g6,35,dv x),(g5,23,ks K)] [(w.heap.size + 1 + 1,23,32)]) 5 #[true,true,true,false,false,false,false,false] { tmps := fF (.agg (dv s3.c)) (.agg (dv s3.d)) (.agg (dv s3.a)) (u110),defers := [] } W := by
        as_aux_lemma =>
         intro W hHeld K8 K9 K10 K11
         rw [← hops,hfF]
         refine wpAnyH_ready (rs := [3]) (by kernel_rfl) (by simp) (AllReadyH.cons rfl (fun K hK => ?_) AllReadyH.nil)
         have h0 := hHeld
         clear hHeld
         try simp only [e1,e2,e3]
         rw [if_pos (by rfl)]
         refine wp_load_row 35 (.tmp 9) rfl g9 rfl 35 (dv s3.b) (0,0) _ K9 Tryd.underlying35 rfl (info_dv _) ?_
         refine hK.out _ _ h0 (fun hHeld => ?_)
         clear hK K h0
         try simp only [Act.put,e1,e2,e3,e4,e5,e6]
         have hh := sw0123 _ hHeld K8 K9 K10 K11
         rw [← hops,hfF] at hh
         exact wpAnyH_cast (by kernel_rfl) (by kernel_rfl) hh
       have sw013 : ∀ W : World,Fr w W [(g6,35,dv x),(g5,23,ks K)] [(w.heap.size + 1 + 1,23,32)] → Blk W g8 35 (dv s3.a) → Blk W g9 35 (dv s3.b) → Blk W g10 35 (dv s3.c) → Blk W g11 35 (dv s3.d) → wpAnyH Tryd.prog .any ops Q (fun W => Fr w W [(g6,35,dv x),(g5,23,ks K)] [(w.heap.size + 1 + 1,23,32)]) 5 #[true,true,false,true,false,false,false,false] { tmps := fF (.agg (dv s3.c)) (.agg (dv s3.d)) (u109) (.agg (dv s3.b)),defers := [] } W := by
        as_aux_lemma =>
         intro W hHeld K8 K9 K10 K11
         rw [← hops,hfF]
         refine wpAnyH_ready (rs := [2]) (by kernel_rfl) (by simp) (AllReadyH.cons rfl (fun K hK => ?_) AllReadyH.nil)
         have h0 := hHeld
         clear hHeld
         try simp only [e1,e2,e3]
         rw [if_pos (by rfl)]
         refine wp_load_row 35 (.tmp 8) rfl g8 rfl 35 (dv s3.a) (0,0) _ K8 Tryd.underlying35 rfl (info_dv _) ?_
         refine hK.out _ _ h0 (fun hHeld => ?_)
         clear hK K h0
         try simp only [Act.put,e1,e2,e3,e4,e5,e6]
         have hh := sw0123 _ hHeld K8 K9 K10 K11
         rw [← hops,hfF] at hh
         exact wpAnyH_cast (by kernel_rfl) (by kernel_rfl) hh
       have sw023 : ∀ W : World,Fr w W [(g6,35,dv x),(g5,23,ks K)] [(w.heap.size + 1 + 1,23,32)] → Blk W g8 35 (dv s3.a) → Blk W g9 35 (dv s3.b) → Blk W g10 35 (dv s3.c) → Blk W g11 35 (dv s3.d) → wpAnyH Tryd.prog .any ops Q (fun W => Fr w W [(g6,35,dv x),(g5,23,ks K)] [(w.heap.size + 1 + 1,23,32)]) 5 #[true,false,true,true,false,false,false,false] { tmps := fF (.agg (dv s3.c)) (u108) (.agg (dv s3.a)) (.agg (dv s3.b)),defers := [] } W := by
        as_aux_lemma =>
         intro W hHeld K8 K9 K10 K11
         rw [← hops,hfF]
         refine wpAnyH_ready (rs := [1,4]) (by kernel_rfl) (by simp) (AllReadyH.cons rfl (fun K hK => ?_) (AllReadyH.cons rfl (fun K hK => ?_) AllReadyH.nil))
         ·
          have h0 := hHeld
          clear hHeld
          try simp only [e1,e2,e3]
          rw [if_pos (by rfl)]
          refine wp_load_row 35 (.tmp 11) rfl g11 rfl 35 (dv s3.d) (0,0) _ K11 Tryd.underlying35 rfl (info_dv _) ?_
          refine hK.out _ _ h0 (fun hHeld => ?_)
          clear hK K h0
          try simp only [Act.put,e1,e2,e3,e4,e5,e6]
          have hh := sw0123 _ hHeld K8 K9 K10 K11
          rw [← hops,hfF] at hh
          exact wpAnyH_cast (by kernel_rfl) (by kernel_rfl) hh
         ·
          have h0 := hHeld
          clear hHeld
          try simp only [e1,e2,e3]
          rw [if_pos (by rfl)]
          refine wp_store_row 35 (.tmp 8) (.tmp 107) rfl g8 (dv s3.c) rfl rfl 35 _ K8 (info_dv _) (by rw [dv_size,dv_size]) (dv_one _) ?_
          refine hK.out _ _ (Fr.setOut h0 (g := g8) (by omega) (by simp <;> omega) (by simp <;> omega) (dv s3.c)) (fun hHeld => ?_)
          have J8 := K8.setRow_same (dv s3.c)
          have J9 := K9.setRow_other (k := g8) (by omega) (dv s3.c)
          have J10 := K10.setRow_other (k := g8) (by omega) (dv s3.c)
          have J11 := K11.setRow_other (k := g8) (by omega) (dv s3.c)
          clear K8 K9 K10 K11 hK K h0
          have K8 := J8
          have K9 := J9
          have K10 := J10
          have K11 := J11
          clear J8 J9 J10 J11
          try simp only [Act.put,e1,e2,e3,e4,e5,e6]
          have hh := sw0234 _ hHeld K8 K9 K10 K11
          rw [← hops,hfF] at hh
          exact wpAnyH_cast (by kernel_rfl) (by kernel_rfl) hh
       have sw123 : ∀ W : World,Fr w W [(g6,35,dv x),(g5,23,ks K)] [(w.heap.size + 1 + 1,23,32)] → Blk W g8 35 (dv s3.a) → Blk W g9 35 (dv s3.b) → Blk W g10 35 (dv s3.c) → Blk W g11 35 (dv s3.d) → wpAnyH Tryd.prog .any ops Q (fun W => Fr w W [(g6,35,dv x),(g5,23,ks K)] [(w.heap.size + 1 + 1,23,32)]) 5 #[false,true,true,true,false,false,false,false] { tmps := fF (u107) (.agg (dv s3.d)) (.agg (dv s3.a)) (.agg (dv s3.b)),defers := [] } W := by
        as_aux_lemma =>
         intro W hHeld K8 K9 K10 K11
         rw [← hops,hfF]
         refine wpAnyH_ready (rs := [0]) (by kernel_rfl) (by simp) (AllReadyH.cons rfl (fun K hK => ?_) AllReadyH.nil)
         have h0 := hHeld
         clear hHeld
         try simp only [e1,e2,e3]
         rw [if_pos (by rfl)]
         refine wp_load_row 35 (.tmp 10) rfl g10 rfl 35 (dv s3.c) (0,0) _ K10 Tryd.underlying35 rfl (info_dv _) ?_
         refine hK.out _ _ h0 (fun hHeld => ?_)
         clear hK K h0
         try simp only [Act.put,e1,e2,e3,e4,e5,e6]
         have hh := sw0123 _ hHeld K8 K9 K10 K11
         rw [← hops,hfF] at hh
         exact wpAnyH_cast (by kernel_rfl) (by kernel_rfl) hh
       have sw01 : ∀ W : World,Fr w W [(g6,35,dv x),(g5,23,ks K)] [(w.heap.size + 1 + 1,23,32)] → Blk W g8 35 (dv s3.a) → Blk W g9 35 (dv s3.b) → Blk W g10 35 (dv s3.c) → Blk W g11 35 (dv s3.d) → wpAnyH Tryd.prog .any ops Q (fun W => Fr w W [(g6,35,dv x),(g5,23,ks K)] [(w.heap.size + 1 + 1,23,32)]) 6 #[true,true,false,false,false,false,false,false] { tmps := fF (.agg (dv s3.c)) (.agg (dv s3.d)) (u109) (u110),defers := [] } W := by
        as_aux_lemma =>
         intro W hHeld K8 K9 K10 K11
         rw [← hops,hfF]
         refine wpAnyH_ready (rs := [2,3]) (by kernel_rfl) (by simp) (AllReadyH.cons rfl (fun K hK => ?_) (AllReadyH.cons rfl (fun K hK => ?_) AllReadyH.nil))
         ·
          have h0 := hHeld
          clear hHeld
          try simp only [e1,e2,e3]
          rw [if_pos (by rfl)]
          refine wp_load_row 35 (.tmp 8) rfl g8 rfl 35 (dv s3.a) (0,0) _ K8 Tryd.underlying35 rfl (info_dv _) ?_
          refine hK.out _ _ h0 (fun hHeld => ?_)
          clear hK K h0
          try simp only [Act.put,e1,e2,e3,e4,e5,e6]
          have hh := sw012 _ hHeld K8 K9 K10 K11
          rw [← hops,hfF] at hh
          exact wpAnyH_cast (by kernel_rfl) (by kernel_rfl) hh
         ·
          have h0 := hHeld
          clear hHeld
          try simp only [e1,e2,e3]
          rw [if_pos (by rfl)]
          refine wp_load_row 35 (.tmp 9) rfl g9 rfl 35 (dv s3.b) (0,0) _ K9 Tryd.underlying35 rfl (info_dv _) ?_
          refine hK.out _ _ h0 (fun hHeld => ?_)
          clear hK K h0
          try simp only [Act.put,e1,e2,e3,e4,e5,e6]
          have hh := sw013 _ hHeld K8 K9 K10 K11
          rw [← hops,hfF] at hh
          exact wpAnyH_cast (by kernel_rfl) (by kernel_rfl) hh
       have sw02 : ∀ W : World,Fr w W [(g6,35,dv x),(g5,23,ks K)] [(w.heap.size + 1 + 1,23,32)] → Blk W g8 35 (dv s3.a) → Blk W g9 35 (dv s3.b) → Blk W g10 35 (dv s3.c) → Blk W g11 35 (dv s3.d) → wpAnyH Tryd.prog .any ops Q (fun W => Fr w W [(g6,35,dv x),(g5,23,ks K)] [(w.heap.size + 1 + 1,23,32)]) 6 #[true,false,true,false,false,false,false,false] { tmps := fF (.agg (dv s3.c)) (u108) (.agg (dv s3.a)) (u110),defers := [] } W := by
        as_aux_lemma =>
         intro W hHeld K8 K9 K10 K11
         rw [← hops,hfF]
         refine wpAnyH_ready (rs := [1,3]) (by kernel_rfl) (by simp) (AllReadyH.cons rfl (fun K hK => ?_) (AllReadyH.cons rfl (fun K hK => ?_) AllReadyH.nil))
         ·
          have h0 := hHeld
          clear hHeld
          try simp only [e1,e2,e3]
          rw [if_pos (by rfl)]
          refine wp_load_row 35 (.tmp 11) rfl g11 rfl 35 (dv s3.d) (0,0) _ K11 Tryd.underlying35 rfl (info_dv _) ?_
          refine hK.out _ _ h0 (fun hHeld => ?_)
          clear hK K h0
          try simp only [Act.put,e1,e2,e3,e4,e5,e6]
          have hh := sw012 _ hHeld K8 K9 K10 K11
          rw [← hops,hfF] at hh
          exact wpAnyH_cast (by kernel_rfl) (by kernel_rfl) hh
         ·
          have h0 := hHeld
          clear hHeld
          try simp only [e1,e2,e3]
          rw [if_pos (by rfl)]
          refine wp_load_row 35 (.tmp 9) rfl g9 rfl 35 (dv s3.b) (0,0) _ K9 Tryd.underlying35 rfl (info_dv _) ?_
          refine hK.out _ _ h0 (fun hHeld => ?_)
          clear hK K h0
          try simp only [Act.put,e1,e2,e3,e4,e5,e6]
          have hh := sw023 _ hHeld K8 K9 K10 K11
          rw [← hops,hfF] at hh
          exact wpAnyH_cast (by kernel_rfl) (by kernel_rfl) hh
       have sw03 : ∀ W : World,Fr w W [(g6,35,dv x),(g5,23,ks K)] [(w.heap.size + 1 + 1,23,32)] → Blk W g8 35 (dv s3.a) → Blk W g9 35 (dv s3.b) → Blk W g10 35 (dv s3.c) → Blk W g11 35 (dv s3.d) → wpAnyH Tryd.prog .any ops Q (fun W => Fr w W [(g6,35,dv x),(g5,23,ks K)] [(w.heap.size + 1 + 1,23,32)]) 6 #[true,false,false,true,false,false,false,false] { tmps := fF (.agg (dv s3.c)) (u108) (u109) (.agg (dv s3.b)),defers := [] } W := by
        as_aux_lemma =>
         intro W hHeld K8 K9 K10 K11
         rw [← hops,hfF]
         refine wpAnyH_ready (rs := [1,2]) (by kernel_rfl) (by simp) (AllReadyH.cons rfl (fun K hK => ?_) (AllReadyH.cons rfl (fun K hK => ?_) AllReadyH.nil))
         ·
          have h0 := hHeld
          clear hHeld
          try simp only [e1,e2,e3]
          rw [if_pos (by rfl)]
          refine wp_load_row 35 (.tmp 11) rfl g11 rfl 35 (dv s3.d) (0,0) _ K11 Tryd.underlying35 rfl (info_dv _) ?_
          refine hK.out _ _ h0 (fun hHeld => ?_)
          clear hK K h0
          try simp only [Act.put,e1,e2,e3,e4,e5,e6]
          have hh := sw013 _ hHeld K8 K9 K10 K11
          rw [← hops,hfF] at hh
          exact wpAnyH_cast (by kernel_rfl) (by kernel_rfl) hh
         ·
          have h0 := hHeld
          clear hHeld
          try simp only [e1,e2,e3]
          rw [if_pos (by rfl)]
          refine wp_load_row 35 (.tmp 8) rfl g8 rfl 35 (dv s3.a) (0,0) _ K8 Tryd.underlying35 rfl (info_dv _) ?_
          refine hK.out _ _ h0 (fun hHeld => ?_)
          clear hK K h0
          try simp only [Act.put,e1,e2,e3,e4,e5,e6]
          have hh := sw023 _ hHeld K8 K9 K10 K11
          rw [← hops,hfF] at hh
          exact wpAnyH_cast (by kernel_rfl) (by kernel_rfl) hh
       have sw12 : ∀ W : World,Fr w W [(g6,35,dv x),(g5,23,ks K)] [(w.heap.size + 1 + 1,23,32)] → Blk W g8 35 (dv s3.a) → Blk W g9 35 (dv s3.b) → Blk W g10 35 (dv s3.c) → Blk W g11 35 (dv s3.d) → wpAnyH Tryd.prog .any ops Q (fun W => Fr w W [(g6,35,dv x),(g5,23,ks K)] [(w.heap.size + 1 + 1,23,32)]) 6 #[false,true,true,false,false,false,false,false] { tmps := fF (u107) (.agg (dv s3.d)) (.agg (dv s3.a)) (u110),defers := [] } W := by
        as_aux_lemma =>
         intro W hHeld K8 K9 K10 K11
         rw [← hops,hfF]
         refine wpAnyH_ready (rs := [0,3]) (by kernel_rfl) (by simp) (AllReadyH.cons rfl (fun K hK => ?_) (AllReadyH.cons rfl (fun K hK => ?_) AllReadyH.nil))
         ·
          have h0 := hHeld
          clear hHeld
          try simp only [e1,e2,e3]
          rw [if_pos (by rfl)]
          refine wp_load_row 35 (.tmp 10) rfl g10 rfl 35 (dv s3.c) (0,0) _ K10 Tryd.underlying35 rfl (info_dv _) ?_
          refine hK.out _ _ h0 (fun hHeld => ?_)
          clear hK K h0
          try simp only [Act.put,e1,e2,e3,e4,e5,e6]
          have hh := sw012 _ hHeld K8 K9 K10 K11
          rw [← hops,hfF] at hh
          exact wpAnyH_cast (by kernel_rfl) (by kernel_rfl) hh
         ·
          have h0 := hHeld
          clear hHeld
          try simp only [e1,e2,e3]
          rw [if_pos (by rfl)]
          refine wp_load_row 35 (.tmp 9) rfl g9 rfl 35 (dv s3.b) (0,0) _ K9 Tryd.underlying35 rfl (info_dv _) ?_
          refine hK.out _ _ h0 (fun hHeld => ?_)
          clear hK K h0
          try simp only [Act.put,e1,e2,e3,e4,e5,e6]
          have hh := sw123 _ hHeld K8 K9 K10 K11
          rw [← hops,hfF] at hh
          exact wpAnyH_cast (by kernel_rfl) (by kernel_rfl) hh
       have sw13 : ∀ W : World,Fr w W [(g6,35,dv x),(g5,23,ks K)] [(w.heap.size + 1 + 1,23,32)] → Blk W g8 35 (dv s3.a) → Blk W g9 35 (dv s3.b) → Blk W g10 35 (dv s3.c) → Blk W g11 35 (dv s3.d) → wpAnyH Tryd.prog .any ops Q (fun W => Fr w W [(g6,35,dv x),(g5,23,ks K)] [(w.heap.size + 1 + 1,23,32)]) 6 #[false,true,false,true,false,false,false,false] { tmps := fF (u107) (.agg (dv s3.d)) (u109) (.agg (dv s3.b)),defers := [] } W := by
        as_aux_lemma =>
         intro W hHeld K8 K9 K10 K11
         rw [← hops,hfF]
         refine wpAnyH_ready (rs := [0,2]) (by kernel_rfl) (by simp) (AllReadyH.cons rfl (fun K hK => ?_) (AllReadyH.cons rfl (fun K hK => ?_) AllReadyH.nil))
         ·
          have h0 := hHeld
          clear hHeld
          try simp only [e1,e2,e3]
          rw [if_pos (by rfl)]
          refine wp_load_row 35 (.tmp 10) rfl g10 rfl 35 (dv s3.c) (0,0) _ K10 Tryd.underlying35 rfl (info_dv _) ?_
          refine hK.out _ _ h0 (fun hHeld => ?_)
          clear hK K h0
          try simp only [Act.put,e1,e2,e3,e4,e5,e6]
          have hh := sw013 _ hHeld K8 K9 K10 K11
          rw [← hops,hfF] at hh
          exact wpAnyH_cast (by kernel_rfl) (by kernel_rfl) hh
         ·
          have h0 := hHeld
          clear hHeld
          try simp only [e1,e2,e3]
          rw [if_pos (by rfl)]
          refine wp_load_row 35 (.tmp 8) rfl g8 rfl 35 (dv s3.a) (0,0) _ K8 Tryd.underlying35 rfl (info_dv _) ?_
          refine hK.out _ _ h0 (fun hHeld => ?_)
          clear hK K h0
          try simp only [Act.put,e1,e2,e3,e4,e5,e6]
          have hh := sw123 _ hHeld K8 K9 K10 K11
          rw [← hops,hfF] at hh
          exact wpAnyH_cast (by kernel_rfl) (by kernel_rfl) hh
       have sw23 : ∀ W : World,Fr w W [(g6,35,dv x),(g5,23,ks K)] [(w.heap.size + 1 + 1,23,32)] → Blk W g8 35 (dv s3.a) → Blk W g9 35 (dv s3.b) → Blk W g10 35 (dv s3.c) → Blk W g11 35 (dv s3.d) → wpAnyH Tryd.prog .any ops Q (fun W => Fr w W [(g6,35,dv x),(g5,23,ks K)] [(w.heap.size + 1 + 1,23,32)]) 6 #[false,false,true,true,false,false,false,false] { tmps := fF (u107) (u108) (.agg (dv s3.a)) (.agg (dv s3.b)),defers := [] } W := by
        as_aux_lemma =>
         intro W hHeld K8 K9 K10 K11
         rw [← hops,hfF]
         refine wpAnyH_ready (rs := [0,1]) (by kernel_rfl) (by simp) (AllReadyH.cons rfl (fun K hK => ?_) (AllReadyH.cons rfl (fun K hK => ?_) AllReadyH.nil))
         ·
          have h0 := hHeld
          clear hHeld
          try simp only [e1,e2,e3]
          rw [if_pos (by rfl)]
          refine wp_load_row 35 (.tmp 10) rfl g10 rfl 35 (dv s3.c) (0,0) _ K10 Tryd.underlying35 rfl (info_dv _) ?_
          refine hK.out _ _ h0 (fun hHeld => ?_)
          clear hK K h0
          try simp only [Act.put,e1,e2,e3,e4,e5,e6]
          have hh := sw023 _ hHeld K8 K9 K10 K11
          rw [← hops,hfF] at hh
          exact wpAnyH_cast (by kernel_rfl) (by kernel_rfl) hh
         ·
          have h0 := hHeld
          clear hHeld
          try simp only [e1,e2,e3]
          rw [if_pos (by rfl)]
          refine wp_load_row 35 (.tmp 11) rfl g11 rfl 35 (dv s3.d) (0,0) _ K11 Tryd.underlying35 rfl (info_dv _) ?_
          refine hK.out _ _ h0 (fun hHeld => ?_)
          clear hK K h0
          try simp only [Act.put,e1,e2,e3,e4,e5,e6]
          have hh := sw123 _ hHeld K8 K9 K10 K11
          rw [← hops,hfF] at hh
          exact wpAnyH_cast (by kernel_rfl) (by kernel_rfl) hh
       have sw0 : ∀ W : World,Fr w W [(g6,35,dv x),(g5,23,ks K)] [(w.heap.size + 1 + 1,23,32)] → Blk W g8 35 (dv s3.a) → Blk W g9 35 (dv s3.b) → Blk W g10 35 (dv s3.c) → Blk W g11 35 (dv s3.d) → wpAnyH Tryd.prog .any ops Q (fun W => Fr w W [(g6,35,dv x),(g5,23,ks K)] [(w.heap.size + 1 + 1,23,32)]) 7 #[true,false,false,false,false,false,false,false] { tmps := fF (.agg (dv s3.c)) (u108) (u109) (u110),defers := [] } W := by
        as_aux_lemma =>
         intro W hHeld K8 K9 K10 K11
         rw [← hops,hfF]
         refine wpAnyH_ready (rs := [1,2,3]) (by kernel_rfl) (by simp) (AllReadyH.cons rfl (fun K hK => ?_) (AllReadyH.cons rfl (fun K hK => ?_) (AllReadyH.cons rfl (fun K hK => ?_) AllReadyH.nil)))
         ·
          have h0 := hHeld
          clear hHeld
          try simp only [e1,e2,e3]
          rw [if_pos (by rfl)]
          refine wp_load_row 35 (.tmp 11) rfl g11 rfl 35 (dv s3.d) (0,0) _ K11 Tryd.underlying35 rfl (info_dv _) ?_
          refine hK.out _ _ h0 (fun hHeld => ?_)
          clear hK K h0
          try simp only [Act.put,e1,e2,e3,e4,e5,e6]
          have hh := sw01 _ hHeld K8 K9 K10 K11
          rw [← hops,hfF] at hh
          exact wpAnyH_cast (by kernel_rfl) (by kernel_rfl) hh
         ·
          have h0 := hHeld
          clear hHeld
          try simp only [e1,e2,e3]
          rw [if_pos (by rfl)]
          refine wp_load_row 35 (.tmp 8) rfl g8 rfl 35 (dv s3.a) (0,0) _ K8 Tryd.underlying35 rfl (info_dv _) ?_
          refine hK.out _ _ h0 (fun hHeld => ?_)
          clear hK K h0
          try simp only [Act.put,e1,e2,e3,e4,e5,e6]
          have hh := sw02 _ hHeld K8 K9 K10 K11
          rw [← hops,hfF] at hh
          exact wpAnyH_cast (by kernel_rfl) (by kernel_rfl) hh
         ·
          have h0 := hHeld
          clear hHeld
          try simp only [e1,e2,e3]
          rw [if_pos (by rfl)]
          refine wp_load_row 35 (.tmp 9) rfl g9 rfl 35 (dv s3.b) (0,0) _ K9 Tryd.underlying35 rfl (info_dv _) ?_
          refine hK.out _ _ h0 (fun hHeld => ?_)
          clear hK K h0
          try simp only [Act.put,e1,e2,e3,e4,e5,e6]
          have hh := sw03 _ hHeld K8 K9 K10 K11
          rw [← hops,hfF] at hh
          exact wpAnyH_cast (by kernel_rfl) (by kernel_rfl) hh
       have sw1 : ∀ W : World,Fr w W [(g6,35,dv x),(g5,23,ks K)] [(w.heap.size + 1 + 1,23,32)] → Blk W g8 35 (dv s3.a) → Blk W g9 35 (dv s3.b) → Blk W g10 35 (dv s3.c) → Blk W g11 35 (dv s3.d) → wpAnyH Tryd.prog .any ops Q (fun W => Fr w W [(g6,35,dv x),(g5,23,ks K)] [(w.heap.size + 1 + 1,23,32)]) 7 #[false,true,false,false,false,false,false,false] { tmps := fF (u107) (.agg (dv s3.d)) (u109) (u110),defers := [] } W := by
        as_aux_lemma =>
         intro W hHeld K8 K9 K10 K11
         rw [← hops,hfF]
         refine wpAnyH_ready (rs := [0,2,3]) (by kernel_rfl) (by simp) (AllReadyH.cons rfl (fun K hK => ?_) (AllReadyH.cons rfl (fun K hK => ?_) (AllReadyH.cons rfl (fun K hK => ?_) AllReadyH.nil)))
         ·
          have h0 := hHeld
          clear hHeld
          try simp only [e1,e2,e3]
          rw [if_pos (by rfl)]
          refine wp_load_row 35 (.tmp 10) rfl g10 rfl 35 (dv s3.c) (0,0) _ K10 Tryd.underlying35 rfl (info_dv _) ?_
          refine hK.out _ _ h0 (fun hHeld => ?_)
          clear hK K h0
          try simp only [Act.put,e1,e2,e3,e4,e5,e6]
          have hh := sw01 _ hHeld K8 K9 K10 K11
          rw [← hops,hfF] at hh
          exact wpAnyH_cast (by kernel_rfl) (by kernel_rfl) hh
         ·
          have h0 := hHeld
          clear hHeld
          try simp only [e1,e2,e3]
          rw [if_pos (by rfl)]
          refine wp_load_row 35 (.tmp 8) rfl g8 rfl 35 (dv s3.a) (0,0) _ K8 Tryd.underlying35 rfl (info_dv _) ?_
          refine hK.out _ _ h0 (fun hHeld => ?_)
          clear hK K h0
          try simp only [Act.put,e1,e2,e3,e4,e5,e6]
          have hh := sw12 _ hHeld K8 K9 K10 K11
          rw [← hops,hfF] at hh
          exact wpAnyH_cast (by kernel_rfl) (by kernel_rfl) hh
         ·
          have h0 := hHeld
          clear hHeld
          try simp only [e1,e2,e3]
          rw [if_pos (by rfl)]
          refine wp_load_row 35 (.tmp 9) rfl g9 rfl 35 (dv s3.b) (0,0) _ K9 Tryd.underlying35 rfl (info_dv _) ?_
          refine hK.out _ _ h0 (fun hHeld => ?_)
          clear hK K h0
          try simp only [Act.put,e1,e2,e3,e4,e5,e6]
          have hh := sw13 _ hHeld K8 K9 K10 K11
          rw [← hops,hfF] at hh
          exact wpAnyH_cast (by kernel_rfl) (by kernel_rfl) hh
       have sw2 : ∀ W : World,Fr w W [(g6,35,dv x),(g5,23,ks K)] [(w.heap.size + 1 + 1,23,32)] → Blk W g8 35 (dv s3.a) → Blk W g9 35 (dv s3.b) → Blk W g10 35 (dv s3.c) → Blk W g11 35 (dv s3.d) → wpAnyH Tryd.prog .any ops Q (fun W => Fr w W [(g6,35,dv x),(g5,23,ks K)] [(w.heap.size + 1 + 1,23,32)]) 7 #[false,false,true,false,false,false,false,false] { tmps := fF (u107) (u108) (.agg (dv s3.a)) (u110),defers := [] } W := by
        as_aux_lemma =>
         intro W hHeld K8 K9 K10 K11
         rw [← hops,hfF]
         refine wpAnyH_ready (rs := [0,1,3]) (by kernel_rfl) (by simp) (AllReadyH.cons rfl (fun K hK => ?_) (AllReadyH.cons rfl (fun K hK => ?_) (AllReadyH.cons rfl (fun K hK => ?_) AllReadyH.nil)))
         ·
          have h0 := hHeld
          clear hHeld
          try simp only [e1,e2,e3]
          rw [if_pos (by rfl)]
          refine wp_load_row 35 (.tmp 10) rfl g10 rfl 35 (dv s3.c) (0,0) _ K10 Tryd.underlying35 rfl (info_dv _) ?_
          refine hK.out _ _ h0 (fun hHeld => ?_)
          clear hK K h0
          try simp only [Act.put,e1,e2,e3,e4,e5,e6]
          have hh := sw02 _ hHeld K8 K9 K10 K11
          rw [← hops,hfF] at hh
          exact wpAnyH_cast (by kernel_rfl) (by kernel_rfl) hh
         ·
          have h0 := hHeld
          clear hHeld
          try simp only [e1,e2,e3]
          rw [if_pos (by rfl)]
          refine wp_load_row 35 (.tmp 11) rfl g11 rfl 35 (dv s3.d) (0,0) _ K11 Tryd.underlying35 rfl (info_dv _) ?_
          refine hK.out _ _ h0 (fun hHeld => ?_)
          clear hK K h0
          try simp only [Act.put,e1,e2,e3,e4,e5,e6]
          have hh := sw12 _ hHeld K8 K9 K10 K11
          rw [← hops,hfF] at hh
          exact wpAnyH_cast (by kernel_rfl) (by kernel_rfl) hh
         ·
          have h0 := hHeld
          clear hHeld
          try simp only [e1,e2,e3]
          rw [if_pos (by rfl)]
          refine wp_load_row 35 (.tmp 9) rfl g9 rfl 35 (dv s3.b) (0,0) _ K9 Tryd.underlying35 rfl (info_dv _) ?_
          refine hK.out _ _ h0 (fun hHeld => ?_)
          clear hK K h0
          try simp only [Act.put,e1,e2,e3,e4,e5,e6]
          have hh := sw23 _ hHeld K8 K9 K10 K11
          rw [← hops,hfF] at hh
          exact wpAnyH_cast (by kernel_rfl) (by kernel_rfl) hh
       have sw3 : ∀ W : World,Fr w W [(g6,35,dv x),(g5,23,ks K)] [(w.heap.size + 1 + 1,23,32)] → Blk W g8 35 (dv s3.a) → Blk W g9 35 (dv s3.b) → Blk W g10 35 (dv s3.c) → Blk W g11 35 (dv s3.d) → wpAnyH Tryd.prog .any ops Q (fun W => Fr w W [(g6,35,dv x),(g5,23,ks K)] [(w.heap.size + 1 + 1,23,32)]) 7 #[false,false,false,true,false,false,false,false] { tmps := fF (u107) (u108) (u109) (.agg (dv s3.b)),defers := [] } W := by
        as_aux_lemma =>
         intro W hHeld K8 K9 K10 K11
         rw [← hops,hfF]
         refine wpAnyH_ready (rs := [0,1,2]) (by kernel_rfl) (by simp) (AllReadyH.cons rfl (fun K hK => ?_) (AllReadyH.cons rfl (fun K hK => ?_) (AllReadyH.cons rfl (fun K hK => ?_) AllReadyH.nil)))
         ·
          have h0 := hHeld
          clear hHeld
          try simp only [e1,e2,e3]
          rw [if_pos (by rfl)]
          refine wp_load_row 35 (.tmp 10) rfl g10 rfl 35 (dv s3.c) (0,0) _ K10 Tryd.underlying35 rfl (info_dv _) ?_
          refine hK.out _ _ h0 (fun hHeld => ?_)
          clear hK K h0
          try simp only [Act.put,e1,e2,e3,e4,e5,e6]
          have hh := sw03 _ hHeld K8 K9 K10 K11
          rw [← hops,hfF] at hh
          exact wpAnyH_cast (by kernel_rfl) (by kernel_rfl) hh
         ·
          have h0 := hHeld
          clear hHeld
          try simp only [e1,e2,e3]
          rw [if_pos (by rfl)]
          refine wp_load_row 35 (.tmp 11) rfl g11 rfl 35 (dv s3.d) (0,0) _ K11 Tryd.underlying35 rfl (info_dv _) ?_
          refine hK.out _ _ h0 (fun hHeld => ?_)
          clear hK K h0
          try simp only [Act.put,e1,e2,e3,e4,e5,e6]
          have hh := sw13 _ hHeld K8 K9 K10 K11
          rw [← hops,hfF] at hh
          exact wpAnyH_cast (by kernel_rfl) (by kernel_rfl) hh
         ·
          have h0 := hHeld
          clear hHeld
          try simp only [e1,e2,e3]
          rw [if_pos (by rfl)]
          refine wp_load_row 35 (.tmp 8) rfl g8 rfl 35 (dv s3.a) (0,0) _ K8 Tryd.underlying35 rfl (info_dv _) ?_
          refine hK.out _ _ h0 (fun hHeld => ?_)
          clear hK K h0
          try simp only [Act.put,e1,e2,e3,e4,e5,e6]
          have hh := sw23 _ hHeld K8 K9 K10 K11
          rw [← hops,hfF] at hh
          exact wpAnyH_cast (by kernel_rfl) (by kernel_rfl) hh
       have sw : ∀ W : World,Fr w W [(g6,35,dv x),(g5,23,ks K)] [(w.heap.size + 1 + 1,23,32)] → Blk W g8 35 (dv s3.a) → Blk W g9 35 (dv s3.b) → Blk W g10 35 (dv s3.c) → Blk W g11 35 (dv s3.d) → wpAnyH Tryd.prog .any ops Q (fun W => Fr w W [(g6,35,dv x),(g5,23,ks K)] [(w.heap.size + 1 + 1,23,32)]) 8 #[false,false,false,false,false,false,false,false] { tmps := fF (u107) (u108) (u109) (u110),defers := [] } W := by
        as_aux_lemma =>
         intro W hHeld K8 K9 K10 K11
         rw [← hops,hfF]
         refine wpAnyH_ready (rs := [0,1,2,3]) (by kernel_rfl) (by simp) (AllReadyH.cons rfl (fun K hK => ?_) (AllReadyH.cons rfl (fun K hK => ?_) (AllReadyH.cons rfl (fun K hK => ?_) (AllReadyH.cons rfl (fun K hK => ?_) AllReadyH.nil))))
         ·
          have h0 := hHeld
          clear hHeld
          try simp only [e1,e2,e3]
          rw [if_pos (by rfl)]
          refine wp_load_row 35 (.tmp 10) rfl g10 rfl 35 (dv s3.c) (0,0) _ K10 Tryd.underlying35 rfl (info_dv _) ?_
          refine hK.out _ _ h0 (fun hHeld => ?_)
          clear hK K h0
          try simp only [Act.put,e1,e2,e3,e4,e5,e6]
          have hh := sw0 _ hHeld K8 K9 K10 K11
          rw [← hops,hfF] at hh
          exact wpAnyH_cast (by kernel_rfl) (by kernel_rfl) hh
         ·
          have h0 := hHeld
          clear hHeld
          try simp only [e1,e2,e3]
          rw [if_pos (by rfl)]
          refine wp_load_row 35 (.tmp 11) rfl g11 rfl 35 (dv s3.d) (0,0) _ K11 Tryd.underlying35 rfl (info_dv _) ?_
          refine hK.out _ _ h0 (fun hHeld => ?_)
          clear hK K h0
          try simp only [Act.put,e1,e2,e3,e4,e5,e6]
          have hh := sw1 _ hHeld K8 K9 K10 K11
          rw [← hops,hfF] at hh
          exact wpAnyH_cast (by kernel_rfl) (by kernel_rfl) hh
         ·
          have h0 := hHeld
          clear hHeld
          try simp only [e1,e2,e3]
          rw [if_pos (by rfl)]
          refine wp_load_row 35 (.tmp 8) rfl g8 rfl 35 (dv s3.a) (0,0) _ K8 Tryd.underlying35 rfl (info_dv _) ?_
          refine hK.out _ _ h0 (fun hHeld => ?_)
          clear hK K h0
          try simp only [Act.put,e1,e2,e3,e4,e5,e6]
          have hh := sw2 _ hHeld K8 K9 K10 K11
          rw [← hops,hfF] at hh
          exact wpAnyH_cast (by kernel_rfl) (by kernel_rfl) hh
         ·
          have h0 := hHeld
          clear hHeld
          try simp only [e1,e2,e3]
          rw [if_pos (by rfl)]
          refine wp_load_row 35 (.tmp 9) rfl g9 rfl 35 (dv s3.b) (0,0) _ K9 Tryd.underlying35 rfl (info_dv _) ?_
          refine hK.out _ _ h0 (fun hHeld => ?_)
          clear hK K h0
          try simp only [Act.put,e1,e2,e3,e4,e5,e6]
          have hh := sw3 _ hHeld K8 K9 K10 K11
          rw [← hops,hfF] at hh
          exact wpAnyH_cast (by kernel_rfl) (by kernel_rfl) hh
       have hh := sw _ hHeld K8 K9 K10 K11
       rw [hfF] at hh
       exact hh
    | zero =>
     obtain ⟨sf,hsf⟩ : ∃ sf,sf = lgo Q0 x K 255 := ⟨_,rfl⟩
     rw [Nat.sub_zero,← hsf] at hF
     obtain ⟨ib,hib⟩ : ∃ ib,ib = sf.b ^ (PP - 2) := ⟨_,rfl⟩
     have hy : y = sf.a * ib := by rw [HY0.out,lad_eq hsf,hib]
     obtain ⟨m,hm⟩ : ∃ m,m = y.val := ⟨_,rfl⟩
     have hby := fun W => bytesD y W
     rw [← hm] at hby
     have HIB := Lib.hid hib
     have HY := Lib.hid hy
     have HM := Lib.hid hm
     have HBY := Lib.hid hby
     have HF := Lib.hid hF
     clear hsf hib hy hm hby hF
     go_wp2_with (fail)
     refine wp_region_held_drew (S := fun W => Fr w W [(g11,35,dv (sf).d),(g10,35,dv (sf).c),(g9,35,dv (sf).b),(g8,35,dv (sf).a),(g6,35,dv x),(g5,23,ks K)] [(w.heap.size + 1 + 1,23,32)]) (by kernel_rfl) ?_ (fun hHeld => ?_)
     ·
      exact HF.out.drew
     refine wpAnyH_take (i := 0) (v := .agg (dv sf.a)) rfl (by kernel_rfl) (by kernel_rfl) (by kernel_rfl) (fun _ _ _ h => h) (yields_row (by rfl) 35 (.tmp 8) rfl (g8) rfl 35 (dv sf.a) _ (fun W (h : Fr _ W _ _) => h.get (by simp)) Tryd.underlying35 rfl (info_dv _)) hHeld ?_
     try simp only [Act.put,e1,e2,e3,e4,e5,e6]
     refine wpAnyH_take (i := 1) (v := .agg (dv sf.b)) rfl (by kernel_rfl) (by kernel_rfl) (by kernel_rfl) (fun _ _ _ h => h) (yields_row (by rfl) 35 (.tmp 9) rfl (g9) rfl 35 (dv sf.b) _ (fun W (h : Fr _ W _ _) => h.get (by simp)) Tryd.underlying35 rfl (info_dv _)) hHeld ?_
     try simp only [Act.put,e1,e2,e3,e4,e5,e6]
     refine wpAnyH_ready (rs := [2]) (by kernel_rfl) (by simp) (AllReadyH.cons rfl (fun K hK => ?_) AllReadyH.nil)
     have h0 := hHeld
     clear hHeld
     try simp only [e1,e2,e3]
     have H0 := Lib.hid h0
     clear h0
     go_simp
     go_at_call 22
     refine (invD HIB.out _).mono ?_
     rintro e vv ⟨rfl,hb⟩
     have h1 := H0.out.ext hb
     clear hb H0
     go_wp2_with (fail)
     refine hK.out _ _ h1 (fun hHeld => ?_)
     clear hK K h1
     try simp only [Act.put,e1,e2,e3,e4,e5,e6]
     refine wpAnyH_ready (rs := [3]) (by kernel_rfl) (by simp) (AllReadyH.cons rfl (fun K hK => ?_) AllReadyH.nil)
     have h0 := hHeld
     clear hHeld
     try simp only [e1,e2,e3]
     have H0 := Lib.hid h0
     clear h0
     go_simp
     go_at_call 21
     refine (mulD HY.out _).mono ?_
     rintro e vv ⟨rfl,hb⟩
     have h1 := H0.out.ext hb
     clear hb H0
     go_wp2_with (fail)
     refine hK.out _ _ h1 (fun hHeld => ?_)
     clear hK K h1
     try simp only [Act.put,e1,e2,e3,e4,e5,e6]
     refine wpAnyH_ready (rs := [4]) (by kernel_rfl) (by simp) (AllReadyH.cons rfl (fun K hK => ?_) AllReadyH.nil)
     have h0 := hHeld
     clear hHeld
     try simp only [e1,e2,e3]
     have H0 := Lib.hid h0
     clear h0
     go_simp
     go_at_call 13
     refine (HBY.out _).mono ?_
     rintro e vv ⟨rfl,hb⟩
     have h1 := H0.out.ext hb
     clear hb H0
     go_wp2_with (fail)
     refine hK.out _ _ h1 (fun hHeld => ?_)
     clear hK K h1
     try simp only [Act.put,e1,e2,e3,e4,e5,e6]
     refine wpAnyH_ready (rs := [5]) (by kernel_rfl) (by simp) (AllReadyH.cons rfl (fun K hK => ?_) AllReadyH.nil)
     have h0 := hHeld
     clear hHeld
     try simp only [e1,e2,e3]
     rw [if_pos (by rfl)]
     obtain ⟨old,hold,kold⟩ := Fr.old h0 (g := w.heap.size + 1 + 1) (t := 23) (n := 32) (by simp)
     refine wp_store_row 23 (.tmp 4) (.tmp 115) rfl (w.heap.size + 1 + 1) (ks m) rfl rfl 23 old kold (info_ks _) hold (ks_one _) ?_
     refine hK.out _ _ (Fr.setAny h0 (g := w.heap.size + 1 + 1) (t := 23) (ks_size _) (by simp) (by simp <;> omega)) (fun hHeld => ?_)
     have kb := kold.setRow_same (ks m)
     clear hK K h0 hold
     try simp only [Act.put,e1,e2,e3,e4,e5,e6]
     refine wpAnyH_done (by kernel_rfl) ?_ _
     have HK := Lib.hid kb
     have HBL := Lib.hid hHeld.below
     clear kb hHeld
     go_wp2_with (fail)
     rw [← HM.out]
     exact key_end (g := w.heap.size + 1 + 1) rfl rfl rfl HK.out HBL.out
end Go.Proofs.YthlnnoajklmeiaaDoor
