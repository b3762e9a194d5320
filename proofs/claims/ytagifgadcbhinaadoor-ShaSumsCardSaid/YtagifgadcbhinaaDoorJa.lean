/- The document's Sum: what stays while it runs. -/
import Derived.Test.YtagifgadcbhinaaDoorHa
import Derived.Deep.DeepCutAuto
import Derived.Deep.CutBlock
namespace Go.Proofs.YtagifgadcbhinaaDoor
set_option linter.unusedVariables false
set_option linter.unusedSimpArgs false
open Go Go.RowKit

/-- Where Sum stands: the struct of two slices, boxed; its result's row; the message so far. -/
structure SG (w W : World) (cs0 : Array Value) (vb : Value) (lb : List UInt8) : Prop where
  below : Below w.heap.size w W
  box : Blk W w.heap.size 33 cs0
  out : ∃ cs : Array Value, cs.size = 64 ∧ Blk W (w.heap.size + 1) 27 cs
  b : OwnB W (w.heap.size + 2) 5 vb lb
  size : w.heap.size + 2 ≤ W.heap.size
section
variable {w W W' : World} {cs0 : Array Value} {vb : Value} {lb : List UInt8}
theorem OwnB.kept {base : Nat} {e : TypeId} {v : Value} {l : List UInt8} {row : Option Nat} (h : OwnB W base e v l) (hg : W.grownBy W' row) (hne : v.ownBlock = none ∨ v.ownBlock ≠ row) : OwnB W' base e v l := World.ownsRow.kept h hg hne
theorem OwnB.ext {base : Nat} {e : TypeId} {v : Value} {l : List UInt8} (h : OwnB W base e v l) (hb : Below W.heap.size W W') : OwnB W' base e v l :=
  h.kept (grown_of_below hb none) (by cases h2 : v.ownBlock with | none => exact .inl rfl | some g => exact .inr (by simp))
theorem SG.ext (h : SG w W cs0 vb lb) (hb : Below W.heap.size W W') : SG w W' cs0 vb lb := by
  obtain ⟨cs, e, k⟩ := h.out
  exact ⟨h.below.trans (hb.mono h.below.size), h.box.below hb h.box.lt, ⟨cs, e, k.below hb k.lt⟩, h.b.ext hb, Nat.le_trans h.size hb.size⟩
theorem SG.drew (h : SG w W cs0 vb lb) : SG w W.drew cs0 vb lb := h.ext (Below.refl _ _).drew
theorem SG.alloc (h : SG w W cs0 vb lb) (o : Obj) : SG w (W.alloc o) cs0 vb lb := h.ext ((Below.refl _ _).alloc (Nat.le_refl _) o)
theorem SG.app (h : SG w W cs0 vb lb) {v : Value} {l : List UInt8} (hg : W.grownBy W' vb.ownBlock) (ho : OwnB W' (w.heap.size + 2) 5 v l) : SG w W' cs0 v l := by
  obtain ⟨cs, e, k⟩ := h.out
  have hlo : ∀ g, vb.ownBlock = some g → w.heap.size + 2 ≤ g := fun g e => (h.b.own e).1
  exact ⟨h.below.grown hg h.below.size (fun g e => by have := hlo g e; omega), h.box.grown hg (fun e => by have := hlo _ e.symm; omega), ⟨cs, e, k.grown hg (fun e => by have := hlo _ e.symm; omega)⟩, ho, Nat.le_trans h.size hg.size⟩
end
theorem padz_zero (l : List UInt8) : padz l 0 = l ++ [128] := rfl
theorem Below.none {w w' : World} (h : w.grownBy w' none) : Below w.heap.size w w' := (Below.refl _ _).grown h (Nat.le_refl _) (fun g e => by cases e)
theorem bs_new1 (w : World) (t : TypeId) (x : UInt8) : BS (w.alloc (.cells #[.int .u8 (x.toNat : Int)] t)) (w.heap.size + 1) (some ⟨w.heap.size, 0, none⟩) 1 1 [x] := BS.ofBlk (t := t) (l := [x]) (Blk.new w t _) 1 rfl _ (by omega)
theorem bs_newv (w : World) (t : TypeId) (v : Int) (x : UInt8) (hv : v = (x.toNat : Int)) : BS (w.alloc (.cells #[.int .u8 v] t)) (w.heap.size + 1) (some ⟨w.heap.size, 0, none⟩) 1 1 [x] := by subst hv; exact bs_new1 w t x
theorem own_lenB {W : World} {base : Nat} {e : TypeId} {v : Value} {l : List UInt8} {n : Nat} (h : OwnB W base e v l) (hn : l.length = n) : ∃ A c, v = .slice A n c ∧ BS W W.heap.size A n c l := by
  obtain ⟨A, m, c, e1, h1, _⟩ := h.form
  have := h1.len
  rw [hn] at this
  subst this
  exact ⟨A, c, e1, h1⟩
theorem zero_w8 (w : World) : (zeroValue 38).run Tryd.prog w = .ok (.agg (us (fill HS 0))) w := by kernel_rfl
/-- How many noughts are wanted before the length. -/
theorem padz_test (l : List UInt8) {k : Nat} (hk : k ≤ padL l.length - 17) : (l.length + 1 + k) % 128 = 112 ↔ k = padL l.length - 17 := by
  have h1 := padL_cases l.length
  constructor <;> intro h <;> omega
theorem pad_room (l : List UInt8) : padL l.length - 17 ≤ 127 := by have h1 := padL_cases l.length; omega
theorem u8_of (x : Nat) (h : x < 256) : ((UInt8.ofNat x).toNat : Int) = (x : Int) := by rw [UInt8.toNat_ofNat', Nat.mod_eq_of_lt h]
theorem size_u64t : (Tryd.prog.info? 35).map (·.size) = some 1 := by kernel_rfl
theorem us_toL (l : List Nat) : (us l).toList = l.map (nc .u64) := rfl
theorem hs_row : ((us (fill HS 0)).toList.take 0 ++ HS.map (nc .u64) ++ (us (fill HS 0)).toList.drop (0 + (HS.map (nc .u64)).length)).toArray = us HS := by
  rw [List.drop_of_length_le (by rw [us_toL, List.length_map, List.length_map, fill_len (by omega)]; omega)]
  simp [us, ncs]
theorem us_srcs {W : World} {n c b o : Nat} {l : List Nat} {B : Nat} (h : US W B (some ⟨b, o, none⟩) n c l) (hn : 0 < n) : ∀ j v, (l.map (nc .u64))[j]? = some v → W.cell? ((⟨b, o, none⟩ : Addr).add j) = some v := us_cells h _ rfl
theorem nc_ones (l : List Nat) : ∀ v ∈ l.map (nc .u64), v.oneCell' = true := nc_all l
theorem pw_zero80 (bl : List Nat) : us (pw bl 0) = us (fill HK 0) := by rw [pw_zero]; simp [fill, HK_len]
theorem fill80 : (us (fill HK 0)).size = 80 := zlen_HK
theorem bs_cell {W : World} {B n c b o : Nat} {l : List UInt8} (h : BS W B (some ⟨b, o, none⟩) n c l) {i : Nat} (hi : i < n) : W.cell? ⟨b, o + i, none⟩ = some (.int .u8 (((bn l).getD i 0 : Nat) : Int)) := by
  obtain ⟨b', o', e, _, hc⟩ := h.at_ (by omega)
  injection e with e
  injection e with e1 e2
  subst e1; subst e2
  have hl : i < l.length := by have := h.len; omega
  rw [hc i l[i] (List.getElem?_eq_getElem hl)]
  simp [bn, List.getD, hl]
theorem block_get (l : List Nat) (q i : Nat) (h : i < 128) (h2 : 128 * q + 128 ≤ l.length) : ((l.drop (128 * q)).take 128).getD i 0 = l.getD (128 * q + i) 0 := by
  simp [List.getD, List.getElem?_take, h]
theorem block_len {l : List Nat} {q : Nat} (h2 : 128 * q + 128 ≤ l.length) : ((l.drop (128 * q)).take 128).length = 128 := by simp; omega
theorem blocks_succ (l : List Nat) (h : S8) (n : Nat) : blocks l h (n + 1) = press ((l.drop (128 * n)).take 128) (blocks l h n) := rfl
theorem sched_zero (l : List Nat) : sched l 0 = l := rfl
theorem sw_def (p : List Nat) (t : Nat) : sw p t = ((((p.getD (t - 16) 0 + mixN (p.getD (t - 15) 0) 1 8 7) % 18446744073709551616 + p.getD (t - 7) 0) % 18446744073709551616 + mixN (p.getD (t - 2) 0) 19 61 6) % 18446744073709551616) := by unfold sw; rfl
theorem addS_comm (s t : S8) : addS s t = addS t s := by simp only [addS, Nat.add_comm]
theorem z64_fill {R : List Nat} (h : R.length = 64) : z64 = fill R 0 := by rw [fill, h]; rfl
theorem build_w8 (a b c d e f g h : Int) (w : World) : (Instr.build 38 #[(0, .int .u64 a), (1, .int .u64 b), (2, .int .u64 c), (3, .int .u64 d), (4, .int .u64 e), (5, .int .u64 f), (6, .int .u64 g), (7, .int .u64 h)]).run Tryd.prog w = .ok (.agg #[.int .u64 a, .int .u64 b, .int .u64 c, .int .u64 d, .int .u64 e, .int .u64 f, .int .u64 g, .int .u64 h]) w := by kernel_rfl
theorem build8_step {ac : Act} {op : Oper} {x0 x1 x2 x3 x4 x5 x6 x7 : Operand} {a b c d e f g h : Int} (ho : op.op = .build 38 #[(0, x0), (1, x1), (2, x2), (3, x3), (4, x4), (5, x5), (6, x6), (7, x7)]) (h0 : ac.eval x0 = .int .u64 a) (h1 : ac.eval x1 = .int .u64 b) (h2 : ac.eval x2 = .int .u64 c) (h3 : ac.eval x3 = .int .u64 d) (h4 : ac.eval x4 = .int .u64 e) (h5 : ac.eval x5 = .int .u64 f) (h6 : ac.eval x6 = .int .u64 g) (h7 : ac.eval x7 = .int .u64 h) (w : World) :
    (execOp ac.eval op).run Tryd.prog w = .ok (.value (.agg #[.int .u64 a, .int .u64 b, .int .u64 c, .int .u64 d, .int .u64 e, .int .u64 f, .int .u64 g, .int .u64 h])) w := by
  simp [execOp, ho, h0, h1, h2, h3, h4, h5, h6, h7, build_w8, Result.andThen]
theorem us_lt {W : World} {B n c b o : Nat} {l : List Nat} (h : US W B (some ⟨b, o, none⟩) (n + 1) c l) : b < B := by
  obtain ⟨b', o', e, h2, _⟩ := h.at_ (by omega)
  injection e with e
  injection e with e1 e2
  subst e1
  exact h2
theorem us_cell' {W : World} {B n c b o : Nat} {l : List Nat} (h : US W B (some ⟨b, o, none⟩) n c l) {j : Nat} (hj : j < n) : W.cell? ⟨b, o + j, none⟩ = some (.int .u64 ((l.getD j 0 : Nat) : Int)) := by
  obtain ⟨b', o', e, _, hc⟩ := h.at_ (by omega)
  injection e with e
  injection e with e1 e2
  subst e1; subst e2
  exact hc j _ (by have := h.len; simp [List.getD, List.getElem?_eq_getElem (show j < l.length by omega)])
theorem blocks_zero (l : List Nat) (h : S8) : blocks l h 0 = h := rfl
attribute [local irreducible] HS HK fill z64 padL pad padz padl be full hashN hashS blocks pw wordsTo sched sw rnds press outS rorN mixN turnN
set_option maxRecDepth 100000 in
set_option maxHeartbeats 16000000 in
theorem rbsum_any (bS oS cS bK oK cK : Nat) (A : Option Addr) (n c B : Nat) (l : List UInt8) (w : World) (hm : BS w B A n c l) (hB : B ≤ w.heap.size) (hn : n ≤ 100000)
    (hS : US w w.heap.size (some ⟨bS, oS, none⟩) 8 cS HS) (hK : US w w.heap.size (some ⟨bK, oK, none⟩) 80 cK HK) :
    Calls Tryd.prog 16 #[.agg #[.slice (some ⟨bS, oS, none⟩) 8 cS, .slice (some ⟨bK, oK, none⟩) 80 cK], .slice A n c] w (BytesRow (hashN (bn l)) w) := by
  have hz64 : ∀ W : World, (zeroValue 27).run Tryd.prog W = .ok (.agg (ncs .u8 z64)) W := zero_long
  have hz8 : ∀ W : World, (zeroValue 38).run Tryd.prog W = .ok (.agg (us (fill HS 0))) W := zero_w8
  have hz80 : ∀ W : World, (zeroValue 41).run Tryd.prog W = .ok (.agg (us (fill HK 0))) W := zero_k80
  obtain ⟨cs0, hcs0⟩ : ∃ q : Array Value, q = #[.slice (some ⟨bS, oS, none⟩) 8 cS, .slice (some ⟨bK, oK, none⟩) 80 cK] := ⟨_, rfl⟩
  have hsg : SG w ((w.alloc (.cells cs0 33)).alloc (.cells (ncs .u8 z64) 27)) cs0 (.slice none 0 0) [] :=
    ⟨((Below.refl _ _).alloc (Nat.le_refl _) _).alloc (by simp) _, (Blk.new _ _ _).alloc _, ⟨_, by rw [ncs_size, z64_len], Blk.new' _ _ _ _ (by simp)⟩, OwnB.nil _ _ _, by simp⟩
  have HM := Lib.hid hm
  have HSG := Lib.hid hsg
  have HSS := Lib.hid hS
  have HKK := Lib.hid hK
  have HLN := Lib.hid hm.len
  have hcap := hm.cap
  obtain ⟨R, hR⟩ : ∃ R, R = hashN (bn l) := ⟨_, rfl⟩
  rw [← hR]
  have HR := Lib.hid hR
  rw [← hcs0]
  have HCS := Lib.hid hcs0
  clear hm hsg hS hK hR hcs0
  go_enter Tryd.func16, Tryd.ntmps16
  have hm0 := HM.out.below (HSG.out.below.mono hB)
  go_wp2_with (at_builtin; first | (refine wpList_app_own rfl (.const (.slice none 0 0)) (.tmp 22) 22 rfl 5 Tryd.underlying22 info_u8h (w.heap.size + 2) (.slice none 0 0) [] rfl HSG.out.b B n c A l rfl hm0 (by simp; omega) HSG.out.size ?_; intro v1 w1 hown1 hg1 hat1; rw [List.nil_append] at hown1; have HS1 := Lib.hid (HSG.out.app hg1 hown1); clear hown1 hg1 hat1) | (refine wpList_app_own rfl (.tmp 23) (.tmp 24) 22 rfl 5 Tryd.underlying22 info_u8h (w.heap.size + 2) v1 l rfl (HS1.out.alloc _).b (w1.heap.size + 1) 1 1 (some ⟨w1.heap.size, 0, none⟩) [128] rfl (by exact bs_newv w1 5 128 128 rfl) (by rw [HLN.out]; omega) (by exact (HS1.out.alloc _).size) ?_; intro v2 w2 hown2 hg2 hat2; have HS2 := Lib.hid ((HS1.out.alloc _).app hg2 hown2); clear hown2 hg2 hat2))
  have hs2 := HS2.out
  rw [← padz_zero] at hs2
  have HS3 := Lib.hid hs2
  clear hs2 HS1 HS2 HSG hm0
  obtain ⟨Z, hZ⟩ : ∃ Z, Z = padL l.length - 17 := ⟨_, rfl⟩
  have HZ := Lib.hid hZ
  have hZr := pad_room l
  rw [← hZ] at hZr
  have hZt := fun k hk => padz_test l (k := k) hk
  rw [← hZ, HLN.out] at hZt
  have HZT := Lib.hid hZt
  clear hZ hZt
  go_loopw [5] (fun v wq => ∃ k : Nat, k ≤ Z ∧ SG w wq cs0 v (padz l k)) (fun v _ => n + 1 + Z - lenV v)
  case atStart => exact ⟨0, by omega, HS3.out⟩
  case round =>
    clear HS3
    obtain ⟨k, hk, hS⟩ := hrel
    have hpl : (padz l k).length = n + 1 + k := by rw [padz_len, HLN.out]
    obtain ⟨n5, hn5⟩ : ∃ q, q = n + 1 + k := ⟨_, rfl⟩
    rw [← hn5] at hpl
    obtain ⟨A5, c5, rfl, hbs5⟩ := own_lenB hS.b hpl
    have hcap5 := hbs5.cap
    have HW := Lib.hid hS
    have HPL := Lib.hid hpl
    have HN5 := Lib.hid hn5
    have hn5b : n5 ≤ 200000 := by omega
    clear hS hbs5 hpl hn5
    by_cases hlt : k < Z
    · have hne : ¬ ((n5 : Int) % 128 = 112) := by
        have h1 := HZT.out k hk
        have h2 := HN5.out
        omega
      have hpa := padz_app l k 1
      have HPA := Lib.hid hpa
      clear hpa
      go_wp2_with (at_builtin; refine wpList_app_own rfl (.tmp 30) (.tmp 31) 22 rfl 5 Tryd.underlying22 info_u8h (w.heap.size + 2) (.slice A5 n5 c5) (padz l k) rfl (HW.out.alloc _).b (wr.heap.size + 1) 1 1 (some ⟨wr.heap.size, 0, none⟩) [0] rfl (by exact bs_newv wr 5 0 0 rfl) (by rw [HPL.out]; omega) (by exact (HW.out.alloc _).size) ?_; intro v1 w1 hown1 hg1 hat1; have HS1 := Lib.hid ((HW.out.alloc _).app hg1 hown1); clear hown1 hg1 hat1)
      have hs1 := HS1.out
      rw [show [(0 : UInt8)] = List.replicate 1 0 from rfl, HPA.out] at hs1
      obtain ⟨A6, c6, e6, _⟩ := own_lenB hs1.b (padz_len l (k + 1))
      subst e6
      have HS1 := Lib.hid hs1
      clear hs1
      go_round
      case rel => exact ⟨k + 1, by omega, HS1.out⟩
      case measure =>
        have h2 := HN5.out
        simp [lenV]
        rw [HLN.out]
        omega
    · obtain rfl : k = Z := by omega
      have heq : (n5 : Int) % 128 = 112 := by
        have h1 := HZT.out k hk
        have h2 := HN5.out
        omega
      obtain ⟨v3, w3, hr3, hown3, hg3, hat3⟩ := run_app_zerosB (P := Tryd.prog) (w := wr) 22 3 22 5 .i64 Tryd.underlying22 Tryd.underlying3 info_u8h (w.heap.size + 2) (.slice A5 n5 c5) (padz l k) HW.out.b (by rw [HPL.out]; omega) (by rw [HPL.out]; omega) HW.out.size
      have hs3 := HW.out.app hg3 hown3
      rw [padz_app, HZ.out, ← padl_zero] at hs3
      have HS3 := Lib.hid hs3
      clear hown3 hg3 hat3 hs3 HW
      have hw8 : IntKind.u64.wrap ((n : Int) * 8) = ((8 * n : Nat) : Int) := by rw [IntKind.wrap_u64]; omega
      go_wp2_with (at_builtin; refine Lib.wpList_append_run _ rfl (.tmp 33) (.const (.int .i64 8)) 22 3 rfl _ _ rfl rfl v3 w3 hr3 ?_)
      clear hr3 HZT HPL HN5 hn5b heq hcap5 hw8
      go_loopw [7, 5] (fun iv v wq => ∃ (j : Nat) (z : Int), iv = .int .i64 z ∧ z = (j : Int) - 1 ∧ j ≤ 8 ∧ SG w wq cs0 v (padl l (8 - j))) (fun iv _ _ => (intOf iv + 1).toNat)
      case atStart => exact ⟨8, 7, rfl, rfl, by omega, HS3.out⟩
      case round =>
        clear HS3
        obtain ⟨j, z, rfl, hz, hj, hS⟩ := hrel
        rcases Nat.eq_zero_or_pos j with h0 | h0
        · subst h0
          obtain rfl : z = -1 := by omega
          clear hz hj
          have HW := Lib.hid hS
          clear hS
          have hpl : (padl l 8).length = n + padL n := by rw [padl_len l (by omega), HLN.out]; have := padL_le n; omega
          have hpb := padL_cases n
          obtain ⟨Nb, hNb⟩ : ∃ q, n + padL n = 128 * q := ⟨(n + padL n) / 128, by have := pad_whole n; omega⟩
          rw [hNb] at hpl
          have hNbb : Nb ≤ 2000 := by omega
          have hfl := padl_all l (by rw [HLN.out]; omega)
          obtain ⟨F, hFd⟩ : ∃ q, q = padl l 8 := ⟨_, rfl⟩
          rw [show 8 - 0 = 8 from rfl, ← hFd] at HW
          rw [← hFd] at hpl hfl
          obtain ⟨N, hN⟩ : ∃ q, q = 128 * Nb := ⟨_, rfl⟩
          rw [← hN] at hpl
          have hNp : 0 < N := by have := padL_le n; omega
          obtain ⟨Ab, cb, rfl, hbs⟩ := own_lenB HW.out.b hpl
          have HBS := Lib.hid hbs
          have HFL := Lib.hid hfl
          have HPL := Lib.hid hpl
          have HNN := Lib.hid hN
          have hcb := hbs.cap
          have c0 := (HW.out.alloc (.cells (us (fill HS 0)) 38)).drew.box.cell 0
          have hc0 : cs0[0]? = some (.slice (some ⟨bS, oS, none⟩) 8 cS) := by rw [HCS.out]; rfl
          rw [hc0] at c0
          have kh := (Blk.new wr 38 (us (fill HS 0))).drew
          have hsr := us_srcs (HSS.out.below ((HW.out.alloc (.cells (us (fill HS 0)) 38)).drew.below)) (by omega)
          have HKH := Lib.hid kh
          have HSR := Lib.hid hsr
          clear hpl hfl hFd hN hbs hpb hNb hc0 kh hsr
          go_wp2_with (fail)
          refine wp_region_held_drew (S := fun W => W.cell? ⟨w.heap.size, 0, none⟩ = some (.slice (some ⟨bS, oS, none⟩) 8 cS)) (by kernel_rfl) ?_ (fun hHeld => ?_)
          · exact c0
          refine wpAnyH_take (i := 0) (v := ?_) rfl (by kernel_rfl) (by kernel_rfl) (by kernel_rfl) (fun _ _ _ h => h) (Or.inl ⟨by rfl, ?_⟩) hHeld ?_
          rotate_left
          · (intro W hSw; (try dsimp only at hSw); (try simp only [List.getElem_toArray, List.getElem_cons_succ, List.getElem_cons_zero]); go_simp; try with_reducible rfl)
          try simp only [Act.put, List.getElem_toArray, List.getElem_cons_succ, List.getElem_cons_zero, List.setIfInBounds_toArray, List.set_cons_zero, List.set_cons_succ]
          refine wpAnyH_take (i := 1) (v := ?_) rfl (by kernel_rfl) (by kernel_rfl) (by kernel_rfl) (fun _ _ _ h => h) (Or.inl ⟨by rfl, ?_⟩) hHeld ?_
          rotate_left
          · (intro W hSw; (try dsimp only at hSw); (try simp only [List.getElem_toArray, List.getElem_cons_succ, List.getElem_cons_zero]); go_simp; try with_reducible rfl)
          try simp only [Act.put, List.getElem_toArray, List.getElem_cons_succ, List.getElem_cons_zero, List.setIfInBounds_toArray, List.set_cons_zero, List.set_cons_succ]
          refine wpAnyH_take (i := 2) (v := ?_) rfl (by kernel_rfl) (by kernel_rfl) (by kernel_rfl) (fun _ _ _ h => h) (Or.inl ⟨by rfl, ?_⟩) hHeld ?_
          rotate_left
          · (intro W hSw; (try dsimp only at hSw); (try simp only [List.getElem_toArray, List.getElem_cons_succ, List.getElem_cons_zero]); go_simp; try with_reducible rfl)
          try simp only [Act.put, List.getElem_toArray, List.getElem_cons_succ, List.getElem_cons_zero, List.setIfInBounds_toArray, List.set_cons_zero, List.set_cons_succ]
          refine wpAnyH_ready (rs := [3]) (by kernel_rfl) (by simp) (AllReadyH.cons rfl (fun K hK => ?_) AllReadyH.nil)
          have h0 := hHeld
          clear hHeld
          try simp only [List.getElem_toArray, List.getElem_cons_succ, List.getElem_cons_zero]
          rw [if_pos (by rfl)]
          refine step_copy_row (.tmp 52) (.tmp 54) 31 31 rfl 35 Tryd.underlying31 size_u64t 8 8 8 cS wr.heap.size 0 ⟨bS, oS, none⟩ (by rfl) (by rfl) (us (fill HS 0)) 38 HKH.out (HS.map (nc .u64)) (by rw [List.length_map, HS_len]; rfl) HSR.out (by rw [List.length_map, HS_len, zlen_HS]; omega) (nc_ones HS) 8 (by rw [List.length_map, HS_len]) ?_
          rw [hs_row]
          have f9 := ((Fr.start wr).row (us (fill HS 0)) 38 (g := wr.heap.size) rfl).drew.setRowHead (by simp) (by simp) (us HS) (Nat.le_refl _)
          have F9 := Lib.hid f9
          clear f9
          have h1 : ((wr.alloc (.cells (us (fill HS 0)) 38)).drew.setRow wr.heap.size (us HS)).cell? ⟨w.heap.size, 0, none⟩ = some (.slice (some ⟨bS, oS, none⟩) 8 cS) := (F9.out.below.cell (p := ⟨w.heap.size, 0, none⟩) (by have := HW.out.size; show w.heap.size < _; omega)).trans (by rw [HW.out.box.cell, HCS.out]; rfl)
          refine hK.out _ _ h1 (fun hHeld => ?_)
          clear hK K h0 h1 HKH HSR hHeld
          try simp only [Act.put, List.getElem_toArray, List.getElem_cons_succ, List.getElem_cons_zero, List.setIfInBounds_toArray, List.set_cons_zero, List.set_cons_succ]
          refine wpAnyH_done (by kernel_rfl) ?_ _
          go_wp2_with (fail)
          try simp only [show ((8 : Nat) : Int) = (8 : Int) from rfl]
          generalize wr = w9 at *
          obtain ⟨bb, ob, eb, hbb, _⟩ := HBS.out.at_ hNp
          subst eb
          have hszw : w.heap.size + 2 ≤ w9.heap.size := HW.out.size
          go_loopw [9] (fun iv wq => ∃ q a : Nat, iv = .int .i64 (a : Int) ∧ Hid (a = 128 * q) ∧ q ≤ Nb ∧ Fr w9 wq [(w9.heap.size, 38, us (blocks (bn F) H0 q).l)] []) (fun iv _ => N - (intOf iv).toNat)
          case atStart => exact ⟨0, 0, rfl, Lib.hid rfl, by omega, by rw [blocks_zero, H0_l]; exact F9.out⟩
          case round =>
            clear F9
            obtain ⟨q, a, rfl, ha, hq, hF⟩ := hrel
            by_cases hlt : q < Nb
            · generalize wr = wc at *
              have hFnl : (bn F).length = N := by rw [bn_len, HPL.out]
              have haN : a + 128 ≤ N := by have := HNN.out; have := ha.out; omega
              have hNl : N ≤ 300000 := by have := HNN.out; omega
              obtain ⟨bl, ebl⟩ : ∃ b, b = ((bn F).drop (128 * q)).take 128 := ⟨_, rfl⟩
              have hbl : bl.length = 128 := by rw [ebl]; exact block_len (by rw [hFnl]; have := ha.out; omega)
              have hb256 : ∀ x ∈ bl, x < 256 := fun x hx => by rw [ebl] at hx; exact bn_lt F x (List.mem_of_mem_drop (List.mem_of_mem_take hx))
              have hbc : ∀ i, i < 128 → w9.cell? ⟨bb, ob + (a + i), none⟩ = some (.int .u8 ((bl.getD i 0 : Nat) : Int)) := fun i hi => by
                rw [bs_cell HBS.out (by omega), ebl, block_get _ _ _ hi (by rw [hFnl]; have := ha.out; omega), ha.out]
              obtain ⟨h, eh⟩ : ∃ h, h = blocks (bn F) H0 q := ⟨_, rfl⟩
              have hok : h.ok := by rw [eh]; exact blocks_ok H0_ok q
              have hnx := blocks_succ (bn F) H0 q
              rw [← eh] at hF hnx
              rw [← ebl] at hnx
              have f10 := hF.row (us (pw bl 0)) 41 (g := wc.heap.size) rfl
              rw [pw_zero80] at f10
              have hw9 := (hF.get (g := w9.heap.size) (t := 38) (cs := us h.l) (by simp)).lt
              have F10 := Lib.hid f10
              have HBC := Lib.hid hbc
              have HNX := Lib.hid hnx
              have HB256 := Lib.hid hb256
              have HBL := Lib.hid hbl
              have HOK := Lib.hid hok
              clear hF f10 hbc hnx hb256 hbl ebl eh hok hFnl
              go_wp2_with (fail)
              rw [decide_eq_true (show a < N by omega)]
              go_loopw [11] (fun iv wd => ∃ i : Nat, iv = .int .i64 (i : Int) ∧ i ≤ 128 ∧ Fr w9 wd [(wc.heap.size, 41, us (pw bl i)), (w9.heap.size, 38, us h.l)] []) (fun iv _ => 128 - (intOf iv).toNat)
              case atStart => exact ⟨0, rfl, by omega, by rw [pw_zero80]; exact F10.out⟩
              case round =>
                clear F10
                obtain ⟨i, rfl, hi, hF⟩ := hrel
                by_cases hlt2 : i < 128
                · have hst := pw_step HBL.out hlt2
                  have hrm := pw_room HB256.out HBL.out hlt2
                  obtain ⟨q8, hq8⟩ : ∃ x, x = i / 8 := ⟨_, rfl⟩
                  rw [← hq8] at hst hrm
                  have hq8b : q8 < 80 := by omega
                  have hq8i : (q8 : Int) < 80 := by omega
                  obtain ⟨x, hx⟩ : ∃ x, x = (pw bl i).getD q8 0 := ⟨_, rfl⟩
                  obtain ⟨y, hy⟩ : ∃ y, y = bl.getD i 0 := ⟨_, rfl⟩
                  have cb := (hF.below.cell (p := ⟨bb, ob + (a + i), none⟩) hbb).trans (HBC.out i hlt2)
                  rw [← hy] at cb hst hrm
                  rw [← hx] at hst hrm
                  obtain ⟨s, hs⟩ : ∃ s, s = x * 256 + y := ⟨_, rfl⟩
                  rw [← hs] at hst hrm
                  have kw := hF.get (g := wc.heap.size) (t := 41) (cs := us (pw bl i)) (by simp)
                  have cw := kw.cell q8
                  rw [us_getD (by rw [pw_len]; exact hq8b), ← hx] at cw
                  have zw := kw.frozen q8
                  have zwd := kw.drew.frozen q8
                  have f2 := hF.setHead (by simp <;> omega) (by simp) q8 (.int .u64 (s : Int)) (by omega)
                  rw [us_set, hst] at f2
                  obtain ⟨ai, hai⟩ : ∃ t, t = a + i := ⟨_, rfl⟩
                  rw [← hai] at cb
                  have i1 : (i : Int) / 8 = (q8 : Int) := by omega
                  have i2 : IntKind.i64.wrap ((a : Int) + (i : Int)) = (ai : Int) := by rw [IntKind.wrap_i64]; omega
                  have i3 : ai < N := by omega
                  have i4 : IntKind.i64.wrap (q8 : Int) = (q8 : Int) := by rw [IntKind.wrap_i64]; omega
                  have m1 : IntKind.u64.wrap ((x : Int) * 256) = ((x * 256 : Nat) : Int) := by rw [IntKind.wrap_u64]; omega
                  obtain ⟨x6, hx6⟩ : ∃ t, t = x * 256 := ⟨_, rfl⟩
                  rw [← hx6] at m1
                  have m2 : IntKind.u64.wrap ((x6 : Int) + (y : Int)) = (s : Int) := by rw [IntKind.wrap_u64]; omega
                  have m3 : IntKind.u64.wrap (y : Int) = (y : Int) := by rw [IntKind.wrap_u64]; omega
                  have F2 := Lib.hid f2
                  clear hF f2 kw hst hrm hx hy hs hq8 hai hx6
                  as_aux_lemma =>
                    go_wp2_with (fail)
                    refine wp_region_held_drew (S := fun W => W.cell? ⟨bb, ob + ai, none⟩ = some (.int .u8 (y : Int))) (by kernel_rfl) ?_ (fun hHeld => ?_)
                    · exact cb
                    refine wpAnyH_take (i := 0) (v := ?_) rfl (by kernel_rfl) (by kernel_rfl) (by kernel_rfl) (fun _ _ _ h => h) (Or.inl ⟨by rfl, ?_⟩) hHeld ?_
                    rotate_left
                    · (intro W hSw; (try dsimp only at hSw); (try simp only [List.getElem_toArray, List.getElem_cons_succ, List.getElem_cons_zero]); go_simp; try with_reducible rfl)
                    try simp only [Act.put, List.getElem_toArray, List.getElem_cons_succ, List.getElem_cons_zero, List.setIfInBounds_toArray, List.set_cons_zero, List.set_cons_succ]
                    refine wpAnyH_take (i := 1) (v := ?_) rfl (by kernel_rfl) (by kernel_rfl) (by kernel_rfl) (fun _ _ _ h => h) (Or.inl ⟨by rfl, ?_⟩) hHeld ?_
                    rotate_left
                    · (intro W hSw; (try dsimp only at hSw); (try simp only [List.getElem_toArray, List.getElem_cons_succ, List.getElem_cons_zero]); go_simp; try with_reducible rfl)
                    try simp only [Act.put, List.getElem_toArray, List.getElem_cons_succ, List.getElem_cons_zero, List.setIfInBounds_toArray, List.set_cons_zero, List.set_cons_succ]
                    refine wpAnyH_take (i := 2) (v := ?_) rfl (by kernel_rfl) (by kernel_rfl) (by kernel_rfl) (fun _ _ _ h => h) (Or.inl ⟨by rfl, ?_⟩) hHeld ?_
                    rotate_left
                    · (intro W hSw; (try dsimp only at hSw); (try simp only [List.getElem_toArray, List.getElem_cons_succ, List.getElem_cons_zero]); go_simp; try with_reducible rfl)
                    try simp only [Act.put, List.getElem_toArray, List.getElem_cons_succ, List.getElem_cons_zero, List.setIfInBounds_toArray, List.set_cons_zero, List.set_cons_succ]
                    refine wpAnyH_take (i := 3) (v := ?_) rfl (by kernel_rfl) (by kernel_rfl) (by kernel_rfl) (fun _ _ _ h => h) (Or.inl ⟨by rfl, ?_⟩) hHeld ?_
                    rotate_left
                    · (intro W hSw; (try dsimp only at hSw); (try simp only [List.getElem_toArray, List.getElem_cons_succ, List.getElem_cons_zero]); go_simp; try with_reducible rfl)
                    try simp only [Act.put, List.getElem_toArray, List.getElem_cons_succ, List.getElem_cons_zero, List.setIfInBounds_toArray, List.set_cons_zero, List.set_cons_succ]
                    refine wpAnyH_take (i := 4) (v := ?_) rfl (by kernel_rfl) (by kernel_rfl) (by kernel_rfl) (fun _ _ _ h => h) (Or.inl ⟨by rfl, ?_⟩) hHeld ?_
                    rotate_left
                    · (intro W hSw; (try dsimp only at hSw); (try simp only [List.getElem_toArray, List.getElem_cons_succ, List.getElem_cons_zero]); go_simp; try with_reducible rfl)
                    try simp only [Act.put, List.getElem_toArray, List.getElem_cons_succ, List.getElem_cons_zero, List.setIfInBounds_toArray, List.set_cons_zero, List.set_cons_succ]
                    refine wpAnyH_take (i := 7) (v := ?_) rfl (by kernel_rfl) (by kernel_rfl) (by kernel_rfl) (fun _ _ _ h => h) (Or.inl ⟨by rfl, ?_⟩) hHeld ?_
                    rotate_left
                    · (intro W hSw; (try dsimp only at hSw); (try simp only [List.getElem_toArray, List.getElem_cons_succ, List.getElem_cons_zero]); go_simp; try with_reducible rfl)
                    try simp only [Act.put, List.getElem_toArray, List.getElem_cons_succ, List.getElem_cons_zero, List.setIfInBounds_toArray, List.set_cons_zero, List.set_cons_succ]
                    refine wpAnyH_take (i := 8) (v := ?_) rfl (by kernel_rfl) (by kernel_rfl) (by kernel_rfl) (fun _ _ _ h => h) (Or.inl ⟨by rfl, ?_⟩) hHeld ?_
                    rotate_left
                    · (intro W hSw; (try dsimp only at hSw); (try simp only [List.getElem_toArray, List.getElem_cons_succ, List.getElem_cons_zero]); go_simp; try with_reducible rfl)
                    try simp only [Act.put, List.getElem_toArray, List.getElem_cons_succ, List.getElem_cons_zero, List.setIfInBounds_toArray, List.set_cons_zero, List.set_cons_succ]
                    refine wpAnyH_take (i := 9) (v := ?_) rfl (by kernel_rfl) (by kernel_rfl) (by kernel_rfl) (fun _ _ _ h => h) (Or.inl ⟨by rfl, ?_⟩) hHeld ?_
                    rotate_left
                    · (intro W hSw; (try dsimp only at hSw); (try simp only [List.getElem_toArray, List.getElem_cons_succ, List.getElem_cons_zero]); go_simp; try with_reducible rfl)
                    try simp only [Act.put, List.getElem_toArray, List.getElem_cons_succ, List.getElem_cons_zero, List.setIfInBounds_toArray, List.set_cons_zero, List.set_cons_succ]
                    refine wpAnyH_take (i := 10) (v := ?_) rfl (by kernel_rfl) (by kernel_rfl) (by kernel_rfl) (fun _ _ _ h => h) (Or.inl ⟨by rfl, ?_⟩) hHeld ?_
                    rotate_left
                    · (intro W hSw; (try dsimp only at hSw); (try simp only [List.getElem_toArray, List.getElem_cons_succ, List.getElem_cons_zero]); go_simp; try with_reducible rfl)
                    try simp only [Act.put, List.getElem_toArray, List.getElem_cons_succ, List.getElem_cons_zero, List.setIfInBounds_toArray, List.set_cons_zero, List.set_cons_succ]
                    refine wpAnyH_take (i := 11) (v := ?_) rfl (by kernel_rfl) (by kernel_rfl) (by kernel_rfl) (fun _ _ _ h => h) (Or.inl ⟨by rfl, ?_⟩) hHeld ?_
                    rotate_left
                    · (intro W hSw; (try dsimp only at hSw); (try simp only [List.getElem_toArray, List.getElem_cons_succ, List.getElem_cons_zero]); go_simp; try with_reducible rfl)
                    try simp only [Act.put, List.getElem_toArray, List.getElem_cons_succ, List.getElem_cons_zero, List.setIfInBounds_toArray, List.set_cons_zero, List.set_cons_succ]
                    refine wpAnyH_take (i := 12) (v := ?_) rfl (by kernel_rfl) (by kernel_rfl) (by kernel_rfl) (fun _ _ _ h => h) (Or.inl ⟨by rfl, ?_⟩) hHeld ?_
                    rotate_left
                    · (intro W hSw; (try dsimp only at hSw); (try simp only [List.getElem_toArray, List.getElem_cons_succ, List.getElem_cons_zero]); go_simp; try with_reducible rfl)
                    try simp only [Act.put, List.getElem_toArray, List.getElem_cons_succ, List.getElem_cons_zero, List.setIfInBounds_toArray, List.set_cons_zero, List.set_cons_succ]
                    refine wpAnyH_take (i := 13) (v := ?_) rfl (by kernel_rfl) (by kernel_rfl) (by kernel_rfl) (fun _ _ _ h => h) (Or.inl ⟨by rfl, ?_⟩) hHeld ?_
                    rotate_left
                    · (intro W hSw; (try dsimp only at hSw); (try simp only [List.getElem_toArray, List.getElem_cons_succ, List.getElem_cons_zero]); go_simp; try with_reducible rfl)
                    try simp only [Act.put, List.getElem_toArray, List.getElem_cons_succ, List.getElem_cons_zero, List.setIfInBounds_toArray, List.set_cons_zero, List.set_cons_succ]
                    refine wpAnyH_ready (rs := [5]) (by kernel_rfl) (by simp) (AllReadyH.cons rfl (fun K hK => ?_) AllReadyH.nil)
                    have h0 := hHeld
                    clear hHeld
                    try simp only [List.getElem_toArray, List.getElem_cons_succ, List.getElem_cons_zero]
                    go_simp
                    refine hK.out _ _ (h0) (fun hHeld => ?_)
                    clear hK K h0
                    try simp only [Act.put, List.getElem_toArray, List.getElem_cons_succ, List.getElem_cons_zero, List.setIfInBounds_toArray, List.set_cons_zero, List.set_cons_succ]
                    refine wpAnyH_take (i := 6) (v := ?_) rfl (by kernel_rfl) (by kernel_rfl) (by kernel_rfl) (fun _ _ _ h => h) (Or.inl ⟨by rfl, ?_⟩) hHeld ?_
                    rotate_left
                    · (intro W hSw; (try dsimp only at hSw); (try simp only [List.getElem_toArray, List.getElem_cons_succ, List.getElem_cons_zero]); go_simp; try with_reducible rfl)
                    try simp only [Act.put, List.getElem_toArray, List.getElem_cons_succ, List.getElem_cons_zero, List.setIfInBounds_toArray, List.set_cons_zero, List.set_cons_succ]
                    refine wpAnyH_take (i := 14) (v := ?_) rfl (by kernel_rfl) (by kernel_rfl) (by kernel_rfl) (fun _ _ _ h => h) (Or.inl ⟨by rfl, ?_⟩) hHeld ?_
                    rotate_left
                    · (intro W hSw; (try dsimp only at hSw); (try simp only [List.getElem_toArray, List.getElem_cons_succ, List.getElem_cons_zero]); go_simp; try with_reducible rfl)
                    try simp only [Act.put, List.getElem_toArray, List.getElem_cons_succ, List.getElem_cons_zero, List.setIfInBounds_toArray, List.set_cons_zero, List.set_cons_succ]
                    refine wpAnyH_take (i := 15) (v := ?_) rfl (by kernel_rfl) (by kernel_rfl) (by kernel_rfl) (fun _ _ _ h => h) (Or.inl ⟨by rfl, ?_⟩) hHeld ?_
                    rotate_left
                    · (intro W hSw; (try dsimp only at hSw); (try simp only [List.getElem_toArray, List.getElem_cons_succ, List.getElem_cons_zero]); go_simp; try with_reducible rfl)
                    try simp only [Act.put, List.getElem_toArray, List.getElem_cons_succ, List.getElem_cons_zero, List.setIfInBounds_toArray, List.set_cons_zero, List.set_cons_succ]
                    refine wpAnyH_ready (rs := [16]) (by kernel_rfl) (by simp) (AllReadyH.cons rfl (fun K hK => ?_) AllReadyH.nil)
                    have h0 := hHeld
                    clear hHeld
                    try simp only [List.getElem_toArray, List.getElem_cons_succ, List.getElem_cons_zero]
                    go_simp
                    refine hK.out _ _ ((World.cell?_setCell_far _ _ _ _ (by simp <;> omega)).trans h0) (fun hHeld => ?_)
                    clear hK K h0
                    try simp only [Act.put, List.getElem_toArray, List.getElem_cons_succ, List.getElem_cons_zero, List.setIfInBounds_toArray, List.set_cons_zero, List.set_cons_succ]
                    refine wpAnyH_done (by kernel_rfl) ?_ _
                    go_wp2_with (fail)
                    go_roundw
                    case rel => exact ⟨i + 1, by go_num, by omega, F2.out.drew⟩
                    case measure =>
                      show 128 - ((i : Int) + 1).toNat < 128 - ((i : Int)).toNat
                      omega
                · obtain rfl : i = 128 := by omega
                  simp only [show ((128 : Nat) : Int) = 128 from rfl]
                  rw [pw_all HBL.out, ← sched_zero (wordsTo bl 16)] at hF
                  have F11 := Lib.hid hF
                  clear hF
                  have HWL := Lib.hid (wordsTo_lt HB256.out HBL.out (n := 16) (by omega))
                  have HWN := Lib.hid (show (wordsTo bl 16).length = 80 from wordsTo_len (by omega))
                  have HW0 : Hid (wordsTo bl 16 = wordsTo bl 16) := Lib.hid rfl
                  obtain ⟨W0, hW0⟩ : ∃ q, q = wordsTo bl 16 := ⟨_, rfl⟩
                  clear HW0
                  have HW0 := Lib.hid hW0
                  rw [← hW0] at F11 HWL HWN
                  clear hW0
                  go_wp2_with (fail)
                  go_loopw [12] (fun iv we => ∃ j : Nat, iv = .int .i64 (j : Int) ∧ 16 ≤ j ∧ j ≤ 80 ∧ Fr w9 we [(wc.heap.size, 41, us (sched W0 (j - 16))), (w9.heap.size, 38, us h.l)] []) (fun iv _ => 80 - (intOf iv).toNat)
                  case atStart => exact ⟨16, rfl, by omega, by omega, F11.out⟩
                  case round =>
                    clear F11
                    obtain ⟨j, rfl, hj16, hj, hF⟩ := hrel
                    have hlen : (sched W0 (j - 16)).length = 80 := by rw [sched_len, HWN.out]
                    have hwl : ∀ x ∈ sched W0 (j - 16), x < 18446744073709551616 := sched_lt HWL.out _
                    have hstep : sched W0 (j - 16 + 1) = (sched W0 (j - 16)).set (16 + (j - 16)) (sw (sched W0 (j - 16)) (16 + (j - 16))) := sched_succ _ _
                    rw [show 16 + (j - 16) = j by omega] at hstep
                    by_cases hlt3 : j < 80
                    · have hsw := sw_def (sched W0 (j - 16)) j
                      have hnx : sched W0 (j + 1 - 16) = sched W0 (j - 16 + 1) := by rw [show j + 1 - 16 = j - 16 + 1 by omega]
                      rw [hstep] at hnx
                      generalize sched W0 (j - 16) = p at *
                      have kb := hF.get (g := wc.heap.size) (t := 41) (cs := us p) (by simp)
                      have b15 : p.getD (j - 15) 0 < 18446744073709551616 := hwl _ (getD_mem (by omega))
                      have b2 : p.getD (j - 2) 0 < 18446744073709551616 := hwl _ (getD_mem (by omega))
                      have c16 := kb.cell (j - 16)
                      rw [us_getD (by omega)] at c16
                      have c15 := kb.cell (j - 15)
                      rw [us_getD (by omega)] at c15
                      have c7 := kb.cell (j - 7)
                      rw [us_getD (by omega)] at c7
                      have c2 := kb.cell (j - 2)
                      rw [us_getD (by omega)] at c2
                      have c0 := kb.cell j
                      rw [us_getD (by omega)] at c0
                      have z1 := kb.frozen j
                      have w1 := rorN_lt (n := 1) b15
                      have w8 := rorN_lt (n := 8) b15
                      have w19 := rorN_lt (n := 19) b2
                      have w61 := rorN_lt (n := 61) b2
                      have x1 := u64_xor_nat _ _ w1 w8
                      have x2 := u64_xor_nat _ _ (xor_lt w1 w8) (div_lt (n := 2 ^ 7) b15)
                      have x3 := u64_xor_nat _ _ w19 w61
                      have x4 := u64_xor_nat _ _ (xor_lt w19 w61) (div_lt (n := 2 ^ 6) b2)
                      have r1 := fun W => rror_any (p.getD (j - 15) 0) 1 W b15 (by omega) (by omega)
                      have r8 := fun W => rror_any (p.getD (j - 15) 0) 8 W b15 (by omega) (by omega)
                      have r19 := fun W => rror_any (p.getD (j - 2) 0) 19 W b2 (by omega) (by omega)
                      have r61 := fun W => rror_any (p.getD (j - 2) 0) 61 W b2 (by omega) (by omega)
                      rw [mix_def, mix_def] at hsw
                      generalize p.getD (j - 16) 0 = v16 at *
                      generalize p.getD (j - 7) 0 = v7 at *
                      generalize p.getD j 0 = v0 at *
                      obtain ⟨y1, ey1⟩ : ∃ q, q = rorN (p.getD (j - 15) 0) 1 := ⟨_, rfl⟩
                      obtain ⟨y8, ey8⟩ : ∃ q, q = rorN (p.getD (j - 15) 0) 8 := ⟨_, rfl⟩
                      obtain ⟨y19, ey19⟩ : ∃ q, q = rorN (p.getD (j - 2) 0) 19 := ⟨_, rfl⟩
                      obtain ⟨y61, ey61⟩ : ∃ q, q = rorN (p.getD (j - 2) 0) 61 := ⟨_, rfl⟩
                      rw [← ey1] at r1 x1 x2 hsw
                      rw [← ey8] at r8 x1 x2 hsw
                      rw [← ey19] at r19 x3 x4 hsw
                      rw [← ey61] at r61 x3 x4 hsw
                      clear ey1 ey8 ey19 ey61 w1 w8 w19 w61
                      have d7 : ((p.getD (j - 15) 0 : Nat) : Int) / 128 = ((p.getD (j - 15) 0 / 2 ^ 7 : Nat) : Int) := rfl
                      have d6 : ((p.getD (j - 2) 0 : Nat) : Int) / 64 = ((p.getD (j - 2) 0 / 2 ^ 6 : Nat) : Int) := rfl
                      generalize p.getD (j - 15) 0 = v15 at *
                      generalize p.getD (j - 2) 0 = v2 at *
                      generalize v15 / 2 ^ 7 = s7 at *
                      generalize v2 / 2 ^ 6 = s6 at *
                      generalize y1 ^^^ y8 = y18 at *
                      generalize y18 ^^^ s7 = n1 at *
                      generalize y19 ^^^ y61 = y196 at *
                      generalize y196 ^^^ s6 = n2 at *
                      obtain ⟨u1, e1⟩ : ∃ x, x = (v16 + n1) % 18446744073709551616 := ⟨_, rfl⟩
                      have a1 := add_nat v16 n1
                      rw [← e1] at a1 hsw
                      obtain ⟨u2, e2⟩ : ∃ x, x = (u1 + v7) % 18446744073709551616 := ⟨_, rfl⟩
                      have a2 := add_nat u1 v7
                      rw [← e2] at a2 hsw
                      obtain ⟨u3, e3⟩ : ∃ x, x = (u2 + n2) % 18446744073709551616 := ⟨_, rfl⟩
                      have a3 := add_nat u2 n2
                      rw [← e3] at a3 hsw
                      have f2 := hF.setHead (by simp <;> omega) (by simp) j (.int .u64 (u3 : Int)) (by omega)
                      rw [hsw] at hnx
                      rw [us_set, ← hnx] at f2
                      have F2 := Lib.hid f2
                      clear e1 e2 e3 f2 hsw hnx hstep hwl hF
                      have i16a : (16 : Int) ≤ (j : Int) := by omega
                      have i16b : (j : Int) - 16 < 80 := by omega
                      have i16w : IntKind.i64.wrap ((j : Int) - 16) = (j : Int) - 16 := by rw [IntKind.wrap_i64]; omega
                      have i16n : ((j : Int) - 16).toNat = j - 16 := by omega
                      have i15a : (15 : Int) ≤ (j : Int) := by omega
                      have i15b : (j : Int) - 15 < 80 := by omega
                      have i15w : IntKind.i64.wrap ((j : Int) - 15) = (j : Int) - 15 := by rw [IntKind.wrap_i64]; omega
                      have i15n : ((j : Int) - 15).toNat = j - 15 := by omega
                      have i7a : (7 : Int) ≤ (j : Int) := by omega
                      have i7b : (j : Int) - 7 < 80 := by omega
                      have i7w : IntKind.i64.wrap ((j : Int) - 7) = (j : Int) - 7 := by rw [IntKind.wrap_i64]; omega
                      have i7n : ((j : Int) - 7).toNat = j - 7 := by omega
                      have i2a : (2 : Int) ≤ (j : Int) := by omega
                      have i2b : (j : Int) - 2 < 80 := by omega
                      have i2w : IntKind.i64.wrap ((j : Int) - 2) = (j : Int) - 2 := by rw [IntKind.wrap_i64]; omega
                      have i2n : ((j : Int) - 2).toNat = j - 2 := by omega
                      have R1 := Lib.hid r1
                      have R8 := Lib.hid r8
                      have R19 := Lib.hid r19
                      have R61 := Lib.hid r61
                      clear r1 r8 r19 r61 kb
                      as_aux_lemma =>
                        go_wp2_with (fail)
                        refine wp_region_held_drew (S := fun W => W.cell? ⟨wc.heap.size, j - 15, none⟩ = some (.int .u64 (v15 : Int)) ∧ W.cell? ⟨wc.heap.size, j - 2, none⟩ = some (.int .u64 (v2 : Int))) (by kernel_rfl) ?_ (fun hHeld => ?_)
                        · exact ⟨c15, c2⟩
                        refine wpAnyH_take (i := 0) (v := ?_) rfl (by kernel_rfl) (by kernel_rfl) (by kernel_rfl) (fun _ _ _ h => h) (Or.inl ⟨by rfl, ?_⟩) hHeld ?_
                        rotate_left
                        · (intro W hSw; (try dsimp only at hSw); (try simp only [List.getElem_toArray, List.getElem_cons_succ, List.getElem_cons_zero]); go_simp; try with_reducible rfl)
                        try simp only [Act.put, List.getElem_toArray, List.getElem_cons_succ, List.getElem_cons_zero, List.setIfInBounds_toArray, List.set_cons_zero, List.set_cons_succ]
                        refine wpAnyH_take (i := 1) (v := ?_) rfl (by kernel_rfl) (by kernel_rfl) (by kernel_rfl) (fun _ _ _ h => h) (Or.inl ⟨by rfl, ?_⟩) hHeld ?_
                        rotate_left
                        · (intro W hSw; (try dsimp only at hSw); (try simp only [List.getElem_toArray, List.getElem_cons_succ, List.getElem_cons_zero]); go_simp; try with_reducible rfl)
                        try simp only [Act.put, List.getElem_toArray, List.getElem_cons_succ, List.getElem_cons_zero, List.setIfInBounds_toArray, List.set_cons_zero, List.set_cons_succ]
                        refine wpAnyH_take (i := 2) (v := ?_) rfl (by kernel_rfl) (by kernel_rfl) (by kernel_rfl) (fun _ _ _ h => h) (Or.inl ⟨by rfl, ?_⟩) hHeld ?_
                        rotate_left
                        · (intro W hSw; (try dsimp only at hSw); (try simp only [List.getElem_toArray, List.getElem_cons_succ, List.getElem_cons_zero]); go_simp; try with_reducible rfl)
                        try simp only [Act.put, List.getElem_toArray, List.getElem_cons_succ, List.getElem_cons_zero, List.setIfInBounds_toArray, List.set_cons_zero, List.set_cons_succ]
                        refine wpAnyH_take (i := 3) (v := ?_) rfl (by kernel_rfl) (by kernel_rfl) (by kernel_rfl) (fun _ _ _ h => h) (Or.inl ⟨by rfl, ?_⟩) hHeld ?_
                        rotate_left
                        · (intro W hSw; (try dsimp only at hSw); (try simp only [List.getElem_toArray, List.getElem_cons_succ, List.getElem_cons_zero]); go_simp; try with_reducible rfl)
                        try simp only [Act.put, List.getElem_toArray, List.getElem_cons_succ, List.getElem_cons_zero, List.setIfInBounds_toArray, List.set_cons_zero, List.set_cons_succ]
                        refine wpAnyH_take (i := 4) (v := ?_) rfl (by kernel_rfl) (by kernel_rfl) (by kernel_rfl) (fun _ _ _ h => h) (Or.inl ⟨by rfl, ?_⟩) hHeld ?_
                        rotate_left
                        · (intro W hSw; (try dsimp only at hSw); (try simp only [List.getElem_toArray, List.getElem_cons_succ, List.getElem_cons_zero]); go_simp; try with_reducible rfl)
                        try simp only [Act.put, List.getElem_toArray, List.getElem_cons_succ, List.getElem_cons_zero, List.setIfInBounds_toArray, List.set_cons_zero, List.set_cons_succ]
                        refine wpAnyH_take (i := 5) (v := ?_) rfl (by kernel_rfl) (by kernel_rfl) (by kernel_rfl) (fun _ _ _ h => h) (Or.inl ⟨by rfl, ?_⟩) hHeld ?_
                        rotate_left
                        · (intro W hSw; (try dsimp only at hSw); (try simp only [List.getElem_toArray, List.getElem_cons_succ, List.getElem_cons_zero]); go_simp; try with_reducible rfl)
                        try simp only [Act.put, List.getElem_toArray, List.getElem_cons_succ, List.getElem_cons_zero, List.setIfInBounds_toArray, List.set_cons_zero, List.set_cons_succ]
                        refine wpAnyH_take (i := 6) (v := ?_) rfl (by kernel_rfl) (by kernel_rfl) (by kernel_rfl) (fun _ _ _ h => h) (Or.inl ⟨by rfl, ?_⟩) hHeld ?_
                        rotate_left
                        · (intro W hSw; (try dsimp only at hSw); (try simp only [List.getElem_toArray, List.getElem_cons_succ, List.getElem_cons_zero]); go_simp; try with_reducible rfl)
                        try simp only [Act.put, List.getElem_toArray, List.getElem_cons_succ, List.getElem_cons_zero, List.setIfInBounds_toArray, List.set_cons_zero, List.set_cons_succ]
                        refine wpAnyH_take (i := 7) (v := ?_) rfl (by kernel_rfl) (by kernel_rfl) (by kernel_rfl) (fun _ _ _ h => h) (Or.inl ⟨by rfl, ?_⟩) hHeld ?_
                        rotate_left
                        · (intro W hSw; (try dsimp only at hSw); (try simp only [List.getElem_toArray, List.getElem_cons_succ, List.getElem_cons_zero]); go_simp; try with_reducible rfl)
                        try simp only [Act.put, List.getElem_toArray, List.getElem_cons_succ, List.getElem_cons_zero, List.setIfInBounds_toArray, List.set_cons_zero, List.set_cons_succ]
                        refine wpAnyH_take (i := 8) (v := ?_) rfl (by kernel_rfl) (by kernel_rfl) (by kernel_rfl) (fun _ _ _ h => h) (Or.inl ⟨by rfl, ?_⟩) hHeld ?_
                        rotate_left
                        · (intro W hSw; (try dsimp only at hSw); (try simp only [List.getElem_toArray, List.getElem_cons_succ, List.getElem_cons_zero]); go_simp; try with_reducible rfl)
                        try simp only [Act.put, List.getElem_toArray, List.getElem_cons_succ, List.getElem_cons_zero, List.setIfInBounds_toArray, List.set_cons_zero, List.set_cons_succ]
                        refine wpAnyH_take (i := 9) (v := ?_) rfl (by kernel_rfl) (by kernel_rfl) (by kernel_rfl) (fun _ _ _ h => h) (Or.inl ⟨by rfl, ?_⟩) hHeld ?_
                        rotate_left
                        · (intro W hSw; (try dsimp only at hSw); (try simp only [List.getElem_toArray, List.getElem_cons_succ, List.getElem_cons_zero]); go_simp; try with_reducible rfl)
                        try simp only [Act.put, List.getElem_toArray, List.getElem_cons_succ, List.getElem_cons_zero, List.setIfInBounds_toArray, List.set_cons_zero, List.set_cons_succ]
                        refine wpAnyH_done (by kernel_rfl) ?_ _
                        go_wp2_with (fail)
                        refine wp_region_held_drew (S := fun W => W.cell? ⟨wc.heap.size, j - 16, none⟩ = some (.int .u64 (v16 : Int)) ∧ W.cell? ⟨wc.heap.size, j - 7, none⟩ = some (.int .u64 (v7 : Int))) (by kernel_rfl) ?_ (fun hHeld => ?_)
                        · exact ⟨c16, c7⟩
                        refine wpAnyH_take (i := 0) (v := ?_) rfl (by kernel_rfl) (by kernel_rfl) (by kernel_rfl) (fun _ _ _ h => h) (Or.inl ⟨by rfl, ?_⟩) hHeld ?_
                        rotate_left
                        · (intro W hSw; (try dsimp only at hSw); (try simp only [List.getElem_toArray, List.getElem_cons_succ, List.getElem_cons_zero]); go_simp; try with_reducible rfl)
                        try simp only [Act.put, List.getElem_toArray, List.getElem_cons_succ, List.getElem_cons_zero, List.setIfInBounds_toArray, List.set_cons_zero, List.set_cons_succ]
                        refine wpAnyH_take (i := 1) (v := ?_) rfl (by kernel_rfl) (by kernel_rfl) (by kernel_rfl) (fun _ _ _ h => h) (Or.inl ⟨by rfl, ?_⟩) hHeld ?_
                        rotate_left
                        · (intro W hSw; (try dsimp only at hSw); (try simp only [List.getElem_toArray, List.getElem_cons_succ, List.getElem_cons_zero]); go_simp; try with_reducible rfl)
                        try simp only [Act.put, List.getElem_toArray, List.getElem_cons_succ, List.getElem_cons_zero, List.setIfInBounds_toArray, List.set_cons_zero, List.set_cons_succ]
                        refine wpAnyH_take (i := 2) (v := ?_) rfl (by kernel_rfl) (by kernel_rfl) (by kernel_rfl) (fun _ _ _ h => h) (Or.inl ⟨by rfl, ?_⟩) hHeld ?_
                        rotate_left
                        · (intro W hSw; (try dsimp only at hSw); (try simp only [List.getElem_toArray, List.getElem_cons_succ, List.getElem_cons_zero]); go_simp; try with_reducible rfl)
                        try simp only [Act.put, List.getElem_toArray, List.getElem_cons_succ, List.getElem_cons_zero, List.setIfInBounds_toArray, List.set_cons_zero, List.set_cons_succ]
                        refine wpAnyH_take (i := 3) (v := ?_) rfl (by kernel_rfl) (by kernel_rfl) (by kernel_rfl) (fun _ _ _ h => h) (Or.inl ⟨by rfl, ?_⟩) hHeld ?_
                        rotate_left
                        · (intro W hSw; (try dsimp only at hSw); (try simp only [List.getElem_toArray, List.getElem_cons_succ, List.getElem_cons_zero]); go_simp; try with_reducible rfl)
                        try simp only [Act.put, List.getElem_toArray, List.getElem_cons_succ, List.getElem_cons_zero, List.setIfInBounds_toArray, List.set_cons_zero, List.set_cons_succ]
                        refine wpAnyH_take (i := 4) (v := ?_) rfl (by kernel_rfl) (by kernel_rfl) (by kernel_rfl) (fun _ _ _ h => h) (Or.inl ⟨by rfl, ?_⟩) hHeld ?_
                        rotate_left
                        · (intro W hSw; (try dsimp only at hSw); (try simp only [List.getElem_toArray, List.getElem_cons_succ, List.getElem_cons_zero]); go_simp; try with_reducible rfl)
                        try simp only [Act.put, List.getElem_toArray, List.getElem_cons_succ, List.getElem_cons_zero, List.setIfInBounds_toArray, List.set_cons_zero, List.set_cons_succ]
                        refine wpAnyH_take (i := 5) (v := ?_) rfl (by kernel_rfl) (by kernel_rfl) (by kernel_rfl) (fun _ _ _ h => h) (Or.inl ⟨by rfl, ?_⟩) hHeld ?_
                        rotate_left
                        · (intro W hSw; (try dsimp only at hSw); (try simp only [List.getElem_toArray, List.getElem_cons_succ, List.getElem_cons_zero]); go_simp; try with_reducible rfl)
                        try simp only [Act.put, List.getElem_toArray, List.getElem_cons_succ, List.getElem_cons_zero, List.setIfInBounds_toArray, List.set_cons_zero, List.set_cons_succ]
                        refine wpAnyH_take (i := 7) (v := ?_) rfl (by kernel_rfl) (by kernel_rfl) (by kernel_rfl) (fun _ _ _ h => h) (Or.inl ⟨by rfl, ?_⟩) hHeld ?_
                        rotate_left
                        · (intro W hSw; (try dsimp only at hSw); (try simp only [List.getElem_toArray, List.getElem_cons_succ, List.getElem_cons_zero]); go_simp; try with_reducible rfl)
                        try simp only [Act.put, List.getElem_toArray, List.getElem_cons_succ, List.getElem_cons_zero, List.setIfInBounds_toArray, List.set_cons_zero, List.set_cons_succ]
                        refine wpAnyH_take (i := 10) (v := ?_) rfl (by kernel_rfl) (by kernel_rfl) (by kernel_rfl) (fun _ _ _ h => h) (Or.inl ⟨by rfl, ?_⟩) hHeld ?_
                        rotate_left
                        · (intro W hSw; (try dsimp only at hSw); (try simp only [List.getElem_toArray, List.getElem_cons_succ, List.getElem_cons_zero]); go_simp; try with_reducible rfl)
                        try simp only [Act.put, List.getElem_toArray, List.getElem_cons_succ, List.getElem_cons_zero, List.setIfInBounds_toArray, List.set_cons_zero, List.set_cons_succ]
                        refine wpAnyH_take (i := 11) (v := ?_) rfl (by kernel_rfl) (by kernel_rfl) (by kernel_rfl) (fun _ _ _ h => h) (Or.inl ⟨by rfl, ?_⟩) hHeld ?_
                        rotate_left
                        · (intro W hSw; (try dsimp only at hSw); (try simp only [List.getElem_toArray, List.getElem_cons_succ, List.getElem_cons_zero]); go_simp; try with_reducible rfl)
                        try simp only [Act.put, List.getElem_toArray, List.getElem_cons_succ, List.getElem_cons_zero, List.setIfInBounds_toArray, List.set_cons_zero, List.set_cons_succ]
                        refine wpAnyH_take (i := 14) (v := ?_) rfl (by kernel_rfl) (by kernel_rfl) (by kernel_rfl) (fun _ _ _ h => h) (Or.inl ⟨by rfl, ?_⟩) hHeld ?_
                        rotate_left
                        · (intro W hSw; (try dsimp only at hSw); (try simp only [List.getElem_toArray, List.getElem_cons_succ, List.getElem_cons_zero]); go_simp; try with_reducible rfl)
                        try simp only [Act.put, List.getElem_toArray, List.getElem_cons_succ, List.getElem_cons_zero, List.setIfInBounds_toArray, List.set_cons_zero, List.set_cons_succ]
                        refine wpAnyH_take (i := 15) (v := ?_) rfl (by kernel_rfl) (by kernel_rfl) (by kernel_rfl) (fun _ _ _ h => h) (Or.inl ⟨by rfl, ?_⟩) hHeld ?_
                        rotate_left
                        · (intro W hSw; (try dsimp only at hSw); (try simp only [List.getElem_toArray, List.getElem_cons_succ, List.getElem_cons_zero]); go_simp; try with_reducible rfl)
                        try simp only [Act.put, List.getElem_toArray, List.getElem_cons_succ, List.getElem_cons_zero, List.setIfInBounds_toArray, List.set_cons_zero, List.set_cons_succ]
                        refine wpAnyH_take (i := 16) (v := ?_) rfl (by kernel_rfl) (by kernel_rfl) (by kernel_rfl) (fun _ _ _ h => h) (Or.inl ⟨by rfl, ?_⟩) hHeld ?_
                        rotate_left
                        · (intro W hSw; (try dsimp only at hSw); (try simp only [List.getElem_toArray, List.getElem_cons_succ, List.getElem_cons_zero]); go_simp; try with_reducible rfl)
                        try simp only [Act.put, List.getElem_toArray, List.getElem_cons_succ, List.getElem_cons_zero, List.setIfInBounds_toArray, List.set_cons_zero, List.set_cons_succ]
                        refine wpAnyH_take (i := 17) (v := ?_) rfl (by kernel_rfl) (by kernel_rfl) (by kernel_rfl) (fun _ _ _ h => h) (Or.inl ⟨by rfl, ?_⟩) hHeld ?_
                        rotate_left
                        · (intro W hSw; (try dsimp only at hSw); (try simp only [List.getElem_toArray, List.getElem_cons_succ, List.getElem_cons_zero]); go_simp; try with_reducible rfl)
                        try simp only [Act.put, List.getElem_toArray, List.getElem_cons_succ, List.getElem_cons_zero, List.setIfInBounds_toArray, List.set_cons_zero, List.set_cons_succ]
                        refine wpAnyH_take (i := 19) (v := ?_) rfl (by kernel_rfl) (by kernel_rfl) (by kernel_rfl) (fun _ _ _ h => h) (Or.inl ⟨by rfl, ?_⟩) hHeld ?_
                        rotate_left
                        · (intro W hSw; (try dsimp only at hSw); (try simp only [List.getElem_toArray, List.getElem_cons_succ, List.getElem_cons_zero]); go_simp; try with_reducible rfl)
                        try simp only [Act.put, List.getElem_toArray, List.getElem_cons_succ, List.getElem_cons_zero, List.setIfInBounds_toArray, List.set_cons_zero, List.set_cons_succ]
                        refine wpAnyH_take (i := 21) (v := ?_) rfl (by kernel_rfl) (by kernel_rfl) (by kernel_rfl) (fun _ _ _ h => h) (Or.inl ⟨by rfl, ?_⟩) hHeld ?_
                        rotate_left
                        · (intro W hSw; (try dsimp only at hSw); (try simp only [List.getElem_toArray, List.getElem_cons_succ, List.getElem_cons_zero]); go_simp; try with_reducible rfl)
                        try simp only [Act.put, List.getElem_toArray, List.getElem_cons_succ, List.getElem_cons_zero, List.setIfInBounds_toArray, List.set_cons_zero, List.set_cons_succ]
                        refine wpAnyH_take (i := 24) (v := ?_) rfl (by kernel_rfl) (by kernel_rfl) (by kernel_rfl) (fun _ _ _ h => h) (Or.inl ⟨by rfl, ?_⟩) hHeld ?_
                        rotate_left
                        · (intro W hSw; (try dsimp only at hSw); (try simp only [List.getElem_toArray, List.getElem_cons_succ, List.getElem_cons_zero]); go_simp; try with_reducible rfl)
                        try simp only [Act.put, List.getElem_toArray, List.getElem_cons_succ, List.getElem_cons_zero, List.setIfInBounds_toArray, List.set_cons_zero, List.set_cons_succ]
                        refine wpAnyH_take (i := 25) (v := ?_) rfl (by kernel_rfl) (by kernel_rfl) (by kernel_rfl) (fun _ _ _ h => h) (Or.inl ⟨by rfl, ?_⟩) hHeld ?_
                        rotate_left
                        · (intro W hSw; (try dsimp only at hSw); (try simp only [List.getElem_toArray, List.getElem_cons_succ, List.getElem_cons_zero]); go_simp; try with_reducible rfl)
                        try simp only [Act.put, List.getElem_toArray, List.getElem_cons_succ, List.getElem_cons_zero, List.setIfInBounds_toArray, List.set_cons_zero, List.set_cons_succ]
                        refine wpAnyH_ready (rs := [6]) (by kernel_rfl) (by simp) (AllReadyH.cons rfl (fun K hK => ?_) AllReadyH.nil)
                        have h0 := hHeld
                        clear hHeld
                        try simp only [List.getElem_toArray, List.getElem_cons_succ, List.getElem_cons_zero]
                        go_simp
                        go_at_call 22
                        refine (R1.out _).mono ?_
                        rintro e vv ⟨rfl, rfl⟩
                        go_wp2_with (fail)
                        refine hK.out _ _ h0 (fun hHeld => ?_)
                        clear hK K h0
                        try simp only [Act.put, List.getElem_toArray, List.getElem_cons_succ, List.getElem_cons_zero, List.setIfInBounds_toArray, List.set_cons_zero, List.set_cons_succ]
                        refine wpAnyH_ready (rs := [8]) (by kernel_rfl) (by simp) (AllReadyH.cons rfl (fun K hK => ?_) AllReadyH.nil)
                        have h0 := hHeld
                        clear hHeld
                        try simp only [List.getElem_toArray, List.getElem_cons_succ, List.getElem_cons_zero]
                        go_simp
                        go_at_call 22
                        refine (R8.out _).mono ?_
                        rintro e vv ⟨rfl, rfl⟩
                        go_wp2_with (fail)
                        refine hK.out _ _ h0 (fun hHeld => ?_)
                        clear hK K h0
                        try simp only [Act.put, List.getElem_toArray, List.getElem_cons_succ, List.getElem_cons_zero, List.setIfInBounds_toArray, List.set_cons_zero, List.set_cons_succ]
                        refine wpAnyH_take (i := 9) (v := ?_) rfl (by kernel_rfl) (by kernel_rfl) (by kernel_rfl) (fun _ _ _ h => h) (Or.inl ⟨by rfl, ?_⟩) hHeld ?_
                        rotate_left
                        · (intro W hSw; (try dsimp only at hSw); (try simp only [List.getElem_toArray, List.getElem_cons_succ, List.getElem_cons_zero]); go_simp; try with_reducible rfl)
                        try simp only [Act.put, List.getElem_toArray, List.getElem_cons_succ, List.getElem_cons_zero, List.setIfInBounds_toArray, List.set_cons_zero, List.set_cons_succ]
                        refine wpAnyH_take (i := 12) (v := ?_) rfl (by kernel_rfl) (by kernel_rfl) (by kernel_rfl) (fun _ _ _ h => h) (Or.inl ⟨by rfl, ?_⟩) hHeld ?_
                        rotate_left
                        · (intro W hSw; (try dsimp only at hSw); (try simp only [List.getElem_toArray, List.getElem_cons_succ, List.getElem_cons_zero]); go_simp; try with_reducible rfl)
                        try simp only [Act.put, List.getElem_toArray, List.getElem_cons_succ, List.getElem_cons_zero, List.setIfInBounds_toArray, List.set_cons_zero, List.set_cons_succ]
                        refine wpAnyH_take (i := 13) (v := ?_) rfl (by kernel_rfl) (by kernel_rfl) (by kernel_rfl) (fun _ _ _ h => h) (Or.inl ⟨by rfl, ?_⟩) hHeld ?_
                        rotate_left
                        · (intro W hSw; (try dsimp only at hSw); (try simp only [List.getElem_toArray, List.getElem_cons_succ, List.getElem_cons_zero]); go_simp; try with_reducible rfl)
                        try simp only [Act.put, List.getElem_toArray, List.getElem_cons_succ, List.getElem_cons_zero, List.setIfInBounds_toArray, List.set_cons_zero, List.set_cons_succ]
                        refine wpAnyH_take (i := 18) (v := ?_) rfl (by kernel_rfl) (by kernel_rfl) (by kernel_rfl) (fun _ _ _ h => h) (Or.inl ⟨by rfl, ?_⟩) hHeld ?_
                        rotate_left
                        · (intro W hSw; (try dsimp only at hSw); (try simp only [List.getElem_toArray, List.getElem_cons_succ, List.getElem_cons_zero]); go_simp; try with_reducible rfl)
                        try simp only [Act.put, List.getElem_toArray, List.getElem_cons_succ, List.getElem_cons_zero, List.setIfInBounds_toArray, List.set_cons_zero, List.set_cons_succ]
                        refine wpAnyH_ready (rs := [20]) (by kernel_rfl) (by simp) (AllReadyH.cons rfl (fun K hK => ?_) AllReadyH.nil)
                        have h0 := hHeld
                        clear hHeld
                        try simp only [List.getElem_toArray, List.getElem_cons_succ, List.getElem_cons_zero]
                        go_simp
                        go_at_call 22
                        refine (R19.out _).mono ?_
                        rintro e vv ⟨rfl, rfl⟩
                        go_wp2_with (fail)
                        refine hK.out _ _ h0 (fun hHeld => ?_)
                        clear hK K h0
                        try simp only [Act.put, List.getElem_toArray, List.getElem_cons_succ, List.getElem_cons_zero, List.setIfInBounds_toArray, List.set_cons_zero, List.set_cons_succ]
                        refine wpAnyH_ready (rs := [22]) (by kernel_rfl) (by simp) (AllReadyH.cons rfl (fun K hK => ?_) AllReadyH.nil)
                        have h0 := hHeld
                        clear hHeld
                        try simp only [List.getElem_toArray, List.getElem_cons_succ, List.getElem_cons_zero]
                        go_simp
                        go_at_call 22
                        refine (R61.out _).mono ?_
                        rintro e vv ⟨rfl, rfl⟩
                        go_wp2_with (fail)
                        refine hK.out _ _ h0 (fun hHeld => ?_)
                        clear hK K h0
                        try simp only [Act.put, List.getElem_toArray, List.getElem_cons_succ, List.getElem_cons_zero, List.setIfInBounds_toArray, List.set_cons_zero, List.set_cons_succ]
                        refine wpAnyH_take (i := 23) (v := ?_) rfl (by kernel_rfl) (by kernel_rfl) (by kernel_rfl) (fun _ _ _ h => h) (Or.inl ⟨by rfl, ?_⟩) hHeld ?_
                        rotate_left
                        · (intro W hSw; (try dsimp only at hSw); (try simp only [List.getElem_toArray, List.getElem_cons_succ, List.getElem_cons_zero]); go_simp; try with_reducible rfl)
                        try simp only [Act.put, List.getElem_toArray, List.getElem_cons_succ, List.getElem_cons_zero, List.setIfInBounds_toArray, List.set_cons_zero, List.set_cons_succ]
                        refine wpAnyH_take (i := 26) (v := ?_) rfl (by kernel_rfl) (by kernel_rfl) (by kernel_rfl) (fun _ _ _ h => h) (Or.inl ⟨by rfl, ?_⟩) hHeld ?_
                        rotate_left
                        · (intro W hSw; (try dsimp only at hSw); (try simp only [List.getElem_toArray, List.getElem_cons_succ, List.getElem_cons_zero]); go_simp; try with_reducible rfl)
                        try simp only [Act.put, List.getElem_toArray, List.getElem_cons_succ, List.getElem_cons_zero, List.setIfInBounds_toArray, List.set_cons_zero, List.set_cons_succ]
                        refine wpAnyH_take (i := 27) (v := ?_) rfl (by kernel_rfl) (by kernel_rfl) (by kernel_rfl) (fun _ _ _ h => h) (Or.inl ⟨by rfl, ?_⟩) hHeld ?_
                        rotate_left
                        · (intro W hSw; (try dsimp only at hSw); (try simp only [List.getElem_toArray, List.getElem_cons_succ, List.getElem_cons_zero]); go_simp; try with_reducible rfl)
                        try simp only [Act.put, List.getElem_toArray, List.getElem_cons_succ, List.getElem_cons_zero, List.setIfInBounds_toArray, List.set_cons_zero, List.set_cons_succ]
                        refine wpAnyH_take (i := 28) (v := ?_) rfl (by kernel_rfl) (by kernel_rfl) (by kernel_rfl) (fun _ _ _ h => h) (Or.inl ⟨by rfl, ?_⟩) hHeld ?_
                        rotate_left
                        · (intro W hSw; (try dsimp only at hSw); (try simp only [List.getElem_toArray, List.getElem_cons_succ, List.getElem_cons_zero]); go_simp; try with_reducible rfl)
                        try simp only [Act.put, List.getElem_toArray, List.getElem_cons_succ, List.getElem_cons_zero, List.setIfInBounds_toArray, List.set_cons_zero, List.set_cons_succ]
                        refine wpAnyH_ready (rs := [29]) (by kernel_rfl) (by simp) (AllReadyH.cons rfl (fun K hK => ?_) AllReadyH.nil)
                        have h0 := hHeld
                        clear hHeld
                        try simp only [List.getElem_toArray, List.getElem_cons_succ, List.getElem_cons_zero]
                        go_simp
                        refine hK.out _ _ (⟨(World.cell?_setCell_other _ _ _ _ (by simp <;> omega)).trans h0.1, (World.cell?_setCell_other _ _ _ _ (by simp <;> omega)).trans h0.2⟩) (fun hHeld => ?_)
                        clear hK K h0
                        try simp only [Act.put, List.getElem_toArray, List.getElem_cons_succ, List.getElem_cons_zero, List.setIfInBounds_toArray, List.set_cons_zero, List.set_cons_succ]
                        refine wpAnyH_done (by kernel_rfl) ?_ _
                        go_wp2_with (fail)
                        go_roundw
                        case rel => exact ⟨j + 1, by go_num, by omega, by omega, F2.out.drew.drew⟩
                        case measure =>
                          show 80 - ((j : Int) + 1).toNat < 80 - ((j : Int)).toNat
                          omega
                    · obtain rfl : j = 80 := by omega
                      simp only [show ((80 : Nat) : Int) = 80 from rfl]
                      clear hstep hwl
                      rw [show 80 - 16 = 64 by omega] at hF hlen
                      have hpr := press_def bl h
                      obtain ⟨Wl, hWl⟩ : ∃ q, q = sched W0 64 := ⟨_, rfl⟩
                      rw [← hWl] at hF hlen
                      have HWL2 := Lib.hid hWl
                      clear hWl hpr
                      generalize wr = we at *
                      have f15 := hF.row (us (fill HS 0)) 38 (g := we.heap.size) rfl
                      have k15 := f15.get (g := we.heap.size) (t := 38) (cs := us (fill HS 0)) (by simp)
                      have k8 := f15.get (g := w9.heap.size) (t := 38) (cs := us h.l) (by simp)
                      have k8a := hF.get (g := w9.heap.size) (t := 38) (cs := us h.l) (by simp)
                      have hgce := (hF.get (g := wc.heap.size) (t := 41) (cs := us Wl) (by simp)).lt
                      have f16 := f15.setRowHead (by simp <;> omega) (by simp) (us h.l) (by have := hF.size; omega)
                      have F16 := Lib.hid f16
                      have HZ8 := Lib.hid (show (us (fill HS 0)).size = (us h.l).size by rw [zlen_HS]; rfl)
                      have hwe := hF.size
                      clear f15 f16 hF
                      go_wp2_with (first | (refine wpList_load_row rfl 38 (.tmp 8) rfl (w9.heap.size) rfl 38 (us h.l) (0, 0) _ k8a Tryd.underlying38 rfl (info_us size_w8 rfl) ?_) | (refine wpList_load_row rfl 38 (.tmp 8) rfl (w9.heap.size) rfl 38 (us h.l) (0, 0) _ k8 Tryd.underlying38 rfl (info_us size_w8 rfl) ?_) | (refine wpList_store_row rfl 38 (.tmp 15) (.tmp 123) rfl (we.heap.size) (us h.l) rfl rfl 38 _ k15 (info_us size_w8 rfl) HZ8.out (us_one _) ?_))
                      clear k15 k8 k8a HZ8
                      go_loopw [16] (fun iv wf => ∃ (k : Nat) (S : S8), iv = .int .i64 (k : Int) ∧ k ≤ 80 ∧ Hid (S = rnds HK Wl h k) ∧ Fr w9 wf [(we.heap.size, 38, us S.l), (wc.heap.size, 41, us Wl), (w9.heap.size, 38, us h.l)] []) (fun iv _ => 80 - (intOf iv).toNat)
                      case atStart => exact ⟨0, h, rfl, by omega, Lib.hid (rnds_zero _ _ _).symm, F16.out⟩
                      case round =>
                        clear F16
                        obtain ⟨k, S, rfl, hk, hS, hF⟩ := hrel
                        have hSo : S.ok := by rw [hS.out]; exact rnds_ok HOK.out k
                        by_cases hlt4 : k < 80
                        · have hnx := rnds_succ HK Wl h k
                          rw [← hS.out] at hnx
                          obtain ⟨kk, ekk⟩ : ∃ q, q = HK.getD k 0 := ⟨_, rfl⟩
                          obtain ⟨ww, eww⟩ : ∃ q, q = Wl.getD k 0 := ⟨_, rfl⟩
                          have hwb := HW.out.below
                          have ckk0 : w.cell? ⟨bK, oK + k, none⟩ = some (.int .u64 (kk : Int)) := by rw [ekk]; exact us_cell' HKK.out hlt4
                          have hbK : bK < w.heap.size := us_lt HKK.out
                          have ckk : wr.cell? ⟨bK, oK + k, none⟩ = some (.int .u64 (kk : Int)) := (hF.below.cell (p := ⟨bK, oK + k, none⟩) (by show bK < _; omega)).trans ((hwb.cell (p := ⟨bK, oK + k, none⟩) hbK).trans ckk0)
                          have cB : wr.cell? ⟨w.heap.size, 1, none⟩ = some (.slice (some ⟨bK, oK, none⟩) 80 cK) := (hF.below.cell (p := ⟨w.heap.size, 1, none⟩) (by show w.heap.size < _; omega)).trans (by rw [HW.out.box.cell, HCS.out]; rfl)
                          have kw := hF.get (g := wc.heap.size) (t := 41) (cs := us Wl) (by simp)
                          have cw := kw.cell k
                          rw [us_getD (by omega), ← eww] at cw
                          rw [← ekk, ← eww] at hnx
                          have k9 := hF.get (g := we.heap.size) (t := 38) (cs := us S.l) (by simp)
                          obtain ⟨sa, sb, sc, sd, se, sf, sg, sh⟩ := S
                          obtain ⟨la, lb, lc, ld, le, lf, lg, lh⟩ := hSo
                          simp only at la lb lc ld le lf lg lh
                          have c0 := k9.cell 0
                          rw [us_at (i := 0) (x := sa) rfl] at c0
                          have c1 := k9.cell 1
                          rw [us_at (i := 1) (x := sb) rfl] at c1
                          have c2 := k9.cell 2
                          rw [us_at (i := 2) (x := sc) rfl] at c2
                          have c3 := k9.cell 3
                          rw [us_at (i := 3) (x := sd) rfl] at c3
                          have c4 := k9.cell 4
                          rw [us_at (i := 4) (x := se) rfl] at c4
                          have c5 := k9.cell 5
                          rw [us_at (i := 5) (x := sf) rfl] at c5
                          have c6 := k9.cell 6
                          rw [us_at (i := 6) (x := sg) rfl] at c6
                          have c7 := k9.cell 7
                          rw [us_at (i := 7) (x := sh) rfl] at c7
                          have r14 := fun W => rror_any se 14 W le (by omega) (by omega)
                          have r18 := fun W => rror_any se 18 W le (by omega) (by omega)
                          have r41 := fun W => rror_any se 41 W le (by omega) (by omega)
                          have r28 := fun W => rror_any sa 28 W la (by omega) (by omega)
                          have r34 := fun W => rror_any sa 34 W la (by omega) (by omega)
                          have r39 := fun W => rror_any sa 39 W la (by omega) (by omega)
                          have q14 := rorN_lt (n := 14) le
                          have q18 := rorN_lt (n := 18) le
                          have q41 := rorN_lt (n := 41) le
                          have q28 := rorN_lt (n := 28) la
                          have q34 := rorN_lt (n := 34) la
                          have q39 := rorN_lt (n := 39) la
                          have x1 := u64_xor_nat _ _ q14 q18
                          have x2 := u64_xor_nat _ _ (xor_lt q14 q18) q41
                          have x3 := u64_xor_nat _ _ q28 q34
                          have x4 := u64_xor_nat _ _ (xor_lt q28 q34) q39
                          obtain ⟨t1, et1⟩ : ∃ q, q = turnN se 14 18 41 := ⟨_, rfl⟩
                          obtain ⟨t2, et2⟩ : ∃ q, q = turnN sa 28 34 39 := ⟨_, rfl⟩
                          rw [show rorN se 14 ^^^ rorN se 18 ^^^ rorN se 41 = t1 by rw [et1, turn_def]] at x2
                          rw [show rorN sa 28 ^^^ rorN sa 34 ^^^ rorN sa 39 = t2 by rw [et2, turn_def]] at x4
                          generalize rorN se 14 = o14 at *
                          generalize rorN se 18 = o18 at *
                          generalize rorN se 41 = o41 at *
                          generalize rorN sa 28 = o28 at *
                          generalize rorN sa 34 = o34 at *
                          generalize rorN sa 39 = o39 at *
                          generalize o14 ^^^ o18 = o1418 at *
                          generalize o28 ^^^ o34 = o2834 at *
                          clear q14 q18 q41 q28 q34 q39
                          obtain ⟨p1, ep1⟩ : ∃ q, q = (sh + t1) % 18446744073709551616 := ⟨_, rfl⟩
                          have a1 := add_nat sh t1
                          rw [← ep1] at a1
                          obtain ⟨ef, eef⟩ : ∃ q, q = se &&& sf := ⟨_, rfl⟩
                          have b1 := u64_and_nat se sf le lf
                          rw [← eef] at b1
                          have lef : ef < 18446744073709551616 := by rw [eef]; exact and_lt le lf
                          obtain ⟨ne, ene⟩ : ∃ q, q = 18446744073709551615 - se := ⟨_, rfl⟩
                          have b0 := not_nat se le
                          rw [← ene] at b0
                          have lne : ne < 18446744073709551616 := by omega
                          obtain ⟨ng, eng⟩ : ∃ q, q = ne &&& sg := ⟨_, rfl⟩
                          have b2 := u64_and_nat ne sg lne lg
                          rw [← eng] at b2
                          have lng : ng < 18446744073709551616 := by rw [eng]; exact and_lt lne lg
                          obtain ⟨ch, ech⟩ : ∃ q, q = ef ^^^ ng := ⟨_, rfl⟩
                          have b3 := u64_xor_nat ef ng lef lng
                          rw [← ech] at b3
                          obtain ⟨p2, ep2⟩ : ∃ q, q = (p1 + ch) % 18446744073709551616 := ⟨_, rfl⟩
                          have a2 := add_nat p1 ch
                          rw [← ep2] at a2
                          obtain ⟨p3, ep3⟩ : ∃ q, q = (p2 + kk) % 18446744073709551616 := ⟨_, rfl⟩
                          have a3 := add_nat p2 kk
                          rw [← ep3] at a3
                          obtain ⟨x, ex⟩ : ∃ q, q = (p3 + ww) % 18446744073709551616 := ⟨_, rfl⟩
                          have a4 := add_nat p3 ww
                          rw [← ex] at a4
                          obtain ⟨ab, eab⟩ : ∃ q, q = sa &&& sb := ⟨_, rfl⟩
                          have b4 := u64_and_nat sa sb la lb
                          rw [← eab] at b4
                          have lab : ab < 18446744073709551616 := by rw [eab]; exact and_lt la lb
                          obtain ⟨ac, eac⟩ : ∃ q, q = sa &&& sc := ⟨_, rfl⟩
                          have b5 := u64_and_nat sa sc la lc
                          rw [← eac] at b5
                          have lac : ac < 18446744073709551616 := by rw [eac]; exact and_lt la lc
                          obtain ⟨bc, ebc⟩ : ∃ q, q = sb &&& sc := ⟨_, rfl⟩
                          have b6 := u64_and_nat sb sc lb lc
                          rw [← ebc] at b6
                          have lbc : bc < 18446744073709551616 := by rw [ebc]; exact and_lt lb lc
                          obtain ⟨m1, em1⟩ : ∃ q, q = ab ^^^ ac := ⟨_, rfl⟩
                          have b7 := u64_xor_nat ab ac lab lac
                          rw [← em1] at b7
                          have lm1 : m1 < 18446744073709551616 := by rw [em1]; exact xor_lt lab lac
                          obtain ⟨mj, emj⟩ : ∃ q, q = m1 ^^^ bc := ⟨_, rfl⟩
                          have b8 := u64_xor_nat m1 bc lm1 lbc
                          rw [← emj] at b8
                          obtain ⟨y, ey⟩ : ∃ q, q = (t2 + mj) % 18446744073709551616 := ⟨_, rfl⟩
                          have a5 := add_nat t2 mj
                          rw [← ey] at a5
                          obtain ⟨zz, ez⟩ : ∃ q, q = (x + y) % 18446744073709551616 := ⟨_, rfl⟩
                          have a6 := add_nat x y
                          rw [← ez] at a6
                          obtain ⟨uu, eu⟩ : ∃ q, q = (sd + x) % 18446744073709551616 := ⟨_, rfl⟩
                          have a7 := add_nat sd x
                          rw [← eu] at a7
                          have hch : chN se sf sg = ch := by rw [ech, eef, eng, ene]; unfold chN; rfl
                          have hmj : majN sa sb sc = mj := by rw [emj, em1, eab, eac, ebc]; unfold majN; rfl
                          have hxx : x = xN kk ww ⟨sa, sb, sc, sd, se, sf, sg, sh⟩ := by unfold xN; rw [ex, ep3, ep2, ep1, et1, ← hch]
                          have hyy : y = yN ⟨sa, sb, sc, sd, se, sf, sg, sh⟩ := by unfold yN; rw [ey, et2, ← hmj]
                          rw [rnd_eq kk ww _ x y zz uu hxx hyy ez eu] at hnx
                          have f2 := hF.drew.drew.setRowHead (by simp <;> omega) (by simp) (us [zz, sa, sb, sc, uu, se, sf, sg]) (by omega)
                          have F2 := Lib.hid f2
                          have HNX2 := Lib.hid hnx
                          have K9 := Lib.hid k9
                          have ebl : us [zz, sa, sb, sc, uu, se, sf, sg] = #[.int .u64 (zz : Int), .int .u64 (sa : Int), .int .u64 (sb : Int), .int .u64 (sc : Int), .int .u64 (uu : Int), .int .u64 (se : Int), .int .u64 (sf : Int), .int .u64 (sg : Int)] := rfl
                          have HE := Lib.hid ebl
                          have R14 := Lib.hid r14
                          have R18 := Lib.hid r18
                          have R41 := Lib.hid r41
                          have R28 := Lib.hid r28
                          have R34 := Lib.hid r34
                          have R39 := Lib.hid r39
                          clear ene hnx f2 hF hS ekk eww et1 et2 ep1 eef eng ech ep2 ep3 ex eab eac ebc em1 emj ey ez eu hch hmj hxx hyy kw k9 hwb ckk0 ebl r14 r18 r41 r28 r34 r39
                          as_aux_lemma =>
                            go_wp2_with (fail)
                            refine wp_region_held_drew (S := fun W => W.cell? ⟨we.heap.size, 4, none⟩ = some (.int .u64 (se : Int)) ∧ W.cell? ⟨we.heap.size, 5, none⟩ = some (.int .u64 (sf : Int)) ∧ W.cell? ⟨we.heap.size, 6, none⟩ = some (.int .u64 (sg : Int)) ∧ W.cell? ⟨we.heap.size, 7, none⟩ = some (.int .u64 (sh : Int)) ∧ W.cell? ⟨w.heap.size, 1, none⟩ = some (.slice (some ⟨bK, oK, none⟩) 80 cK) ∧ W.cell? ⟨bK, oK + k, none⟩ = some (.int .u64 (kk : Int)) ∧ W.cell? ⟨wc.heap.size, k, none⟩ = some (.int .u64 (ww : Int))) (by kernel_rfl) ?_ (fun hHeld => ?_)
                            · exact ⟨c4, c5, c6, c7, cB, ckk, cw⟩
                            refine wpAnyH_take (i := 0) (v := ?_) rfl (by kernel_rfl) (by kernel_rfl) (by kernel_rfl) (fun _ _ _ h => h) (Or.inl ⟨by rfl, ?_⟩) hHeld ?_
                            rotate_left
                            · (intro W hSw; (try dsimp only at hSw); (try simp only [List.getElem_toArray, List.getElem_cons_succ, List.getElem_cons_zero]); go_simp; try with_reducible rfl)
                            try simp only [Act.put, List.getElem_toArray, List.getElem_cons_succ, List.getElem_cons_zero, List.setIfInBounds_toArray, List.set_cons_zero, List.set_cons_succ]
                            refine wpAnyH_take (i := 1) (v := ?_) rfl (by kernel_rfl) (by kernel_rfl) (by kernel_rfl) (fun _ _ _ h => h) (Or.inl ⟨by rfl, ?_⟩) hHeld ?_
                            rotate_left
                            · (intro W hSw; (try dsimp only at hSw); (try simp only [List.getElem_toArray, List.getElem_cons_succ, List.getElem_cons_zero]); go_simp; try with_reducible rfl)
                            try simp only [Act.put, List.getElem_toArray, List.getElem_cons_succ, List.getElem_cons_zero, List.setIfInBounds_toArray, List.set_cons_zero, List.set_cons_succ]
                            refine wpAnyH_take (i := 2) (v := ?_) rfl (by kernel_rfl) (by kernel_rfl) (by kernel_rfl) (fun _ _ _ h => h) (Or.inl ⟨by rfl, ?_⟩) hHeld ?_
                            rotate_left
                            · (intro W hSw; (try dsimp only at hSw); (try simp only [List.getElem_toArray, List.getElem_cons_succ, List.getElem_cons_zero]); go_simp; try with_reducible rfl)
                            try simp only [Act.put, List.getElem_toArray, List.getElem_cons_succ, List.getElem_cons_zero, List.setIfInBounds_toArray, List.set_cons_zero, List.set_cons_succ]
                            refine wpAnyH_take (i := 3) (v := ?_) rfl (by kernel_rfl) (by kernel_rfl) (by kernel_rfl) (fun _ _ _ h => h) (Or.inl ⟨by rfl, ?_⟩) hHeld ?_
                            rotate_left
                            · (intro W hSw; (try dsimp only at hSw); (try simp only [List.getElem_toArray, List.getElem_cons_succ, List.getElem_cons_zero]); go_simp; try with_reducible rfl)
                            try simp only [Act.put, List.getElem_toArray, List.getElem_cons_succ, List.getElem_cons_zero, List.setIfInBounds_toArray, List.set_cons_zero, List.set_cons_succ]
                            refine wpAnyH_take (i := 5) (v := ?_) rfl (by kernel_rfl) (by kernel_rfl) (by kernel_rfl) (fun _ _ _ h => h) (Or.inl ⟨by rfl, ?_⟩) hHeld ?_
                            rotate_left
                            · (intro W hSw; (try dsimp only at hSw); (try simp only [List.getElem_toArray, List.getElem_cons_succ, List.getElem_cons_zero]); go_simp; try with_reducible rfl)
                            try simp only [Act.put, List.getElem_toArray, List.getElem_cons_succ, List.getElem_cons_zero, List.setIfInBounds_toArray, List.set_cons_zero, List.set_cons_succ]
                            refine wpAnyH_take (i := 6) (v := ?_) rfl (by kernel_rfl) (by kernel_rfl) (by kernel_rfl) (fun _ _ _ h => h) (Or.inl ⟨by rfl, ?_⟩) hHeld ?_
                            rotate_left
                            · (intro W hSw; (try dsimp only at hSw); (try simp only [List.getElem_toArray, List.getElem_cons_succ, List.getElem_cons_zero]); go_simp; try with_reducible rfl)
                            try simp only [Act.put, List.getElem_toArray, List.getElem_cons_succ, List.getElem_cons_zero, List.setIfInBounds_toArray, List.set_cons_zero, List.set_cons_succ]
                            refine wpAnyH_take (i := 9) (v := ?_) rfl (by kernel_rfl) (by kernel_rfl) (by kernel_rfl) (fun _ _ _ h => h) (Or.inl ⟨by rfl, ?_⟩) hHeld ?_
                            rotate_left
                            · (intro W hSw; (try dsimp only at hSw); (try simp only [List.getElem_toArray, List.getElem_cons_succ, List.getElem_cons_zero]); go_simp; try with_reducible rfl)
                            try simp only [Act.put, List.getElem_toArray, List.getElem_cons_succ, List.getElem_cons_zero, List.setIfInBounds_toArray, List.set_cons_zero, List.set_cons_succ]
                            refine wpAnyH_take (i := 10) (v := ?_) rfl (by kernel_rfl) (by kernel_rfl) (by kernel_rfl) (fun _ _ _ h => h) (Or.inl ⟨by rfl, ?_⟩) hHeld ?_
                            rotate_left
                            · (intro W hSw; (try dsimp only at hSw); (try simp only [List.getElem_toArray, List.getElem_cons_succ, List.getElem_cons_zero]); go_simp; try with_reducible rfl)
                            try simp only [Act.put, List.getElem_toArray, List.getElem_cons_succ, List.getElem_cons_zero, List.setIfInBounds_toArray, List.set_cons_zero, List.set_cons_succ]
                            refine wpAnyH_take (i := 14) (v := ?_) rfl (by kernel_rfl) (by kernel_rfl) (by kernel_rfl) (fun _ _ _ h => h) (Or.inl ⟨by rfl, ?_⟩) hHeld ?_
                            rotate_left
                            · (intro W hSw; (try dsimp only at hSw); (try simp only [List.getElem_toArray, List.getElem_cons_succ, List.getElem_cons_zero]); go_simp; try with_reducible rfl)
                            try simp only [Act.put, List.getElem_toArray, List.getElem_cons_succ, List.getElem_cons_zero, List.setIfInBounds_toArray, List.set_cons_zero, List.set_cons_succ]
                            refine wpAnyH_take (i := 15) (v := ?_) rfl (by kernel_rfl) (by kernel_rfl) (by kernel_rfl) (fun _ _ _ h => h) (Or.inl ⟨by rfl, ?_⟩) hHeld ?_
                            rotate_left
                            · (intro W hSw; (try dsimp only at hSw); (try simp only [List.getElem_toArray, List.getElem_cons_succ, List.getElem_cons_zero]); go_simp; try with_reducible rfl)
                            try simp only [Act.put, List.getElem_toArray, List.getElem_cons_succ, List.getElem_cons_zero, List.setIfInBounds_toArray, List.set_cons_zero, List.set_cons_succ]
                            refine wpAnyH_take (i := 16) (v := ?_) rfl (by kernel_rfl) (by kernel_rfl) (by kernel_rfl) (fun _ _ _ h => h) (Or.inl ⟨by rfl, ?_⟩) hHeld ?_
                            rotate_left
                            · (intro W hSw; (try dsimp only at hSw); (try simp only [List.getElem_toArray, List.getElem_cons_succ, List.getElem_cons_zero]); go_simp; try with_reducible rfl)
                            try simp only [Act.put, List.getElem_toArray, List.getElem_cons_succ, List.getElem_cons_zero, List.setIfInBounds_toArray, List.set_cons_zero, List.set_cons_succ]
                            refine wpAnyH_take (i := 17) (v := ?_) rfl (by kernel_rfl) (by kernel_rfl) (by kernel_rfl) (fun _ _ _ h => h) (Or.inl ⟨by rfl, ?_⟩) hHeld ?_
                            rotate_left
                            · (intro W hSw; (try dsimp only at hSw); (try simp only [List.getElem_toArray, List.getElem_cons_succ, List.getElem_cons_zero]); go_simp; try with_reducible rfl)
                            try simp only [Act.put, List.getElem_toArray, List.getElem_cons_succ, List.getElem_cons_zero, List.setIfInBounds_toArray, List.set_cons_zero, List.set_cons_succ]
                            refine wpAnyH_take (i := 18) (v := ?_) rfl (by kernel_rfl) (by kernel_rfl) (by kernel_rfl) (fun _ _ _ h => h) (Or.inl ⟨by rfl, ?_⟩) hHeld ?_
                            rotate_left
                            · (intro W hSw; (try dsimp only at hSw); (try simp only [List.getElem_toArray, List.getElem_cons_succ, List.getElem_cons_zero]); go_simp; try with_reducible rfl)
                            try simp only [Act.put, List.getElem_toArray, List.getElem_cons_succ, List.getElem_cons_zero, List.setIfInBounds_toArray, List.set_cons_zero, List.set_cons_succ]
                            refine wpAnyH_take (i := 19) (v := ?_) rfl (by kernel_rfl) (by kernel_rfl) (by kernel_rfl) (fun _ _ _ h => h) (Or.inl ⟨by rfl, ?_⟩) hHeld ?_
                            rotate_left
                            · (intro W hSw; (try dsimp only at hSw); (try simp only [List.getElem_toArray, List.getElem_cons_succ, List.getElem_cons_zero]); go_simp; try with_reducible rfl)
                            try simp only [Act.put, List.getElem_toArray, List.getElem_cons_succ, List.getElem_cons_zero, List.setIfInBounds_toArray, List.set_cons_zero, List.set_cons_succ]
                            refine wpAnyH_take (i := 20) (v := ?_) rfl (by kernel_rfl) (by kernel_rfl) (by kernel_rfl) (fun _ _ _ h => h) (Or.inl ⟨by rfl, ?_⟩) hHeld ?_
                            rotate_left
                            · (intro W hSw; (try dsimp only at hSw); (try simp only [List.getElem_toArray, List.getElem_cons_succ, List.getElem_cons_zero]); go_simp; try with_reducible rfl)
                            try simp only [Act.put, List.getElem_toArray, List.getElem_cons_succ, List.getElem_cons_zero, List.setIfInBounds_toArray, List.set_cons_zero, List.set_cons_succ]
                            refine wpAnyH_take (i := 21) (v := ?_) rfl (by kernel_rfl) (by kernel_rfl) (by kernel_rfl) (fun _ _ _ h => h) (Or.inl ⟨by rfl, ?_⟩) hHeld ?_
                            rotate_left
                            · (intro W hSw; (try dsimp only at hSw); (try simp only [List.getElem_toArray, List.getElem_cons_succ, List.getElem_cons_zero]); go_simp; try with_reducible rfl)
                            try simp only [Act.put, List.getElem_toArray, List.getElem_cons_succ, List.getElem_cons_zero, List.setIfInBounds_toArray, List.set_cons_zero, List.set_cons_succ]
                            refine wpAnyH_take (i := 22) (v := ?_) rfl (by kernel_rfl) (by kernel_rfl) (by kernel_rfl) (fun _ _ _ h => h) (Or.inl ⟨by rfl, ?_⟩) hHeld ?_
                            rotate_left
                            · (intro W hSw; (try dsimp only at hSw); (try simp only [List.getElem_toArray, List.getElem_cons_succ, List.getElem_cons_zero]); go_simp; try with_reducible rfl)
                            try simp only [Act.put, List.getElem_toArray, List.getElem_cons_succ, List.getElem_cons_zero, List.setIfInBounds_toArray, List.set_cons_zero, List.set_cons_succ]
                            refine wpAnyH_take (i := 23) (v := ?_) rfl (by kernel_rfl) (by kernel_rfl) (by kernel_rfl) (fun _ _ _ h => h) (Or.inl ⟨by rfl, ?_⟩) hHeld ?_
                            rotate_left
                            · (intro W hSw; (try dsimp only at hSw); (try simp only [List.getElem_toArray, List.getElem_cons_succ, List.getElem_cons_zero]); go_simp; try with_reducible rfl)
                            try simp only [Act.put, List.getElem_toArray, List.getElem_cons_succ, List.getElem_cons_zero, List.setIfInBounds_toArray, List.set_cons_zero, List.set_cons_succ]
                            refine wpAnyH_take (i := 24) (v := ?_) rfl (by kernel_rfl) (by kernel_rfl) (by kernel_rfl) (fun _ _ _ h => h) (Or.inl ⟨by rfl, ?_⟩) hHeld ?_
                            rotate_left
                            · (intro W hSw; (try dsimp only at hSw); (try simp only [List.getElem_toArray, List.getElem_cons_succ, List.getElem_cons_zero]); go_simp; try with_reducible rfl)
                            try simp only [Act.put, List.getElem_toArray, List.getElem_cons_succ, List.getElem_cons_zero, List.setIfInBounds_toArray, List.set_cons_zero, List.set_cons_succ]
                            refine wpAnyH_take (i := 25) (v := ?_) rfl (by kernel_rfl) (by kernel_rfl) (by kernel_rfl) (fun _ _ _ h => h) (Or.inl ⟨by rfl, ?_⟩) hHeld ?_
                            rotate_left
                            · (intro W hSw; (try dsimp only at hSw); (try simp only [List.getElem_toArray, List.getElem_cons_succ, List.getElem_cons_zero]); go_simp; try with_reducible rfl)
                            try simp only [Act.put, List.getElem_toArray, List.getElem_cons_succ, List.getElem_cons_zero, List.setIfInBounds_toArray, List.set_cons_zero, List.set_cons_succ]
                            refine wpAnyH_take (i := 27) (v := ?_) rfl (by kernel_rfl) (by kernel_rfl) (by kernel_rfl) (fun _ _ _ h => h) (Or.inl ⟨by rfl, ?_⟩) hHeld ?_
                            rotate_left
                            · (intro W hSw; (try dsimp only at hSw); (try simp only [List.getElem_toArray, List.getElem_cons_succ, List.getElem_cons_zero]); go_simp; try with_reducible rfl)
                            try simp only [Act.put, List.getElem_toArray, List.getElem_cons_succ, List.getElem_cons_zero, List.setIfInBounds_toArray, List.set_cons_zero, List.set_cons_succ]
                            refine wpAnyH_take (i := 28) (v := ?_) rfl (by kernel_rfl) (by kernel_rfl) (by kernel_rfl) (fun _ _ _ h => h) (Or.inl ⟨by rfl, ?_⟩) hHeld ?_
                            rotate_left
                            · (intro W hSw; (try dsimp only at hSw); (try simp only [List.getElem_toArray, List.getElem_cons_succ, List.getElem_cons_zero]); go_simp; try with_reducible rfl)
                            try simp only [Act.put, List.getElem_toArray, List.getElem_cons_succ, List.getElem_cons_zero, List.setIfInBounds_toArray, List.set_cons_zero, List.set_cons_succ]
                            refine wpAnyH_take (i := 29) (v := ?_) rfl (by kernel_rfl) (by kernel_rfl) (by kernel_rfl) (fun _ _ _ h => h) (Or.inl ⟨by rfl, ?_⟩) hHeld ?_
                            rotate_left
                            · (intro W hSw; (try dsimp only at hSw); (try simp only [List.getElem_toArray, List.getElem_cons_succ, List.getElem_cons_zero]); go_simp; try with_reducible rfl)
                            try simp only [Act.put, List.getElem_toArray, List.getElem_cons_succ, List.getElem_cons_zero, List.setIfInBounds_toArray, List.set_cons_zero, List.set_cons_succ]
                            refine wpAnyH_take (i := 30) (v := ?_) rfl (by kernel_rfl) (by kernel_rfl) (by kernel_rfl) (fun _ _ _ h => h) (Or.inl ⟨by rfl, ?_⟩) hHeld ?_
                            rotate_left
                            · (intro W hSw; (try dsimp only at hSw); (try simp only [List.getElem_toArray, List.getElem_cons_succ, List.getElem_cons_zero]); go_simp; try with_reducible rfl)
                            try simp only [Act.put, List.getElem_toArray, List.getElem_cons_succ, List.getElem_cons_zero, List.setIfInBounds_toArray, List.set_cons_zero, List.set_cons_succ]
                            refine wpAnyH_take (i := 31) (v := ?_) rfl (by kernel_rfl) (by kernel_rfl) (by kernel_rfl) (fun _ _ _ h => h) (Or.inl ⟨by rfl, ?_⟩) hHeld ?_
                            rotate_left
                            · (intro W hSw; (try dsimp only at hSw); (try simp only [List.getElem_toArray, List.getElem_cons_succ, List.getElem_cons_zero]); go_simp; try with_reducible rfl)
                            try simp only [Act.put, List.getElem_toArray, List.getElem_cons_succ, List.getElem_cons_zero, List.setIfInBounds_toArray, List.set_cons_zero, List.set_cons_succ]
                            refine wpAnyH_take (i := 33) (v := ?_) rfl (by kernel_rfl) (by kernel_rfl) (by kernel_rfl) (fun _ _ _ h => h) (Or.inl ⟨by rfl, ?_⟩) hHeld ?_
                            rotate_left
                            · (intro W hSw; (try dsimp only at hSw); (try simp only [List.getElem_toArray, List.getElem_cons_succ, List.getElem_cons_zero]); go_simp; try with_reducible rfl)
                            try simp only [Act.put, List.getElem_toArray, List.getElem_cons_succ, List.getElem_cons_zero, List.setIfInBounds_toArray, List.set_cons_zero, List.set_cons_succ]
                            refine wpAnyH_take (i := 34) (v := ?_) rfl (by kernel_rfl) (by kernel_rfl) (by kernel_rfl) (fun _ _ _ h => h) (Or.inl ⟨by rfl, ?_⟩) hHeld ?_
                            rotate_left
                            · (intro W hSw; (try dsimp only at hSw); (try simp only [List.getElem_toArray, List.getElem_cons_succ, List.getElem_cons_zero]); go_simp; try with_reducible rfl)
                            try simp only [Act.put, List.getElem_toArray, List.getElem_cons_succ, List.getElem_cons_zero, List.setIfInBounds_toArray, List.set_cons_zero, List.set_cons_succ]
                            refine wpAnyH_take (i := 35) (v := ?_) rfl (by kernel_rfl) (by kernel_rfl) (by kernel_rfl) (fun _ _ _ h => h) (Or.inl ⟨by rfl, ?_⟩) hHeld ?_
                            rotate_left
                            · (intro W hSw; (try dsimp only at hSw); (try simp only [List.getElem_toArray, List.getElem_cons_succ, List.getElem_cons_zero]); go_simp; try with_reducible rfl)
                            try simp only [Act.put, List.getElem_toArray, List.getElem_cons_succ, List.getElem_cons_zero, List.setIfInBounds_toArray, List.set_cons_zero, List.set_cons_succ]
                            refine wpAnyH_ready (rs := [4]) (by kernel_rfl) (by simp) (AllReadyH.cons rfl (fun K hK => ?_) AllReadyH.nil)
                            have h0 := hHeld
                            clear hHeld
                            try simp only [List.getElem_toArray, List.getElem_cons_succ, List.getElem_cons_zero]
                            go_simp
                            go_at_call 22
                            refine (R14.out _).mono ?_
                            rintro e vv ⟨rfl, rfl⟩
                            go_wp2_with (fail)
                            refine hK.out _ _ h0 (fun hHeld => ?_)
                            clear hK K h0
                            try simp only [Act.put, List.getElem_toArray, List.getElem_cons_succ, List.getElem_cons_zero, List.setIfInBounds_toArray, List.set_cons_zero, List.set_cons_succ]
                            refine wpAnyH_ready (rs := [7]) (by kernel_rfl) (by simp) (AllReadyH.cons rfl (fun K hK => ?_) AllReadyH.nil)
                            have h0 := hHeld
                            clear hHeld
                            try simp only [List.getElem_toArray, List.getElem_cons_succ, List.getElem_cons_zero]
                            go_simp
                            go_at_call 22
                            refine (R18.out _).mono ?_
                            rintro e vv ⟨rfl, rfl⟩
                            go_wp2_with (fail)
                            refine hK.out _ _ h0 (fun hHeld => ?_)
                            clear hK K h0
                            try simp only [Act.put, List.getElem_toArray, List.getElem_cons_succ, List.getElem_cons_zero, List.setIfInBounds_toArray, List.set_cons_zero, List.set_cons_succ]
                            refine wpAnyH_take (i := 8) (v := ?_) rfl (by kernel_rfl) (by kernel_rfl) (by kernel_rfl) (fun _ _ _ h => h) (Or.inl ⟨by rfl, ?_⟩) hHeld ?_
                            rotate_left
                            · (intro W hSw; (try dsimp only at hSw); (try simp only [List.getElem_toArray, List.getElem_cons_succ, List.getElem_cons_zero]); go_simp; try with_reducible rfl)
                            try simp only [Act.put, List.getElem_toArray, List.getElem_cons_succ, List.getElem_cons_zero, List.setIfInBounds_toArray, List.set_cons_zero, List.set_cons_succ]
                            refine wpAnyH_ready (rs := [11]) (by kernel_rfl) (by simp) (AllReadyH.cons rfl (fun K hK => ?_) AllReadyH.nil)
                            have h0 := hHeld
                            clear hHeld
                            try simp only [List.getElem_toArray, List.getElem_cons_succ, List.getElem_cons_zero]
                            go_simp
                            go_at_call 22
                            refine (R41.out _).mono ?_
                            rintro e vv ⟨rfl, rfl⟩
                            go_wp2_with (fail)
                            refine hK.out _ _ h0 (fun hHeld => ?_)
                            clear hK K h0
                            try simp only [Act.put, List.getElem_toArray, List.getElem_cons_succ, List.getElem_cons_zero, List.setIfInBounds_toArray, List.set_cons_zero, List.set_cons_succ]
                            refine wpAnyH_take (i := 12) (v := ?_) rfl (by kernel_rfl) (by kernel_rfl) (by kernel_rfl) (fun _ _ _ h => h) (Or.inl ⟨by rfl, ?_⟩) hHeld ?_
                            rotate_left
                            · (intro W hSw; (try dsimp only at hSw); (try simp only [List.getElem_toArray, List.getElem_cons_succ, List.getElem_cons_zero]); go_simp; try with_reducible rfl)
                            try simp only [Act.put, List.getElem_toArray, List.getElem_cons_succ, List.getElem_cons_zero, List.setIfInBounds_toArray, List.set_cons_zero, List.set_cons_succ]
                            refine wpAnyH_take (i := 13) (v := ?_) rfl (by kernel_rfl) (by kernel_rfl) (by kernel_rfl) (fun _ _ _ h => h) (Or.inl ⟨by rfl, ?_⟩) hHeld ?_
                            rotate_left
                            · (intro W hSw; (try dsimp only at hSw); (try simp only [List.getElem_toArray, List.getElem_cons_succ, List.getElem_cons_zero]); go_simp; try with_reducible rfl)
                            try simp only [Act.put, List.getElem_toArray, List.getElem_cons_succ, List.getElem_cons_zero, List.setIfInBounds_toArray, List.set_cons_zero, List.set_cons_succ]
                            refine wpAnyH_take (i := 26) (v := ?_) rfl (by kernel_rfl) (by kernel_rfl) (by kernel_rfl) (fun _ _ _ h => h) (Or.inl ⟨by rfl, ?_⟩) hHeld ?_
                            rotate_left
                            · (intro W hSw; (try dsimp only at hSw); (try simp only [List.getElem_toArray, List.getElem_cons_succ, List.getElem_cons_zero]); go_simp; try with_reducible rfl)
                            try simp only [Act.put, List.getElem_toArray, List.getElem_cons_succ, List.getElem_cons_zero, List.setIfInBounds_toArray, List.set_cons_zero, List.set_cons_succ]
                            refine wpAnyH_take (i := 32) (v := ?_) rfl (by kernel_rfl) (by kernel_rfl) (by kernel_rfl) (fun _ _ _ h => h) (Or.inl ⟨by rfl, ?_⟩) hHeld ?_
                            rotate_left
                            · (intro W hSw; (try dsimp only at hSw); (try simp only [List.getElem_toArray, List.getElem_cons_succ, List.getElem_cons_zero]); go_simp; try with_reducible rfl)
                            try simp only [Act.put, List.getElem_toArray, List.getElem_cons_succ, List.getElem_cons_zero, List.setIfInBounds_toArray, List.set_cons_zero, List.set_cons_succ]
                            refine wpAnyH_take (i := 36) (v := ?_) rfl (by kernel_rfl) (by kernel_rfl) (by kernel_rfl) (fun _ _ _ h => h) (Or.inl ⟨by rfl, ?_⟩) hHeld ?_
                            rotate_left
                            · (intro W hSw; (try dsimp only at hSw); (try simp only [List.getElem_toArray, List.getElem_cons_succ, List.getElem_cons_zero]); go_simp; try with_reducible rfl)
                            try simp only [Act.put, List.getElem_toArray, List.getElem_cons_succ, List.getElem_cons_zero, List.setIfInBounds_toArray, List.set_cons_zero, List.set_cons_succ]
                            refine wpAnyH_take (i := 37) (v := ?_) rfl (by kernel_rfl) (by kernel_rfl) (by kernel_rfl) (fun _ _ _ h => h) (Or.inl ⟨by rfl, ?_⟩) hHeld ?_
                            rotate_left
                            · (intro W hSw; (try dsimp only at hSw); (try simp only [List.getElem_toArray, List.getElem_cons_succ, List.getElem_cons_zero]); go_simp; try with_reducible rfl)
                            try simp only [Act.put, List.getElem_toArray, List.getElem_cons_succ, List.getElem_cons_zero, List.setIfInBounds_toArray, List.set_cons_zero, List.set_cons_succ]
                            refine wpAnyH_done (by kernel_rfl) ?_ _
                            go_wp2_with (fail)
                            refine wp_region_held_drew (S := fun W => W.cell? ⟨we.heap.size, 0, none⟩ = some (.int .u64 (sa : Int)) ∧ W.cell? ⟨we.heap.size, 1, none⟩ = some (.int .u64 (sb : Int)) ∧ W.cell? ⟨we.heap.size, 2, none⟩ = some (.int .u64 (sc : Int))) (by kernel_rfl) ?_ (fun hHeld => ?_)
                            · exact ⟨c0, c1, c2⟩
                            refine wpAnyH_take (i := 0) (v := ?_) rfl (by kernel_rfl) (by kernel_rfl) (by kernel_rfl) (fun _ _ _ h => h) (Or.inl ⟨by rfl, ?_⟩) hHeld ?_
                            rotate_left
                            · (intro W hSw; (try dsimp only at hSw); (try simp only [List.getElem_toArray, List.getElem_cons_succ, List.getElem_cons_zero]); go_simp; try with_reducible rfl)
                            try simp only [Act.put, List.getElem_toArray, List.getElem_cons_succ, List.getElem_cons_zero, List.setIfInBounds_toArray, List.set_cons_zero, List.set_cons_succ]
                            refine wpAnyH_take (i := 1) (v := ?_) rfl (by kernel_rfl) (by kernel_rfl) (by kernel_rfl) (fun _ _ _ h => h) (Or.inl ⟨by rfl, ?_⟩) hHeld ?_
                            rotate_left
                            · (intro W hSw; (try dsimp only at hSw); (try simp only [List.getElem_toArray, List.getElem_cons_succ, List.getElem_cons_zero]); go_simp; try with_reducible rfl)
                            try simp only [Act.put, List.getElem_toArray, List.getElem_cons_succ, List.getElem_cons_zero, List.setIfInBounds_toArray, List.set_cons_zero, List.set_cons_succ]
                            refine wpAnyH_take (i := 3) (v := ?_) rfl (by kernel_rfl) (by kernel_rfl) (by kernel_rfl) (fun _ _ _ h => h) (Or.inl ⟨by rfl, ?_⟩) hHeld ?_
                            rotate_left
                            · (intro W hSw; (try dsimp only at hSw); (try simp only [List.getElem_toArray, List.getElem_cons_succ, List.getElem_cons_zero]); go_simp; try with_reducible rfl)
                            try simp only [Act.put, List.getElem_toArray, List.getElem_cons_succ, List.getElem_cons_zero, List.setIfInBounds_toArray, List.set_cons_zero, List.set_cons_succ]
                            refine wpAnyH_take (i := 4) (v := ?_) rfl (by kernel_rfl) (by kernel_rfl) (by kernel_rfl) (fun _ _ _ h => h) (Or.inl ⟨by rfl, ?_⟩) hHeld ?_
                            rotate_left
                            · (intro W hSw; (try dsimp only at hSw); (try simp only [List.getElem_toArray, List.getElem_cons_succ, List.getElem_cons_zero]); go_simp; try with_reducible rfl)
                            try simp only [Act.put, List.getElem_toArray, List.getElem_cons_succ, List.getElem_cons_zero, List.setIfInBounds_toArray, List.set_cons_zero, List.set_cons_succ]
                            refine wpAnyH_take (i := 7) (v := ?_) rfl (by kernel_rfl) (by kernel_rfl) (by kernel_rfl) (fun _ _ _ h => h) (Or.inl ⟨by rfl, ?_⟩) hHeld ?_
                            rotate_left
                            · (intro W hSw; (try dsimp only at hSw); (try simp only [List.getElem_toArray, List.getElem_cons_succ, List.getElem_cons_zero]); go_simp; try with_reducible rfl)
                            try simp only [Act.put, List.getElem_toArray, List.getElem_cons_succ, List.getElem_cons_zero, List.setIfInBounds_toArray, List.set_cons_zero, List.set_cons_succ]
                            refine wpAnyH_take (i := 8) (v := ?_) rfl (by kernel_rfl) (by kernel_rfl) (by kernel_rfl) (fun _ _ _ h => h) (Or.inl ⟨by rfl, ?_⟩) hHeld ?_
                            rotate_left
                            · (intro W hSw; (try dsimp only at hSw); (try simp only [List.getElem_toArray, List.getElem_cons_succ, List.getElem_cons_zero]); go_simp; try with_reducible rfl)
                            try simp only [Act.put, List.getElem_toArray, List.getElem_cons_succ, List.getElem_cons_zero, List.setIfInBounds_toArray, List.set_cons_zero, List.set_cons_succ]
                            refine wpAnyH_take (i := 11) (v := ?_) rfl (by kernel_rfl) (by kernel_rfl) (by kernel_rfl) (fun _ _ _ h => h) (Or.inl ⟨by rfl, ?_⟩) hHeld ?_
                            rotate_left
                            · (intro W hSw; (try dsimp only at hSw); (try simp only [List.getElem_toArray, List.getElem_cons_succ, List.getElem_cons_zero]); go_simp; try with_reducible rfl)
                            try simp only [Act.put, List.getElem_toArray, List.getElem_cons_succ, List.getElem_cons_zero, List.setIfInBounds_toArray, List.set_cons_zero, List.set_cons_succ]
                            refine wpAnyH_take (i := 12) (v := ?_) rfl (by kernel_rfl) (by kernel_rfl) (by kernel_rfl) (fun _ _ _ h => h) (Or.inl ⟨by rfl, ?_⟩) hHeld ?_
                            rotate_left
                            · (intro W hSw; (try dsimp only at hSw); (try simp only [List.getElem_toArray, List.getElem_cons_succ, List.getElem_cons_zero]); go_simp; try with_reducible rfl)
                            try simp only [Act.put, List.getElem_toArray, List.getElem_cons_succ, List.getElem_cons_zero, List.setIfInBounds_toArray, List.set_cons_zero, List.set_cons_succ]
                            refine wpAnyH_take (i := 13) (v := ?_) rfl (by kernel_rfl) (by kernel_rfl) (by kernel_rfl) (fun _ _ _ h => h) (Or.inl ⟨by rfl, ?_⟩) hHeld ?_
                            rotate_left
                            · (intro W hSw; (try dsimp only at hSw); (try simp only [List.getElem_toArray, List.getElem_cons_succ, List.getElem_cons_zero]); go_simp; try with_reducible rfl)
                            try simp only [Act.put, List.getElem_toArray, List.getElem_cons_succ, List.getElem_cons_zero, List.setIfInBounds_toArray, List.set_cons_zero, List.set_cons_succ]
                            refine wpAnyH_take (i := 14) (v := ?_) rfl (by kernel_rfl) (by kernel_rfl) (by kernel_rfl) (fun _ _ _ h => h) (Or.inl ⟨by rfl, ?_⟩) hHeld ?_
                            rotate_left
                            · (intro W hSw; (try dsimp only at hSw); (try simp only [List.getElem_toArray, List.getElem_cons_succ, List.getElem_cons_zero]); go_simp; try with_reducible rfl)
                            try simp only [Act.put, List.getElem_toArray, List.getElem_cons_succ, List.getElem_cons_zero, List.setIfInBounds_toArray, List.set_cons_zero, List.set_cons_succ]
                            refine wpAnyH_take (i := 15) (v := ?_) rfl (by kernel_rfl) (by kernel_rfl) (by kernel_rfl) (fun _ _ _ h => h) (Or.inl ⟨by rfl, ?_⟩) hHeld ?_
                            rotate_left
                            · (intro W hSw; (try dsimp only at hSw); (try simp only [List.getElem_toArray, List.getElem_cons_succ, List.getElem_cons_zero]); go_simp; try with_reducible rfl)
                            try simp only [Act.put, List.getElem_toArray, List.getElem_cons_succ, List.getElem_cons_zero, List.setIfInBounds_toArray, List.set_cons_zero, List.set_cons_succ]
                            refine wpAnyH_take (i := 16) (v := ?_) rfl (by kernel_rfl) (by kernel_rfl) (by kernel_rfl) (fun _ _ _ h => h) (Or.inl ⟨by rfl, ?_⟩) hHeld ?_
                            rotate_left
                            · (intro W hSw; (try dsimp only at hSw); (try simp only [List.getElem_toArray, List.getElem_cons_succ, List.getElem_cons_zero]); go_simp; try with_reducible rfl)
                            try simp only [Act.put, List.getElem_toArray, List.getElem_cons_succ, List.getElem_cons_zero, List.setIfInBounds_toArray, List.set_cons_zero, List.set_cons_succ]
                            refine wpAnyH_take (i := 17) (v := ?_) rfl (by kernel_rfl) (by kernel_rfl) (by kernel_rfl) (fun _ _ _ h => h) (Or.inl ⟨by rfl, ?_⟩) hHeld ?_
                            rotate_left
                            · (intro W hSw; (try dsimp only at hSw); (try simp only [List.getElem_toArray, List.getElem_cons_succ, List.getElem_cons_zero]); go_simp; try with_reducible rfl)
                            try simp only [Act.put, List.getElem_toArray, List.getElem_cons_succ, List.getElem_cons_zero, List.setIfInBounds_toArray, List.set_cons_zero, List.set_cons_succ]
                            refine wpAnyH_take (i := 18) (v := ?_) rfl (by kernel_rfl) (by kernel_rfl) (by kernel_rfl) (fun _ _ _ h => h) (Or.inl ⟨by rfl, ?_⟩) hHeld ?_
                            rotate_left
                            · (intro W hSw; (try dsimp only at hSw); (try simp only [List.getElem_toArray, List.getElem_cons_succ, List.getElem_cons_zero]); go_simp; try with_reducible rfl)
                            try simp only [Act.put, List.getElem_toArray, List.getElem_cons_succ, List.getElem_cons_zero, List.setIfInBounds_toArray, List.set_cons_zero, List.set_cons_succ]
                            refine wpAnyH_take (i := 19) (v := ?_) rfl (by kernel_rfl) (by kernel_rfl) (by kernel_rfl) (fun _ _ _ h => h) (Or.inl ⟨by rfl, ?_⟩) hHeld ?_
                            rotate_left
                            · (intro W hSw; (try dsimp only at hSw); (try simp only [List.getElem_toArray, List.getElem_cons_succ, List.getElem_cons_zero]); go_simp; try with_reducible rfl)
                            try simp only [Act.put, List.getElem_toArray, List.getElem_cons_succ, List.getElem_cons_zero, List.setIfInBounds_toArray, List.set_cons_zero, List.set_cons_succ]
                            refine wpAnyH_take (i := 20) (v := ?_) rfl (by kernel_rfl) (by kernel_rfl) (by kernel_rfl) (fun _ _ _ h => h) (Or.inl ⟨by rfl, ?_⟩) hHeld ?_
                            rotate_left
                            · (intro W hSw; (try dsimp only at hSw); (try simp only [List.getElem_toArray, List.getElem_cons_succ, List.getElem_cons_zero]); go_simp; try with_reducible rfl)
                            try simp only [Act.put, List.getElem_toArray, List.getElem_cons_succ, List.getElem_cons_zero, List.setIfInBounds_toArray, List.set_cons_zero, List.set_cons_succ]
                            refine wpAnyH_take (i := 21) (v := ?_) rfl (by kernel_rfl) (by kernel_rfl) (by kernel_rfl) (fun _ _ _ h => h) (Or.inl ⟨by rfl, ?_⟩) hHeld ?_
                            rotate_left
                            · (intro W hSw; (try dsimp only at hSw); (try simp only [List.getElem_toArray, List.getElem_cons_succ, List.getElem_cons_zero]); go_simp; try with_reducible rfl)
                            try simp only [Act.put, List.getElem_toArray, List.getElem_cons_succ, List.getElem_cons_zero, List.setIfInBounds_toArray, List.set_cons_zero, List.set_cons_succ]
                            refine wpAnyH_take (i := 22) (v := ?_) rfl (by kernel_rfl) (by kernel_rfl) (by kernel_rfl) (fun _ _ _ h => h) (Or.inl ⟨by rfl, ?_⟩) hHeld ?_
                            rotate_left
                            · (intro W hSw; (try dsimp only at hSw); (try simp only [List.getElem_toArray, List.getElem_cons_succ, List.getElem_cons_zero]); go_simp; try with_reducible rfl)
                            try simp only [Act.put, List.getElem_toArray, List.getElem_cons_succ, List.getElem_cons_zero, List.setIfInBounds_toArray, List.set_cons_zero, List.set_cons_succ]
                            refine wpAnyH_take (i := 23) (v := ?_) rfl (by kernel_rfl) (by kernel_rfl) (by kernel_rfl) (fun _ _ _ h => h) (Or.inl ⟨by rfl, ?_⟩) hHeld ?_
                            rotate_left
                            · (intro W hSw; (try dsimp only at hSw); (try simp only [List.getElem_toArray, List.getElem_cons_succ, List.getElem_cons_zero]); go_simp; try with_reducible rfl)
                            try simp only [Act.put, List.getElem_toArray, List.getElem_cons_succ, List.getElem_cons_zero, List.setIfInBounds_toArray, List.set_cons_zero, List.set_cons_succ]
                            refine wpAnyH_take (i := 24) (v := ?_) rfl (by kernel_rfl) (by kernel_rfl) (by kernel_rfl) (fun _ _ _ h => h) (Or.inl ⟨by rfl, ?_⟩) hHeld ?_
                            rotate_left
                            · (intro W hSw; (try dsimp only at hSw); (try simp only [List.getElem_toArray, List.getElem_cons_succ, List.getElem_cons_zero]); go_simp; try with_reducible rfl)
                            try simp only [Act.put, List.getElem_toArray, List.getElem_cons_succ, List.getElem_cons_zero, List.setIfInBounds_toArray, List.set_cons_zero, List.set_cons_succ]
                            refine wpAnyH_take (i := 25) (v := ?_) rfl (by kernel_rfl) (by kernel_rfl) (by kernel_rfl) (fun _ _ _ h => h) (Or.inl ⟨by rfl, ?_⟩) hHeld ?_
                            rotate_left
                            · (intro W hSw; (try dsimp only at hSw); (try simp only [List.getElem_toArray, List.getElem_cons_succ, List.getElem_cons_zero]); go_simp; try with_reducible rfl)
                            try simp only [Act.put, List.getElem_toArray, List.getElem_cons_succ, List.getElem_cons_zero, List.setIfInBounds_toArray, List.set_cons_zero, List.set_cons_succ]
                            refine wpAnyH_take (i := 26) (v := ?_) rfl (by kernel_rfl) (by kernel_rfl) (by kernel_rfl) (fun _ _ _ h => h) (Or.inl ⟨by rfl, ?_⟩) hHeld ?_
                            rotate_left
                            · (intro W hSw; (try dsimp only at hSw); (try simp only [List.getElem_toArray, List.getElem_cons_succ, List.getElem_cons_zero]); go_simp; try with_reducible rfl)
                            try simp only [Act.put, List.getElem_toArray, List.getElem_cons_succ, List.getElem_cons_zero, List.setIfInBounds_toArray, List.set_cons_zero, List.set_cons_succ]
                            refine wpAnyH_take (i := 27) (v := ?_) rfl (by kernel_rfl) (by kernel_rfl) (by kernel_rfl) (fun _ _ _ h => h) (Or.inl ⟨by rfl, ?_⟩) hHeld ?_
                            rotate_left
                            · (intro W hSw; (try dsimp only at hSw); (try simp only [List.getElem_toArray, List.getElem_cons_succ, List.getElem_cons_zero]); go_simp; try with_reducible rfl)
                            try simp only [Act.put, List.getElem_toArray, List.getElem_cons_succ, List.getElem_cons_zero, List.setIfInBounds_toArray, List.set_cons_zero, List.set_cons_succ]
                            refine wpAnyH_ready (rs := [2]) (by kernel_rfl) (by simp) (AllReadyH.cons rfl (fun K hK => ?_) AllReadyH.nil)
                            have h0 := hHeld
                            clear hHeld
                            try simp only [List.getElem_toArray, List.getElem_cons_succ, List.getElem_cons_zero]
                            go_simp
                            go_at_call 22
                            refine (R28.out _).mono ?_
                            rintro e vv ⟨rfl, rfl⟩
                            go_wp2_with (fail)
                            refine hK.out _ _ h0 (fun hHeld => ?_)
                            clear hK K h0
                            try simp only [Act.put, List.getElem_toArray, List.getElem_cons_succ, List.getElem_cons_zero, List.setIfInBounds_toArray, List.set_cons_zero, List.set_cons_succ]
                            refine wpAnyH_ready (rs := [5]) (by kernel_rfl) (by simp) (AllReadyH.cons rfl (fun K hK => ?_) AllReadyH.nil)
                            have h0 := hHeld
                            clear hHeld
                            try simp only [List.getElem_toArray, List.getElem_cons_succ, List.getElem_cons_zero]
                            go_simp
                            go_at_call 22
                            refine (R34.out _).mono ?_
                            rintro e vv ⟨rfl, rfl⟩
                            go_wp2_with (fail)
                            refine hK.out _ _ h0 (fun hHeld => ?_)
                            clear hK K h0
                            try simp only [Act.put, List.getElem_toArray, List.getElem_cons_succ, List.getElem_cons_zero, List.setIfInBounds_toArray, List.set_cons_zero, List.set_cons_succ]
                            refine wpAnyH_take (i := 6) (v := ?_) rfl (by kernel_rfl) (by kernel_rfl) (by kernel_rfl) (fun _ _ _ h => h) (Or.inl ⟨by rfl, ?_⟩) hHeld ?_
                            rotate_left
                            · (intro W hSw; (try dsimp only at hSw); (try simp only [List.getElem_toArray, List.getElem_cons_succ, List.getElem_cons_zero]); go_simp; try with_reducible rfl)
                            try simp only [Act.put, List.getElem_toArray, List.getElem_cons_succ, List.getElem_cons_zero, List.setIfInBounds_toArray, List.set_cons_zero, List.set_cons_succ]
                            refine wpAnyH_ready (rs := [9]) (by kernel_rfl) (by simp) (AllReadyH.cons rfl (fun K hK => ?_) AllReadyH.nil)
                            have h0 := hHeld
                            clear hHeld
                            try simp only [List.getElem_toArray, List.getElem_cons_succ, List.getElem_cons_zero]
                            go_simp
                            go_at_call 22
                            refine (R39.out _).mono ?_
                            rintro e vv ⟨rfl, rfl⟩
                            go_wp2_with (fail)
                            refine hK.out _ _ h0 (fun hHeld => ?_)
                            clear hK K h0
                            try simp only [Act.put, List.getElem_toArray, List.getElem_cons_succ, List.getElem_cons_zero, List.setIfInBounds_toArray, List.set_cons_zero, List.set_cons_succ]
                            refine wpAnyH_take (i := 10) (v := ?_) rfl (by kernel_rfl) (by kernel_rfl) (by kernel_rfl) (fun _ _ _ h => h) (Or.inl ⟨by rfl, ?_⟩) hHeld ?_
                            rotate_left
                            · (intro W hSw; (try dsimp only at hSw); (try simp only [List.getElem_toArray, List.getElem_cons_succ, List.getElem_cons_zero]); go_simp; try with_reducible rfl)
                            try simp only [Act.put, List.getElem_toArray, List.getElem_cons_succ, List.getElem_cons_zero, List.setIfInBounds_toArray, List.set_cons_zero, List.set_cons_succ]
                            refine wpAnyH_take (i := 28) (v := ?_) rfl (by kernel_rfl) (by kernel_rfl) (by kernel_rfl) (fun _ _ _ h => h) (Or.inl ⟨by rfl, ?_⟩) hHeld ?_
                            rotate_left
                            · (intro W hSw; (try dsimp only at hSw); (try simp only [List.getElem_toArray, List.getElem_cons_succ, List.getElem_cons_zero]); go_simp; try with_reducible rfl)
                            try simp only [Act.put, List.getElem_toArray, List.getElem_cons_succ, List.getElem_cons_zero, List.setIfInBounds_toArray, List.set_cons_zero, List.set_cons_succ]
                            refine wpAnyH_take (i := 29) (v := ?_) rfl (by kernel_rfl) (by kernel_rfl) (by kernel_rfl) (fun _ _ _ h => h) (Or.inl ⟨by rfl, ?_⟩) hHeld ?_
                            rotate_left
                            · (intro W hSw; (try dsimp only at hSw); (try simp only [List.getElem_toArray, List.getElem_cons_succ, List.getElem_cons_zero]); go_simp; try with_reducible rfl)
                            try simp only [Act.put, List.getElem_toArray, List.getElem_cons_succ, List.getElem_cons_zero, List.setIfInBounds_toArray, List.set_cons_zero, List.set_cons_succ]
                            refine wpAnyH_done (by kernel_rfl) ?_ _
                            go_wp2_with (first | (refine wpList_run rfl (.agg (us [zz, sa, sb, sc, uu, se, sf, sg])) (by rw [HE.out]; exact build8_step rfl rfl rfl rfl rfl rfl rfl rfl rfl _) ?_) | (refine wpList_store_row rfl 38 (.tmp 15) (.tmp 213) rfl (we.heap.size) (us [zz, sa, sb, sc, uu, se, sf, sg]) rfl rfl 38 _ K9.out.drew.drew (info_us size_w8 rfl) rfl (us_one _) ?_))
                            go_roundw
                            case rel => exact ⟨k + 1, ⟨zz, sa, sb, sc, uu, se, sf, sg⟩, by go_num, by omega, Lib.hid HNX2.out.symm, F2.out⟩
                            case measure =>
                              show 80 - ((k : Int) + 1).toNat < 80 - ((k : Int)).toNat
                              omega
                        · have hk80 : k = 80 := by omega
                          have hS8 := hS.out
                          rw [hk80] at hS8
                          have f17 := hF.sub (L' := [(w9.heap.size, 38, us h.l), (we.heap.size, 38, us S.l)]) (R' := []) (by simp) (by simp)
                          have F17 := Lib.hid f17
                          have HS8 := Lib.hid hS8
                          clear hF f17 hS8 hS hSo hk80
                          as_aux_lemma =>
                            go_wp2_with (fail)
                            go_loopw [19] (fun iv wg => ∃ i : Nat, iv = .int .i64 (i : Int) ∧ i ≤ 8 ∧ Fr w9 wg [(w9.heap.size, 38, us (addl h.l S.l i)), (we.heap.size, 38, us S.l)] []) (fun iv _ => 8 - (intOf iv).toNat)
                            case atStart => exact ⟨0, rfl, by omega, by rw [addl_zero]; exact F17.out⟩
                            case round =>
                              clear F17
                              obtain ⟨i, rfl, hi, hF⟩ := hrel
                              have hal : (addl h.l S.l i).length = 8 := addl_len _ _ i
                              by_cases hlt5 : i < 8
                              · have hnx := addl_succ h.l S.l i
                                have hgt := addl_get h.l S.l i i (Nat.le_refl _)
                                have kp := hF.get (g := w9.heap.size) (t := 38) (cs := us (addl h.l S.l i)) (by simp)
                                have kq := hF.get (g := we.heap.size) (t := 38) (cs := us S.l) (by simp)
                                have cp := kp.cell i
                                rw [us_getD (by omega), hgt] at cp
                                have cv := kq.cell i
                                rw [us_getD (show i < S.l.length from hlt5)] at cv
                                have z1 := kp.frozen i
                                have z2 := kp.drew.frozen i
                                obtain ⟨x, ex⟩ : ∃ q, q = (h.l.getD i 0 + S.l.getD i 0) % 18446744073709551616 := ⟨_, rfl⟩
                                have a1 := add_nat (h.l.getD i 0) (S.l.getD i 0)
                                rw [← ex] at a1 hnx
                                have f2 := hF.setHead (by simp <;> omega) (by simp) i (.int .u64 (x : Int)) (Nat.le_refl _)
                                rw [us_set, ← hnx] at f2
                                have F2 := Lib.hid f2
                                clear ex f2 hF hnx hgt kq kp
                                generalize h.l.getD i 0 = v1 at *
                                generalize S.l.getD i 0 = v2 at *
                                go_wp2_with (fail)
                                refine wp_region_held_drew (S := fun W => W.cell? ⟨we.heap.size, i, none⟩ = some (.int .u64 (v2 : Int))) (by kernel_rfl) ?_ (fun hHeld => ?_)
                                · exact cv
                                refine wpAnyH_take (i := 0) (v := ?_) rfl (by kernel_rfl) (by kernel_rfl) (by kernel_rfl) (fun _ _ _ h => h) (Or.inl ⟨by rfl, ?_⟩) hHeld ?_
                                rotate_left
                                · (intro W hSw; (try dsimp only at hSw); (try simp only [List.getElem_toArray, List.getElem_cons_succ, List.getElem_cons_zero]); go_simp; try with_reducible rfl)
                                try simp only [Act.put, List.getElem_toArray, List.getElem_cons_succ, List.getElem_cons_zero, List.setIfInBounds_toArray, List.set_cons_zero, List.set_cons_succ]
                                refine wpAnyH_take (i := 1) (v := ?_) rfl (by kernel_rfl) (by kernel_rfl) (by kernel_rfl) (fun _ _ _ h => h) (Or.inl ⟨by rfl, ?_⟩) hHeld ?_
                                rotate_left
                                · (intro W hSw; (try dsimp only at hSw); (try simp only [List.getElem_toArray, List.getElem_cons_succ, List.getElem_cons_zero]); go_simp; try with_reducible rfl)
                                try simp only [Act.put, List.getElem_toArray, List.getElem_cons_succ, List.getElem_cons_zero, List.setIfInBounds_toArray, List.set_cons_zero, List.set_cons_succ]
                                refine wpAnyH_take (i := 2) (v := ?_) rfl (by kernel_rfl) (by kernel_rfl) (by kernel_rfl) (fun _ _ _ h => h) (Or.inl ⟨by rfl, ?_⟩) hHeld ?_
                                rotate_left
                                · (intro W hSw; (try dsimp only at hSw); (try simp only [List.getElem_toArray, List.getElem_cons_succ, List.getElem_cons_zero]); go_simp; try with_reducible rfl)
                                try simp only [Act.put, List.getElem_toArray, List.getElem_cons_succ, List.getElem_cons_zero, List.setIfInBounds_toArray, List.set_cons_zero, List.set_cons_succ]
                                refine wpAnyH_take (i := 4) (v := ?_) rfl (by kernel_rfl) (by kernel_rfl) (by kernel_rfl) (fun _ _ _ h => h) (Or.inl ⟨by rfl, ?_⟩) hHeld ?_
                                rotate_left
                                · (intro W hSw; (try dsimp only at hSw); (try simp only [List.getElem_toArray, List.getElem_cons_succ, List.getElem_cons_zero]); go_simp; try with_reducible rfl)
                                try simp only [Act.put, List.getElem_toArray, List.getElem_cons_succ, List.getElem_cons_zero, List.setIfInBounds_toArray, List.set_cons_zero, List.set_cons_succ]
                                refine wpAnyH_take (i := 5) (v := ?_) rfl (by kernel_rfl) (by kernel_rfl) (by kernel_rfl) (fun _ _ _ h => h) (Or.inl ⟨by rfl, ?_⟩) hHeld ?_
                                rotate_left
                                · (intro W hSw; (try dsimp only at hSw); (try simp only [List.getElem_toArray, List.getElem_cons_succ, List.getElem_cons_zero]); go_simp; try with_reducible rfl)
                                try simp only [Act.put, List.getElem_toArray, List.getElem_cons_succ, List.getElem_cons_zero, List.setIfInBounds_toArray, List.set_cons_zero, List.set_cons_succ]
                                refine wpAnyH_take (i := 6) (v := ?_) rfl (by kernel_rfl) (by kernel_rfl) (by kernel_rfl) (fun _ _ _ h => h) (Or.inl ⟨by rfl, ?_⟩) hHeld ?_
                                rotate_left
                                · (intro W hSw; (try dsimp only at hSw); (try simp only [List.getElem_toArray, List.getElem_cons_succ, List.getElem_cons_zero]); go_simp; try with_reducible rfl)
                                try simp only [Act.put, List.getElem_toArray, List.getElem_cons_succ, List.getElem_cons_zero, List.setIfInBounds_toArray, List.set_cons_zero, List.set_cons_succ]
                                refine wpAnyH_ready (rs := [3]) (by kernel_rfl) (by simp) (AllReadyH.cons rfl (fun K hK => ?_) AllReadyH.nil)
                                have h0 := hHeld
                                clear hHeld
                                try simp only [List.getElem_toArray, List.getElem_cons_succ, List.getElem_cons_zero]
                                go_simp
                                refine hK.out _ _ (h0) (fun hHeld => ?_)
                                clear hK K h0
                                try simp only [Act.put, List.getElem_toArray, List.getElem_cons_succ, List.getElem_cons_zero, List.setIfInBounds_toArray, List.set_cons_zero, List.set_cons_succ]
                                refine wpAnyH_take (i := 7) (v := ?_) rfl (by kernel_rfl) (by kernel_rfl) (by kernel_rfl) (fun _ _ _ h => h) (Or.inl ⟨by rfl, ?_⟩) hHeld ?_
                                rotate_left
                                · (intro W hSw; (try dsimp only at hSw); (try simp only [List.getElem_toArray, List.getElem_cons_succ, List.getElem_cons_zero]); go_simp; try with_reducible rfl)
                                try simp only [Act.put, List.getElem_toArray, List.getElem_cons_succ, List.getElem_cons_zero, List.setIfInBounds_toArray, List.set_cons_zero, List.set_cons_succ]
                                refine wpAnyH_take (i := 8) (v := ?_) rfl (by kernel_rfl) (by kernel_rfl) (by kernel_rfl) (fun _ _ _ h => h) (Or.inl ⟨by rfl, ?_⟩) hHeld ?_
                                rotate_left
                                · (intro W hSw; (try dsimp only at hSw); (try simp only [List.getElem_toArray, List.getElem_cons_succ, List.getElem_cons_zero]); go_simp; try with_reducible rfl)
                                try simp only [Act.put, List.getElem_toArray, List.getElem_cons_succ, List.getElem_cons_zero, List.setIfInBounds_toArray, List.set_cons_zero, List.set_cons_succ]
                                refine wpAnyH_ready (rs := [9]) (by kernel_rfl) (by simp) (AllReadyH.cons rfl (fun K hK => ?_) AllReadyH.nil)
                                have h0 := hHeld
                                clear hHeld
                                try simp only [List.getElem_toArray, List.getElem_cons_succ, List.getElem_cons_zero]
                                go_simp
                                refine hK.out _ _ ((World.cell?_setCell_far _ _ _ _ (by simp <;> omega)).trans h0) (fun hHeld => ?_)
                                clear hK K h0
                                try simp only [Act.put, List.getElem_toArray, List.getElem_cons_succ, List.getElem_cons_zero, List.setIfInBounds_toArray, List.set_cons_zero, List.set_cons_succ]
                                refine wpAnyH_done (by kernel_rfl) ?_ _
                                go_wp2_with (fail)
                                go_roundw
                                case rel => exact ⟨i + 1, by go_num, by omega, F2.out.drew⟩
                                case measure =>
                                  show 8 - ((i : Int) + 1).toNat < 8 - ((i : Int)).toNat
                                  omega
                              · obtain rfl : i = 8 := by omega
                                simp only [show ((8 : Nat) : Int) = 8 from rfl]
                                have hend : addl h.l S.l 8 = (blocks (bn F) H0 (q + 1)).l := by rw [addl_eight, HNX.out, press_def, ← HW0.out, ← HWL2.out, ← HS8.out, addS_comm]
                                rw [hend] at hF
                                have F18 := Lib.hid (hF.sub (L' := [(w9.heap.size, 38, us (blocks (bn F) H0 (q + 1)).l)]) (R' := []) (by simp) (by simp))
                                clear hF hend hal
                                go_wp2_with (fail)
                                go_roundw
                                case rel => exact ⟨q + 1, a + 128, by go_num, Lib.hid (by rw [ha.out]; omega), by omega, F18.out⟩
                                case measure =>
                                  show N - ((a : Int) + 128).toNat < N - ((a : Int)).toNat
                                  omega
            · obtain rfl : q = Nb := by omega
              have haN : a = N := by rw [ha.out, HNN.out]
              subst haN
              have hRR : R = outS (blocks (bn F) H0 q) := by
                rw [HR.out, hash_def, hashS, ← HFL.out, bn_len, HPL.out, HNN.out, Nat.mul_div_cancel_left _ (by omega)]
              obtain ⟨SS, hSS⟩ : ∃ t, t = blocks (bn F) H0 q := ⟨_, rfl⟩
              rw [← hSS] at hF hRR
              generalize wr = wc at *
              have hRl : R.length = 64 := by rw [hRR]; exact outS_len SS
              have hf0 : ncs .u8 z64 = ncs .u8 (fill R 0) := by rw [z64_fill hRl]
              have hgc := (hF.get (g := w9.heap.size) (t := 38) (cs := us SS.l) (by simp)).lt
              have f20 := hF.row (ncs .u8 (fill R 0)) 27 (g := wc.heap.size) rfl
              rw [← hf0] at f20
              have F20 := Lib.hid f20
              have HRL := Lib.hid hRl
              have HRR := Lib.hid hRR
              have HF0 := Lib.hid hf0
              clear hF f20 hRl hRR hf0 hSS
              as_aux_lemma =>
                go_wp2_with (fail)
                go_loopw [21] (fun iv wh => ∃ i : Nat, iv = .int .i64 (i : Int) ∧ i ≤ 64 ∧ Fr w9 wh [(wc.heap.size, 27, ncs .u8 (fill R i)), (w9.heap.size, 38, us SS.l)] []) (fun iv _ => 64 - (intOf iv).toNat)
                case atStart => exact ⟨0, rfl, by omega, by rw [← HF0.out]; exact F20.out⟩
                case round =>
                  clear F20
                  obtain ⟨i, rfl, hi, hF⟩ := hrel
                  by_cases hlt2 : i < 64
                  · obtain ⟨q8, hq8⟩ : ∃ x, x = i / 8 := ⟨_, rfl⟩
                    obtain ⟨r8, hr8⟩ : ∃ x, x = i % 8 := ⟨_, rfl⟩
                    have hq8b : q8 < 8 := by omega
                    have hr8b : r8 < 8 := by omega
                    have hat := outS_at SS hlt2
                    rw [← HRR.out, ← hq8, ← hr8] at hat
                    obtain ⟨s7, hs7⟩ : ∃ x, x = 7 - r8 := ⟨_, rfl⟩
                    rw [← hs7] at hat
                    obtain ⟨v, hv⟩ : ∃ v, v = SS.l.getD q8 0 := ⟨_, rfl⟩
                    rw [← hv] at hat
                    have hbn := byte_nat v s7
                    obtain ⟨x, hx⟩ : ∃ x, x = v / 256 ^ s7 % 256 := ⟨_, rfl⟩
                    rw [← hx] at hat hbn
                    have kh := hF.get (g := w9.heap.size) (t := 38) (cs := us SS.l) (by simp)
                    have kr := hF.get (g := wc.heap.size) (t := 27) (cs := ncs .u8 (fill R i)) (by simp)
                    have chh := kh.cell q8
                    rw [us_getD (show q8 < SS.l.length from hq8b), ← hv] at chh
                    have cr := kr.cell i
                    rw [ncs_get, fill_get (by rw [HRL.out]; exact hlt2)] at cr
                    have zr := kr.frozen i
                    have f2 := hF.setHead (by simp <;> omega) (by simp) i (.int .u8 (x : Int)) (by omega)
                    rw [ncs_set, show x = R.getD i 0 by simp [List.getD, hat], fill_set (by rw [HRL.out]; exact hlt2)] at f2
                    have hxR : R.getD i 0 = x := by simp [List.getD, hat]
                    rw [hxR] at f2
                    have i1 : (i : Int) / 8 = (q8 : Int) := by omega
                    have i2 : (i : Int) % 8 = (r8 : Int) := by omega
                    have i3 : (q8 : Int) < 8 := by omega
                    have i4 : (56 : Int) - 8 * (r8 : Int) = 8 * (s7 : Int) := by omega
                    have i5 : (8 : Int) * (s7 : Int) < 65 := by omega
                    have i6 : IntKind.i64.wrap (q8 : Int) = (q8 : Int) := by rw [IntKind.wrap_i64]; omega
                    have F2 := Lib.hid f2
                    clear hF f2 kh kr hat hx hv hs7 hq8 hr8 hxR
                    go_wp2_with (fail)
                    go_roundw
                    case rel => exact ⟨i + 1, by go_num, by omega, F2.out⟩
                    case measure => simp [intOf] <;> omega
                  · obtain rfl : i = 64 := by omega
                    simp only [show ((64 : Nat) : Int) = 64 from rfl]
                    have e64 : fill R 64 = R := by rw [show (64 : Nat) = R.length from HRL.out.symm, fill_full]
                    rw [e64] at hF
                    have k1 := hF.get (g := wc.heap.size) (t := 27) (cs := ncs .u8 R) (by simp)
                    obtain ⟨old, ho, k0w⟩ := HW.out.out
                    have k0 : Blk wr (w.heap.size + 1) 27 old := k0w.below hF.below k0w.lt
                    have kS := k0.setRow_same (ncs .u8 R)
                    have hB2 := below_setRow (HW.out.below.trans (hF.below.mono HW.out.below.size)) (show w.heap.size ≤ w.heap.size + 1 by omega) (ncs .u8 R)
                    have HO := Lib.hid (show old.size = (ncs .u8 R).size by rw [ho, ncs_size, HRL.out])
                    have HI := Lib.hid (show (Tryd.prog.info? 27).map (·.size) = some (ncs .u8 R).size by rw [ncs_size, HRL.out]; exact size_long)
                    have KS := Lib.hid kS
                    have HB2 := Lib.hid hB2
                    clear hF kS hB2 ho k0w e64
                    go_wp2_with (first | (refine wpList_load_row rfl 27 (.tmp 20) rfl (wc.heap.size) rfl 27 (ncs .u8 R) (0, 0) _ k1 Tryd.underlying27 rfl HI.out ?_) | (refine wpList_store_row rfl 27 (.tmp 4) (.tmp 244) rfl (w.heap.size + 1) (ncs .u8 R) rfl rfl 27 old k0 HI.out HO.out (ncs_one _ _) ?_))
                    exact bodyPost_ret (results_cell_row rfl _ _ (w.heap.size + 1) 27 (ncs .u8 R) (0, 0) _ rfl KS.out Tryd.underlying27 rfl HI.out) rfl ⟨rfl, HB2.out⟩
        · obtain ⟨i, rfl⟩ : ∃ i, j = i + 1 := ⟨j - 1, by omega⟩
          obtain rfl : z = (i : Int) := by omega
          have hi : i < 8 := by omega
          rw [show 8 - (i + 1) = 7 - i by omega] at hS
          have hpl : (padl l (7 - i)).length = n + padL n - 8 + (7 - i) := by rw [padl_len l (by omega), HLN.out]
          have hpb := padL_cases n
          obtain ⟨n5, hn5⟩ : ∃ q, q = n + padL n - 8 + (7 - i) := ⟨_, rfl⟩
          rw [← hn5] at hpl
          have hn5b : n5 ≤ 200000 := by omega
          obtain ⟨A5, c5, rfl, hbs5⟩ := own_lenB hS.b hpl
          have hst := padl_step l hi
          rw [HLN.out, show 7 - i + 1 = 8 - i by omega] at hst
          have hbn := byte_nat (8 * n) i
          have hbl : 8 * n / 256 ^ i % 256 < 256 := Nat.mod_lt _ (by omega)
          obtain ⟨x, hx⟩ : ∃ x, x = 8 * n / 256 ^ i % 256 := ⟨_, rfl⟩
          rw [← hx] at hst hbn hbl
          rw [show ((8 * n : Nat) : Int) = 8 * (n : Int) by omega] at hbn
          have hux := u8_of x hbl
          have HW := Lib.hid hS
          have HPL := Lib.hid hpl
          have HST := Lib.hid hst
          have HUX := Lib.hid hux
          have h8i : (8 : Int) * (i : Int) < 65 := by omega
          clear hS hbs5 hpl hn5 hpb hz h0 hx hst hux hbl hj
          go_wp2_with (at_builtin; refine wpList_app_own rfl (.tmp 43) (.tmp 50) 22 rfl 5 Tryd.underlying22 info_u8h (w.heap.size + 2) (.slice A5 n5 c5) (padl l (7 - i)) rfl (HW.out.alloc _).b (wr.heap.size + 1) 1 1 (some ⟨wr.heap.size, 0, none⟩) [UInt8.ofNat x] rfl (by exact bs_newv wr 5 _ _ HUX.out.symm) (by rw [HPL.out]; omega) (by exact (HW.out.alloc _).size) ?_; intro v1 w1 hown1 hg1 hat1; have HS1 := Lib.hid ((HW.out.alloc _).app hg1 hown1); clear hown1 hg1 hat1)
          have hs1 := HS1.out
          rw [HST.out] at hs1
          have HS1 := Lib.hid hs1
          clear hs1
          go_round
          case rel => exact ⟨i, _, rfl, by go_num, by omega, HS1.out⟩
          case measure => simp [intOf] <;> omega
end Go.Proofs.YtagifgadcbhinaaDoor
