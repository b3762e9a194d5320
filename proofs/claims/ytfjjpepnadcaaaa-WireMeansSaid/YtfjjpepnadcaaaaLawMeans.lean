/- The walk of WireMeans. -/
import Derived.Test.YtfjjpepnadcaaaaLawNum
import Derived.Test.YtfjjpepnadcaaaaMuch
import Derived.Test.YtfjjpepnadcaaaaMeans
import Derived.Test.YtfjjpepnadcaaaaHex
import Derived.Test.YtfjjpepnadcaaaaUnhex
import Derived.Deep.RegionWith
import Derived.Deep.DeepCutAuto
import Derived.Deep.LoopGhost
import Derived.BigQuiet
namespace Go.Proofs.Ytfjjpepnadcaaaa
set_option linter.unusedVariables false
open Go.RowKit

theorem less_lex : ∀ a b : List UInt8, Op.bytesLess a b = lexB a b := by
  intro a
  induction a with
  | nil => intro b; cases b <;> rfl
  | cons x a ih => intro b; cases b with
    | nil => rfl
    | cons y b => simp only [Op.bytesLess, lexB, ih]
theorem fit_num {n : Nat} {K : Int} (h : fitB n K = true) : num (be n K.toNat) = n := by
  simp [fitB, roomB] at h
  rw [num_be, Nat.mod_eq_of_lt h.2]
theorem less_be {n m : Nat} {K : Int} (h1 : fitB n K = true) (h2 : fitB m K = true) : Op.bytesLess (strB (be n K.toNat)).toList (strB (be m K.toNat)).toList = decide (n < m) := by
  rw [strB_toList, strB_toList, less_lex, lexB_num _ _ (by rw [be_len, be_len]), fit_num h1, fit_num h2]
def PutAny (n : Nat) (K : Int) (w : World) (e : Ending) (w' : World) : Prop :=
  ∃ A k c ex xs, e = .returned (.tuple #[.slice A k c, .int .i64 ex]) ∧ BS w' w'.heap.size A k c xs ∧ Hid ((fitB n K = true ∧ ex = 0 ∧ xs = be n K.toNat ∧ k = K.toNat) ∨ (fitB n K = false ∧ ex = 2 ∧ xs = [] ∧ k = 0)) ∧ Hid (k ≤ 8) ∧ Below w.heap.size w w'
theorem put_un (n : Nat) (K : Int) (w : World) (hn : n < 18446744073709551616) : Calls Try.prog 9 #[.int .u64 n, .int .i64 K] w (PutAny n K w) := by
  cases hf : fitB n K with
  | true =>
    refine (put_good n K w hn hf).mono ?_
    rintro e w' ⟨rfl, h1, h2⟩
    refine ⟨_, _, _, 0, _, rfl, BS.ofBlk h1 _ (by rw [be_len]) _ h1.lt, .inl ⟨hf, rfl, rfl, rfl⟩, ?_, h2⟩
    show K.toNat ≤ 8
    simp [fitB, sizeB] at hf
    omega
  | false =>
    refine (put_bad n K w hn hf).mono ?_
    rintro e w' ⟨rfl, rfl⟩
    exact ⟨none, 0, 0, 2, [], rfl, BS.nil _ _, .inr ⟨hf, rfl, rfl, rfl⟩, Nat.zero_le _, Below.refl _ _⟩
/-- A blob at the head of what is left is read whole. -/
theorem blob_head (l r : List UInt8) (h : l.length < 65536) : blobV (some ((be l.length 2 ++ l) ++ r)) = l ∧ blobS (some ((be l.length 2 ++ l) ++ r)) = some r := by
  have hlen : (be l.length 2).length = 2 := be_len _ _
  have e1 : cutV (some ((be l.length 2 ++ l) ++ r)) 2 = be l.length 2 := by
    simp only [cutV]
    rw [if_pos (by simp [hlen]; omega), List.append_assoc]
    exact List.take_left' hlen
  have e2 : cutS (some ((be l.length 2 ++ l) ++ r)) 2 = some (l ++ r) := by
    simp only [cutS]
    rw [if_pos (by simp [hlen]; omega), List.append_assoc]
    exact congrArg some (List.drop_left' hlen)
  have e3 : numV (some ((be l.length 2 ++ l) ++ r)) 2 = l.length := by
    show num (cutV _ 2) = _
    rw [e1, num_be]
    exact Nat.mod_eq_of_lt h
  have e4 : numS (some ((be l.length 2 ++ l) ++ r)) 2 = some (l ++ r) := e2
  unfold blobV blobS
  rw [e3, e4]
  simp only [cutV, cutS]
  rw [if_pos (by simp; omega), if_pos (by simp; omega)]
  simp
theorem number_head (n : Nat) (K : Int) (r : List UInt8) (h : fitB n K = true) : numV (some (be n K.toNat ++ r)) K = n ∧ numS (some (be n K.toNat ++ r)) K = some r := by
  have hs : sizeB K = true := by simp [fitB] at h; exact h.1
  have hK : 1 ≤ K ∧ K ≤ 8 := by simpa [sizeB] using hs
  have hlen : (be n K.toNat).length = K.toNat := be_len _ _
  simp only [numV, numS, hs, if_true, cutV, cutS]
  have hc : 0 ≤ K ∧ K ≤ ((be n K.toNat ++ r).length : Int) := by rw [List.length_append, hlen]; omega
  rw [if_pos hc, if_pos hc]
  constructor
  · rw [List.take_left' hlen]; exact fit_num h
  · rw [List.drop_left' hlen]
theorem drop_blobs {L : List (List UInt8)} {j : Nat} {l : List UInt8} (h : L[j]? = some l) : blobsL (L.drop j) = (be l.length 2 ++ l) ++ blobsL (L.drop (j + 1)) := by
  obtain ⟨hj, rfl⟩ := List.getElem?_eq_some_iff.1 h
  rw [List.drop_eq_getElem_cons hj, blobsL_cons]
theorem part_le {L : List (List UInt8)} {j : Nat} {l : List UInt8} (h : L[j]? = some l) : l.length ≤ L.flatten.length := by
  have := flat_le L (j + 1)
  rw [flat_step h, List.length_append] at this
  omega
theorem flat_mem {L : List (List UInt8)} (h : L.flatten.length ≤ 3000) : ∀ l ∈ L, l.length < 65536 := fun l hl => by
  obtain ⟨j, hj⟩ := List.getElem?_of_mem hl
  have := part_le hj
  omega

def BackPost (X : List UInt8) (w : World) (e : Ending) (w' : World) : Prop :=
  ∃ A q c, e = .returned (.tuple #[.slice A q c, .int .i64 0]) ∧ BS w' w'.heap.size A q c X ∧ Below w.heap.size w w'
theorem ofhex_back (X : List UInt8) (w : World) (hX : X.length ≤ 9000) : Calls Try.prog 17 #[.string (strB (hex X))] w (BackPost X w) := by
  have hok := hex_ok_all X
  refine (ofhex_any (strB (hex X)) w (by rw [strB_size, hex_len]; omega)).mono ?_
  rintro e w11 ⟨hb11, ⟨h1, rfl, h2⟩ | ⟨h1, rfl⟩⟩
  · have e3 : unhex (strB (hex X)).data.toList ((strB (hex X)).data.toList.length / 2) = X := hok.2
    rw [e3] at h2
    have e4 : (strB (hex X)).data.toList.length / 2 = X.length := by
      have h5 := congrArg List.length e3
      rw [unhex_len] at h5
      exact h5
    exact ⟨_, _, _, rfl, BS.ofBlk h2 _ e4 w11.heap.size h2.lt, hb11⟩
  · exfalso
    have h5 : okB (hex X) = false := h1
    rw [hok.1] at h5
    cases h5

set_option maxRecDepth 100000 in
set_option maxHeartbeats 8000000 in
theorem means_all (n n2 : Nat) (K : Int) (A Q : Option Addr) (m d m2 d2 : Nat) (L M : List (List UInt8)) (w : World) (hn : n < 18446744073709551616) (hn2 : n2 < 18446744073709551616)
    (hL : RS w w.heap.size A m d L) (hM : RS w w.heap.size Q m2 d2 M) (hm : m ≤ 9223372036854775807) (hm2 : m2 ≤ 9223372036854775807) :
    Calls Try.prog 6 #[.int .u64 n, .int .u64 n2, .int .i64 K, .slice A m d, .slice Q m2 d2] w fun e w' => e = .returned (.bool true) ∧ Below w.heap.size w w' := by
  go_enter Try.func6, Try.ntmps6
  go_wp2_with (fail)
  refine (known_ok _).mono ?_
  rintro e w1 ⟨rfl, hw1⟩
  have hL1 := hL.below hw1
  have hM1 := hM.below hw1
  clear hL hM
  go_wp2_with (fail)
  refine (much_any A m d _ L _ hL1 hm).mono ?_
  rintro e w' ⟨b1, rfl, hb1, rfl⟩
  cases b1
  · obtain ⟨g1, g2⟩ := hb1 rfl
    clear hb1
    go_wp2_with (fail)
    refine (much_any Q m2 d2 _ M _ hM1 hm2).mono ?_
    rintro e w' ⟨b2, rfl, hb2, rfl⟩
    cases b2
    · obtain ⟨g3, g4⟩ := hb2 rfl
      have hm3 : m ≤ 3000 := by rw [← hL1.len]; exact g1
      have hm4 : m2 ≤ 3000 := by rw [← hM1.len]; exact g3
      have G2 := Lib.hid g2
      have G4 := Lib.hid g4
      clear hb2 g1 g2 g3 g4
      go_wp2_with (fail)
      refine (put_un n K _ hn).mono ?_
      rintro e w2 ⟨Aa, ka, ca, ea, xa, rfl, ha, hac, hak, hw2⟩
      go_wp2_with (fail)
      refine (put_un n2 K _ hn2).mono ?_
      rintro e w3 ⟨Ab, kb, cb, eb, xb, rfl, hb, hbc, hbk, hw3⟩
      go_upto_region 7 with fail
      have ha3 := ha.below hw3
      have hs3 := hw3.size
      have hw13 : Below w.heap.size w w3 := (hw1.trans (hw2.mono hw1.size)).trans (hw3.mono (Nat.le_trans hw1.size hw2.size))
      have hL3 := (hL1.below (hw2.mono hw1.size)).below (hw3.mono (Nat.le_trans hw1.size hw2.size))
      have hM3 := (hM1.below (hw2.mono hw1.size)).below (hw3.mono (Nat.le_trans hw1.size hw2.size))
      clear hw1 hw2 hw3 hL1 hM1 ha
      go_cut [63] (fun s63 wx => s63 = .bool false ∧ w3 = wx)
      case first =>
        rcases hac.out with ⟨f1, rfl, rfl, rfl⟩ | ⟨f1, rfl, rfl, rfl⟩
        · rcases hbc.out with ⟨f2, rfl, rfl, rfl⟩ | ⟨f2, rfl, rfl, rfl⟩
          · have c1 := convM ha3
            have c2 := convM hb
            have hlb := less_be f1 f2
            by_cases hlt : n < n2
            · have hl1 : Op.bytesLess (strB (be n K.toNat)).toList (strB (be n2 K.toNat)).toList = true := by rw [hlb]; simpa using hlt
              clear hlb f1 f2
              go_wp2_with (go_at_call 12; refine (num_ok _ _).mono ?_; rintro e w' ⟨rfl, rfl⟩)
              go_meet
              exact ⟨rfl, rfl⟩
            · have hl1 : Op.bytesLess (strB (be n K.toNat)).toList (strB (be n2 K.toNat)).toList = false := by rw [hlb]; simpa using hlt
              clear hlb f1 f2
              go_wp2_with (go_at_call 12; refine (num_ok _ _).mono ?_; rintro e w' ⟨rfl, rfl⟩)
              go_meet
              exact ⟨rfl, rfl⟩
          · clear f1 f2
            go_wp2_with (go_at_call 12; refine (num_ok _ _).mono ?_; rintro e w' ⟨rfl, rfl⟩)
            go_meet
            exact ⟨rfl, rfl⟩
        · clear f1
          rcases hbc.out with ⟨f2, rfl, rfl, rfl⟩ | ⟨f2, rfl, rfl, rfl⟩
          all_goals
            clear f2
            go_wp2_with (go_at_call 12; refine (num_ok _ _).mono ?_; rintro e w' ⟨rfl, rfl⟩)
            go_meet
            exact ⟨rfl, rfl⟩
      case rest =>
        obtain ⟨rfl, rfl⟩ := hcut
        clear hb hbc hbk
        go_wp2_with (fail)
        refine (blobs_any A m d w.heap.size L _ hL3 hw13.size hm3 G2.out).mono ?_
        rintro e w4 ⟨Ax, nx, cx, rfl, hx, hw4⟩
        go_upto_region 10 with fail
        have hfacts : ∀ W, Below w4.heap.size w4 W → (convert 23 9 (.slice Ax nx cx)).run Try.prog W = .ok (.string (strB (blobsL L))) W ∧ RS W w.heap.size A m d L ∧ RS W w.heap.size Q m2 d2 M ∧ Below w.heap.size w W ∧ BS W w3.heap.size Aa ka ca xa ∧ BS W w4.heap.size Ax nx cx (blobsL L) ∧ w4.heap.size ≤ W.heap.size := by
          intro W hW
          have b3 : Below w3.heap.size w3 W := hw4.trans (hW.mono hw4.size)
          exact ⟨convM (hx.below hW), hL3.below (b3.mono hw13.size), hM3.below (b3.mono hw13.size), hw13.trans (b3.mono hw13.size), (ha3.more hs3).below b3, hx.below hW, hW.size⟩
        have HF := Lib.hid hfacts
        have hnx : nx ≤ 9000 := by
          have h1 := hx.len
          rw [blobsL_len] at h1
          have h2 := hL3.len
          have h3 := G2.out
          omega
        have hs34 := hw4.size
        have hs13 := hw13.size
        have hXl : (blobsL L).length ≤ 9000 := by rw [hx.len]; exact hnx
        clear hfacts hx hw4 hL3 hM3 hw13 ha3
        go_cut [75] (fun s75 wx => s75 = .bool false ∧ Below w4.heap.size w4 wx)
        case first =>
          obtain ⟨c1, c2, c3, c4, _, _, _⟩ := HF.out w4.drew (Below.refl _ _).drew
          have hfin : ∀ w5, Below w4.drew.heap.size w4.drew w5 → Below w4.heap.size w4 w5 := fun w5 h5 => (Below.refl _ _).drew.trans h5
          have HFN := Lib.hid hfin
          clear hfin
          have hinj := blobsL_inj L M (flat_mem G2.out) (flat_mem G4.out)
          by_cases hLM : L = M
          · have hs : ((strB (blobsL L)).toList == (strB (blobsL M)).toList) = true := by rw [hLM]; simp
            clear hinj
            go_wp2_with (fail)
            go_region_with (first
              | (go_at_call 35; refine (blobs_any Q m2 d2 w.heap.size M _ (by exact c3) (by exact c4.size) hm4 G4.out).mono ?_; rintro e w5 ⟨Ay, ny, cy, rfl, hy, hw5⟩; have h5 := HFN.out w5 hw5; have cy5 := convM hy; obtain ⟨d1, dL, dM, d4, _, _, _⟩ := HF.out w5 h5; clear hw5)
              | (go_at_call 36; refine (same_any A Q m d m2 d2 w.heap.size L M _ (by exact dL) (by exact dM) (by exact d4.size) hm3 hm4).mono ?_; rintro e w6 ⟨bs, rfl, hbs, hw6⟩; obtain rfl : bs = true := (by rw [hbs.out]; simp [hLM]); have h6 := h5.trans (hw6.mono h5.size); have cy6 := convM (hy.below hw6); obtain ⟨e1, _, _, _, _, _, _⟩ := HF.out w6 h6; clear hw6))
            all_goals
              go_wp2_with (fail)
              go_meet
              exact ⟨rfl, h6⟩
          · have hs : ((strB (blobsL L)).toList == (strB (blobsL M)).toList) = false := by
              rw [strB_toList, strB_toList]
              simp only [beq_eq_false_iff_ne, ne_eq]
              exact fun e => hLM (hinj e)
            clear hinj
            go_wp2_with (fail)
            go_region_with (first
              | (go_at_call 35; refine (blobs_any Q m2 d2 w.heap.size M _ (by exact c3) (by exact c4.size) hm4 G4.out).mono ?_; rintro e w5 ⟨Ay, ny, cy, rfl, hy, hw5⟩; have h5 := HFN.out w5 hw5; have cy5 := convM hy; obtain ⟨d1, dL, dM, d4, _, _, _⟩ := HF.out w5 h5; clear hw5)
              | (go_at_call 36; refine (same_any A Q m d m2 d2 w.heap.size L M _ (by exact dL) (by exact dM) (by exact d4.size) hm3 hm4).mono ?_; rintro e w6 ⟨bs, rfl, hbs, hw6⟩; obtain rfl : bs = false := (by rw [hbs.out]; simp [hLM]); have h6 := h5.trans (hw6.mono h5.size); have cy6 := convM (hy.below hw6); obtain ⟨e1, _, _, _, _, _, _⟩ := HF.out w6 h6; clear hw6))
            all_goals
              go_wp2_with (fail)
              go_meet
              exact ⟨rfl, h6⟩
        case rest =>
          obtain ⟨rfl, hwc⟩ := hcut
          obtain ⟨_, _, _, _, r5, r6, r7⟩ := HF.out wc hwc
          have hT : [xa, blobsL L].flatten.length = ka + nx := by simp [r5.len, r6.len]
          have hrs := rs_two (w := wc) (B := wc.heap.size) (r5.more (Nat.le_trans hs34 r7)) (r6.more r7) (Nat.le_refl _) 23
          have hk8 := hak.out
          have HT := Lib.hid hT
          clear hT r5 r6
          go_wp2_with (fail)
          refine (join_ok _ 2 2 _ _ (ka + nx) _ hrs (by simp) (by omega) HT (by omega)).mono ?_
          rintro e w6 ⟨rfl, hb6, hw6⟩
          rw [size_alloc] at hb6 hw6
          have hbs6 := BS.ofBlk hb6 (ka + nx) HT.out.symm w6.heap.size hb6.lt
          have hl6 := hb6.lt
          clear hrs hb6
          go_wp2_with (fail)
          refine (read_any _ _ _ w6.heap.size _ _ hbs6 (Nat.le_refl _) (by omega)).mono ?_
          rintro e w7 ⟨g, rfl, hg, hrd, hw7⟩
          have e2 : [xa, blobsL L].flatten = xa ++ blobsL L := by simp
          rw [e2] at hrd
          have hg4 : w4.heap.size ≤ g := by omega
          have hw46 : Below w4.heap.size w4 w6 := (hwc.alloc r7 _).trans (hw6.mono (by omega))
          have hw47 : Below w4.heap.size w4 w7 := hw46.trans (hw7.mono hw46.size)
          clear hbs6 hw6 hw7 hw46 e2 hg hwc
          go_upto_region 13 with fail
          go_cut [94] (fun s94 wx => s94 = .bool false ∧ Rd wx g (some (blobsL L)) ∧ Below w4.heap.size w4 wx)
          case first =>
            rcases hac.out with ⟨f1, rfl, rfl, rfl⟩ | ⟨f1, rfl, rfl, rfl⟩
            · have hnum := number_any g (some (be n K.toNat ++ blobsL L)) K w7 hrd
              have hh := number_head n K (blobsL L) f1
              rw [hh.1, hh.2] at hnum
              have HN := Lib.hid hnum
              clear hnum hh f1 hrd
              go_wp2_with (first
                | (go_at_call 12; refine (num_ok _ _).mono ?_; rintro e w' ⟨rfl, rfl⟩)
                | (go_at_call 24; refine HN.out.mono ?_; rintro e w8 ⟨rfl, hrd8, hg8⟩))
              go_meet
              exact ⟨rfl, hrd8, hw47.grown hg8 hw47.size (by rintro k hk; cases hk; exact hg4)⟩
            · clear f1
              go_wp2_with (go_at_call 12; refine (num_ok _ _).mono ?_; rintro e w' ⟨rfl, rfl⟩)
              go_meet
              exact ⟨rfl, by simpa using hrd, hw47⟩
          case rest =>
            clear hrd hw47
            obtain ⟨rfl, hrd, hw47⟩ := hcut
            go_wp2_with (fail)
            go_loopg [17] m (fun gk i wx => ∃ j : Nat, j ≤ m ∧ gk = m - j ∧ i = .int .i64 j ∧ Rd wx g (some (blobsL (L.drop j))) ∧ Below w4.heap.size w4 wx)
            case atStart => exact ⟨0, Nat.zero_le _, by omega, rfl, by simpa using hrd, hw47⟩
            case round =>
              clear hrd hw47
              obtain ⟨j, hj, hgk, rfl, hrd, hB⟩ := hrel
              have HGK := Lib.hid hgk
              clear hgk
              by_cases hjm : j < m
              · obtain ⟨_, dL, _, _, _, _, _⟩ := HF.out wr hB
                obtain ⟨b, o, lj, Aj, nj, cj, rfl, hbb, hlx, hc, hr⟩ := dL.at' hjm
                have hp := part_le hlx
                have hp2 : lj.length < 65536 := by have := G2.out; omega
                have hd := drop_blobs hlx
                have hbh := blob_head lj (blobsL (L.drop (j + 1))) hp2
                rw [← hd] at hbh
                have hrb : ∀ W, Rd W g (some (blobsL (L.drop j))) → Calls Try.prog 28 #[.pointer (some ⟨g, 0, none⟩)] W (BytesPost W g (some (blobsL (L.drop (j + 1)))) lj) := fun W hW => by
                  have := rblb_any g _ W hW
                  rw [hbh.1, hbh.2] at this
                  exact this
                have HRB := Lib.hid hrb
                have HLX := Lib.hid hlx
                clear hp hp2 hd hbh hrb hlx
                go_upto_region 18 with fail
                go_cut [109] (fun s109 wx => s109 = .bool false ∧ Rd wx g (some (blobsL (L.drop (j + 1)))) ∧ Below w4.heap.size w4 wx)
                case first =>
                  have cj0 := convM hr.drew
                  have hfin : ∀ w9, wr.drew.grownBy w9 (some g) → Below w4.heap.size w4 w9 ∧ w9.cell? ⟨b, o + j, none⟩ = some (.slice Aj nj cj) ∧ (convert 23 9 (.slice Aj nj cj)).run Try.prog w9 = .ok (.string (strB lj)) w9 := fun w9 h9 =>
                    ⟨hB.drew.grown h9 hB.size (by rintro k hk; cases hk; exact hg4), (World.cell?_of_block (h9.block b (by have := hrd.lt; have := World.block_lt_of_cell? _ _ hc; exact this) (by rintro e; cases e; omega))).trans hc, convM (hr.drew.grown h9 (by have := hrd.lt; have := hB.size; simp; omega) (by rintro k hk; cases hk; omega))⟩
                  have HFI := Lib.hid hfin
                  clear hfin
                  go_wp2_with (fail)
                  go_region_with (go_at_call 28; refine (HRB.out _ (by exact hrd.drew)).mono ?_; rintro e w9 ⟨A9, n9, c9, rfl, hb9, hrd9, hg9⟩; obtain ⟨q1, q2, q3⟩ := HFI.out w9 hg9; have q4 := convM hb9; clear hg9)
                  all_goals
                    go_wp2_with (fail)
                    go_meet
                    exact ⟨rfl, hrd9, q1⟩
                case rest =>
                  obtain ⟨rfl, r1, r2⟩ := hcut
                  go_wp2_with (fail)
                  go_roundg (m - (j + 1))
                  case measure => have := HGK.out; omega
                  case rel => exact ⟨j + 1, by omega, rfl, by go_num, r1, r2⟩
              · obtain rfl : j = m := by omega
                obtain ⟨_, dL, _, d4, _, d6, d7⟩ := HF.out wr hB
                have e0 : L.drop j = [] := List.drop_of_length_le (by rw [dL.len]; exact Nat.le_refl _)
                rw [e0] at hrd
                clear e0 dL
                go_wp2_with (fail)
                refine (hex_ok Ax nx cx w4.heap.size (blobsL L) _ d6 d7 (by omega)).mono ?_
                rintro e w10 ⟨rfl, hw10⟩
                have hrd10 := hrd.below hw10 hrd.lt
                have d6' := d6.below (hw10.mono d7)
                have hs10 := hw10.size
                have HD4 := Lib.hid d4
                clear d4
                go_wp2_with (fail)
                refine (ofhex_back (blobsL L) _ hXl).mono ?_
                rintro e w11 ⟨A11, q11, c11, rfl, hy11, hb11⟩
                have cy := convM hy11
                have cx2 := convM (d6'.below (hb11.mono (Nat.le_trans d7 hs10)))
                have hend : Calls Try.prog 33 #[.pointer (some ⟨g, 0, none⟩)] w11 fun e w' => e = .returned (.int .i64 0) ∧ w11 = w' := end_any g _ w11 (hrd10.below hb11 (Nat.lt_of_lt_of_le hrd.lt hs10))
                have HE := Lib.hid hend
                have hfin : Below w.heap.size w w11 := (HD4.out.trans (hw10.mono HD4.out.size)).trans (hb11.mono (Nat.le_trans HD4.out.size hs10))
                have HFI := Lib.hid hfin
                clear hend hfin hb11 hy11
                go_wp2_with (first
                  | (go_at_call 12; refine (num_ok _ _).mono ?_; rintro e w' ⟨rfl, rfl⟩)
                  | (go_at_call 33; refine HE.out.mono ?_; rintro e w' ⟨rfl, rfl⟩))
                go_ret
                exact ⟨rfl, HFI.out⟩
    · go_wp2_with (fail)
      go_ret
      exact ⟨rfl, hw1⟩
  · go_wp2_with (fail)
    go_ret
    exact ⟨rfl, hw1⟩
end Go.Proofs.Ytfjjpepnadcaaaa
