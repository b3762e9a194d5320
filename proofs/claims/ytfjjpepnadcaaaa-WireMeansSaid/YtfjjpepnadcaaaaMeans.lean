/- Walks of 'blobs' and 'same'. -/
import Derived.Test.YtfjjpepnadcaaaaJoin
import Derived.Test.YtfjjpepnadcaaaaMeansPure
import Derived.Deep.RegionWith
import Derived.Deep.QuietTactic
import Derived.BigQuiet
import Derived.Deep.DeepCutAuto
namespace Go.Proofs.Ytfjjpepnadcaaaa
set_option linter.unusedVariables false
open Go.RowKit

theorem convM {w : World} {B n c : Nat} {A : Option Addr} {l : List UInt8} (h : BS w B A n c l) : (convert 23 9 (.slice A n c)).run Try.prog w = .ok (.string (strB l)) w :=
  run_str h 23 5 9 Try.underlying23 Try.underlying5 Try.underlying9
theorem take_snocL {L : List (List UInt8)} {k : Nat} {l : List UInt8} (h : L[k]? = some l) : L.take (k + 1) = L.take k ++ [l] := by
  obtain ⟨hk, rfl⟩ := List.getElem?_eq_some_iff.1 h
  exact List.take_succ_eq_append_getElem hk
theorem take_flat (L : List (List UInt8)) (k : Nat) : (L.take k).flatten.length ≤ L.flatten.length := flat_le L k

def BlobsPost (l : List UInt8) (w : World) (e : Ending) (w' : World) : Prop :=
  ∃ A n c, e = .returned (.slice A n c) ∧ BS w' w'.heap.size A n c l ∧ Below w.heap.size w w'
set_option maxHeartbeats 1000000 in
theorem blobs_any (A : Option Addr) (n c B : Nat) (L : List (List UInt8)) (w : World) (hL : RS w B A n c L) (hB : B ≤ w.heap.size) (hn : n ≤ 3000) (hT : L.flatten.length ≤ 3000) :
    Calls Try.prog 35 #[.slice A n c] w (BlobsPost (blobsL L) w) := by
  have HT := Lib.hid hT
  clear hT
  go_enter Try.func35, Try.ntmps35
  go_wp2_with (fail)
  go_loopw [3, 4] (fun v i wr => ∃ j : Nat, j ≤ n ∧ i = .int .i64 j ∧ ∃ Ao no co, v = .slice Ao no co ∧ BS wr wr.heap.size Ao no co (blobsL (L.take j)) ∧ Below w.heap.size w wr) (fun _ i _ => n - (intOf i).toNat)
  case atStart => exact ⟨0, Nat.zero_le _, rfl, none, 0, 0, rfl, BS.nil _ _, Below.refl _ _⟩
  case round =>
    obtain ⟨j, hj, rfl, Ao, no, co, rfl, hbs, hb⟩ := hrel
    by_cases hjn : j < n
    · obtain ⟨b, o, lj, Aj, nj, cj, rfl, hbb, hx, hc, hr⟩ := (hL.below (hb.mono hB)).at' hjn
      have hst := take_snocL hx
      have hbn := blobsL_snoc (L.take j) lj
      rw [← hst] at hbn
      have hf1 := take_flat L (j + 1)
      rw [hst, List.flatten_append, List.length_append] at hf1
      have hl1 := blobsL_len (L.take j)
      rw [List.length_take, hL.len] at hl1
      have hsz : nj ≤ 3000 ∧ no ≤ 9000 := by
        have h0 := HT.out
        have h1 := hr.len
        have h2 := hbs.len
        have h4 : [lj].flatten.length = lj.length := by simp
        rw [h4] at hf1
        have h5 := take_flat L (j + 1)
        have h3 := take_flat L j
        have h6 : (L.take (j + 1)).flatten.length = (L.take j).flatten.length + lj.length := by rw [hst, List.flatten_append, List.length_append, h4]
        constructor
        · omega
        · omega
      obtain ⟨hsz1, hsz2⟩ := hsz
      have HBN := Lib.hid hbn
      have HX := Lib.hid hx
      have hnl := hbs.len
      have HNL := Lib.hid hnl
      clear hst hbn hf1 hl1 hx hnl
      go_wp2_with (fail)
      refine (blob_ok Aj nj cj B lj _ hr (Nat.le_trans hB hb.size) (by omega)).mono ?_
      rintro e w1 ⟨g, rfl, hg, hb1, hw1⟩
      have hbl := blob_len lj
      have hrl := hr.len
      have hT2 : [blobsL (L.take j), blob lj].flatten.length = no + (2 + nj) := by simp [hbl, hrl, HNL.out]
      have hrs := rs_two (w := w1) (B := w1.heap.size) ((hbs.below hw1).more hw1.size) (BS.ofBlk hb1 (2 + nj) (by rw [hbl, hrl]) w1.heap.size hb1.lt) (Nat.le_refl _) 23
      have hs1 := hw1.size
      have HT2 := Lib.hid hT2
      clear hbl hrl hT2
      go_wp2_with (fail)
      refine (join_ok _ 2 2 _ _ (no + (2 + nj)) _ hrs (by simp) (by omega) HT2 (by omega)).mono ?_
      rintro e w2 ⟨rfl, hb2, hw2⟩
      rw [size_alloc] at hb2 hw2
      have e2 : [blobsL (L.take j), blob lj].flatten = blobsL (L.take (j + 1)) := by rw [HBN.out]; simp [blob]
      have hfin := BS.ofBlk hb2 (no + (2 + nj)) HT2.out.symm w2.heap.size hb2.lt
      rw [e2] at hfin
      have hbx : Below w.heap.size w w2 := (hb.trans (hw1.mono hb.size)).trans ((((Below.refl _ _).alloc (Nat.le_refl _) _).trans (hw2.mono (by omega))).mono (Nat.le_trans hb.size hs1))
      clear hrs e2 hb2 hw2
      go_wp2_with (fail)
      go_roundw
      case rel => exact ⟨j + 1, by omega, by go_num, _, _, _, rfl, hfin, hbx⟩
      case measure => simp [intOf]; omega
    · obtain rfl : j = n := by omega
      have e : L.take j = L := List.take_of_length_le (by rw [hL.len]; exact Nat.le_refl _)
      rw [e] at hbs
      go_wp2_with (fail)
      go_ret
      exact ⟨Ao, no, co, rfl, hbs, hb⟩

def SamePost (L M : List (List UInt8)) (w : World) (e : Ending) (w' : World) : Prop :=
  ∃ b : Bool, e = .returned (.bool b) ∧ Hid (b = decide (L = M)) ∧ Below w.heap.size w w'
theorem same_take {L M : List (List UInt8)} {j : Nat} {l m : List UInt8} (h : L.take j = M.take j) (h1 : L[j]? = some l) (h2 : M[j]? = some m) (h3 : l = m) : L.take (j + 1) = M.take (j + 1) := by
  rw [take_snocL h1, take_snocL h2, h, h3]
set_option maxHeartbeats 1000000 in
theorem same_any (A A2 : Option Addr) (n c n2 c2 B : Nat) (L M : List (List UInt8)) (w : World) (hL : RS w B A n c L) (hM : RS w B A2 n2 c2 M) (hB : B ≤ w.heap.size) (hn : n ≤ 3000) (hn2 : n2 ≤ 3000) :
    Calls Try.prog 36 #[.slice A n c, .slice A2 n2 c2] w (SamePost L M w) := by
  by_cases hne : n = n2
  · obtain rfl : n2 = n := hne.symm
    have h0 : ((n2 : Int) != (n2 : Int)) = false := by simp
    go_enter Try.func36, Try.ntmps36
    go_wp2_with (fail)
    go_loopw [5] (fun i wr => ∃ j : Nat, j ≤ n2 ∧ i = .int .i64 j ∧ Hid (L.take j = M.take j) ∧ Below w.heap.size w wr) (fun i _ => n2 - (intOf i).toNat)
    case atStart => exact ⟨0, Nat.zero_le _, rfl, Lib.hid rfl, Below.refl _ _⟩
    case round =>
      obtain ⟨j, hj, rfl, heq, hb⟩ := hrel
      by_cases hjn : j < n2
      · obtain ⟨b, o, lj, Aj, nj, cj, rfl, hbb, hx, hc, hr⟩ := (hL.below (hb.mono hB)).at' hjn
        obtain ⟨b', o', mj, A', n', c', rfl, hbb', hx', hc', hr'⟩ := (hM.below (hb.mono hB)).at' hjn
        have hc1 := convM hr.drew
        have hc2 := convM hr'.drew
        have HX := Lib.hid hx
        have HX' := Lib.hid hx'
        clear hx hx'
        by_cases he : lj = mj
        · subst he
          go_wp2_with (fail)
          go_region_with (fail)
          all_goals
            go_wp2_with (fail)
            go_roundw
            case rel => exact ⟨j + 1, by omega, by go_num, Lib.hid (same_take heq.out HX.out HX'.out rfl), hb.drew⟩
            case measure => simp [intOf]; omega
        · have hs : ((strB lj).toList == (strB mj).toList) = false := by rw [strB_toList, strB_toList]; simpa using he
          have hfin : false = decide (L = M) := by
            rw [eq_comm, decide_eq_false_iff_not]
            intro e
            have h1 := HX.out
            rw [e, HX'.out] at h1
            injection h1 with h1
            exact he h1.symm
          have HF := Lib.hid hfin
          clear hfin he
          go_wp2_with (fail)
          go_region_with (fail)
          all_goals
            go_wp2_with (fail)
            go_ret
            exact ⟨false, rfl, HF.out, hb.drew⟩
      · obtain rfl : j = n2 := by omega
        have hfin : true = decide (L = M) := by
          rw [eq_comm, decide_eq_true_eq]
          have h1 := heq.out
          rw [List.take_of_length_le (by rw [hL.len]; exact Nat.le_refl _), List.take_of_length_le (by rw [hM.len]; exact Nat.le_refl _)] at h1
          exact h1
        have HF := Lib.hid hfin
        clear hfin
        go_wp2_with (fail)
        go_ret
        exact ⟨true, rfl, HF.out, hb⟩
  · have h0 : ((n : Int) != (n2 : Int)) = true := by simp; omega
    have hfin : false = decide (L = M) := by
      rw [eq_comm, decide_eq_false_iff_not]
      intro e
      have h1 := hL.len
      rw [e, hM.len] at h1
      exact hne h1.symm
    have HF := Lib.hid hfin
    clear hfin hne
    go_enter Try.func36, Try.ntmps36
    go_wp2_with (fail)
    go_ret
    exact ⟨false, rfl, HF.out, Below.refl _ _⟩
end Go.Proofs.Ytfjjpepnadcaaaa
