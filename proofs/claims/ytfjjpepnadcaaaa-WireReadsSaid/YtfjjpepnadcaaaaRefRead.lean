/- Walks of the document's reader: Cut, Number, Blob, Key, Done. -/
import Derived.Test.YtfjjpepnadcaaaaKey
namespace Go.Proofs.Ytfjjpepnadcaaaa
open Go.RowKit

/-- The document's reader in block g: what is left, in blocks below B; 'none': it is bad. -/
def RRdB (w : World) (B g : Nat) : Option (List UInt8) → Prop
  | none => ∃ A n c, Blk w g 50 #[.slice A n c, .bool true]
  | some l => ∃ A n c, Blk w g 50 #[.slice A n c, .bool false] ∧ BS w B A n c l ∧ n ≤ 1000000000

def RCutPost (w : World) (B g : Nat) (st : Option (List UInt8)) (v : List UInt8) (e : Ending) (w' : World) : Prop :=
  ∃ A n c, e = .returned (.slice A n c) ∧ BS w' B A n c v ∧ RRdB w' B g st ∧ w.grownBy w' (some g)
def RNumPost (w : World) (B g : Nat) (st : Option (List UInt8)) (v : Nat) (e : Ending) (w' : World) : Prop :=
  e = .returned (.int .u64 v) ∧ RRdB w' B g st ∧ w.grownBy w' (some g)

theorem RRdB.lt {w : World} {B g : Nat} {st : Option (List UInt8)} (h : RRdB w B g st) : g < w.heap.size := by
  cases st with
  | none => obtain ⟨_, _, _, h⟩ := h; exact Blk.lt h
  | some l => obtain ⟨_, _, _, h, _⟩ := h; exact h.lt
theorem RRdB.drew {w : World} {B g : Nat} {st : Option (List UInt8)} (h : RRdB w B g st) : RRdB w.drew B g st := by
  cases st with
  | none => exact h
  | some l => obtain ⟨A, n, c, h1, h2, h3⟩ := h; exact ⟨A, n, c, h1.drew, h2.drew, h3⟩
theorem RRdB.below {w w' : World} {B g B' : Nat} {st : Option (List UInt8)} (h : RRdB w B g st) (hb : Below B' w w') (hB : g < B') (hBB : B ≤ g) : RRdB w' B g st := by
  cases st with
  | none => obtain ⟨A, n, c, h⟩ := h; exact ⟨A, n, c, Blk.below h hb hB⟩
  | some l => obtain ⟨A, n, c, h1, h2, h3⟩ := h; exact ⟨A, n, c, h1.below hb hB, h2.below (hb.mono (by omega)), h3⟩
theorem RRdB.other {w w' : World} {B g r : Nat} {st : Option (List UInt8)} (h : RRdB w B g st) (hg : w.grownBy w' (some r)) (hr : g ≠ r) (hBr : B ≤ r) (hBs : B ≤ w.heap.size) : RRdB w' B g st := by
  cases st with
  | none => obtain ⟨A, n, c, h⟩ := h; exact ⟨A, n, c, Blk.row h hg hr⟩
  | some l => obtain ⟨A, n, c, h1, h2, h3⟩ := h; exact ⟨A, n, c, h1.row hg hr, h2.grown hg hBs (by rintro k hk; cases hk; exact hBr), h3⟩
theorem BS.rowB {w w' : World} {B g n c : Nat} {A : Option Addr} {l : List UInt8} (h : BS w B A n c l) (hg : w.grownBy w' (some g)) (hB : B ≤ g) (hlt : g < w.heap.size) : BS w' B A n c l :=
  h.grown hg (by omega) (by rintro k hk; cases hk; exact hB)

set_option maxHeartbeats 400000 in
theorem cut_bad (g : Nat) (A : Option Addr) (m c : Nat) (n : Int) (w : World) (hb : Blk w g 50 #[.slice A m c, .bool true]) :
    Calls Try.prog 27 #[.pointer (some ⟨g, 0, none⟩), .int .i64 n] w fun e w' => e = .returned (.slice none 0 0) ∧ Blk w' g 50 #[.slice A m c, .bool true] ∧ w.grownBy w' (some g) := by
  have hc0 := hb.cell 0
  have hc1 := hb.cell 1
  have hf := hb.frozen 1
  simp at hc0 hc1
  go_enter Try.func27, Try.ntmps27
  go_wp2
  go_ret
  exact ⟨rfl, by simpa using hb.set_ 1 (.bool true), grown_set _ _ _ _⟩
set_option maxHeartbeats 400000 in
theorem cut_out (g : Nat) (A : Option Addr) (m c : Nat) (n : Int) (w : World) (hb : Blk w g 50 #[.slice A m c, .bool false]) (hn : n < 0 ∨ (m : Int) < n) :
    Calls Try.prog 27 #[.pointer (some ⟨g, 0, none⟩), .int .i64 n] w fun e w' => e = .returned (.slice none 0 0) ∧ Blk w' g 50 #[.slice A m c, .bool true] ∧ w.grownBy w' (some g) := by
  have hc0 := hb.cell 0
  have hc1 := hb.cell 1
  have hf := hb.frozen 1
  simp at hc0 hc1
  rcases hn with hn | hn
  all_goals
    go_enter Try.func27, Try.ntmps27
    go_wp2
    all_goals
      go_ret
      exact ⟨rfl, by simpa using hb.set_ 1 (.bool true), grown_set _ _ _ _⟩
set_option maxHeartbeats 400000 in
theorem cut_in (B g : Nat) (A : Option Addr) (m c k : Nat) (l : List UInt8) (w : World) (hb : Blk w g 50 #[.slice A m c, .bool false]) (hl : BS w B A m c l) (hB : B ≤ g) (hk : k ≤ m) (hm : m ≤ 1000000000) :
    Calls Try.prog 27 #[.pointer (some ⟨g, 0, none⟩), .int .i64 k] w fun e w' => ∃ A', e = .returned (.slice A k c) ∧ Blk w' g 50 #[.slice A' (m - k) (c - k), .bool false] ∧ BS w' B A' (m - k) (c - k) (l.drop k) ∧ w.grownBy w' (some g) := by
  have hc0 := hb.cell 0
  have hc1 := hb.cell 1
  have hf := hb.frozen 0
  simp at hc0 hc1
  have hkc := hl.cap
  have h1 := fun W => run_head2 (P := Try.prog) 23 5 Try.underlying23 info_u8 A m c k (by omega) W
  obtain ⟨A', h2, h3⟩ := hl.tail (P := Try.prog) 23 5 Try.underlying23 info_u8 hk
  go_enter Try.func27, Try.ntmps27
  go_wp2
  go_ret
  exact ⟨A', rfl, by simpa using hb.set_ 0 (.slice A' (m - k) (c - k)), h3.rowB (grown_set _ _ _ _) hB hb.lt, grown_set _ _ _ _⟩

theorem cut_any (B g : Nat) (st : Option (List UInt8)) (n : Int) (w : World) (h : RRdB w B g st) (hB : B ≤ g) :
    Calls Try.prog 27 #[.pointer (some ⟨g, 0, none⟩), .int .i64 n] w (RCutPost w B g (cutS st n) (cutV st n)) := by
  have hlt := h.lt
  cases st with
  | none =>
    obtain ⟨A, m, c, h⟩ := h
    refine (cut_bad g A m c n w h).mono ?_
    rintro e w' ⟨rfl, h1, h2⟩
    exact ⟨none, 0, 0, rfl, BS.nil _ _, ⟨A, m, c, h1⟩, h2⟩
  | some l =>
    obtain ⟨A, m, c, h1, h2, h3⟩ := h
    have hl := h2.len
    by_cases h0 : 0 ≤ n ∧ n ≤ l.length
    · obtain ⟨k, rfl⟩ := Int.eq_ofNat_of_zero_le h0.1
      have hk : k ≤ m := by have := h0.2; omega
      refine (cut_in B g A m c k l w h1 h2 hB hk h3).mono ?_
      rintro e w' ⟨A', rfl, h4, h5, h6⟩
      have e1 : cutS (some l) (k : Int) = some (l.drop k) := by simp [cutS, h0.2]
      have e2 : cutV (some l) (k : Int) = l.take k := by simp [cutV, h0.2]
      rw [e1, e2]
      exact ⟨A, k, c, rfl, (h2.rowB h6 hB hlt).head2 hk, ⟨A', m - k, c - k, h4, h5, by omega⟩, h6⟩
    · refine (cut_out g A m c n w h1 (by omega)).mono ?_
      rintro e w' ⟨rfl, h4, h5⟩
      have e1 : cutS (some l) n = none := by simp only [cutS]; rw [if_neg h0]
      have e2 : cutV (some l) n = [] := by simp only [cutV]; rw [if_neg h0]
      rw [e1, e2]
      exact ⟨none, 0, 0, rfl, BS.nil _ _, ⟨A, m, c, h4⟩, h5⟩

set_option maxHeartbeats 400000 in
theorem rnumber_any (B g : Nat) (st : Option (List UInt8)) (K : Int) (w : World) (h : RRdB w B g st) (hB : B ≤ g) :
    Calls Try.prog 25 #[.pointer (some ⟨g, 0, none⟩), .int .i64 K] w (RNumPost w B g (numS st K) (numV st K)) := by
  by_cases hK : 1 ≤ K ∧ K ≤ 8
  · have hs : sizeB K = true := by simp [sizeB]; omega
    have e1 : numS st K = cutS st K := by simp [numS, hs]
    have e2 : numV st K = num (cutV st K) := by simp [numV, hs]
    rw [e1, e2]
    have hcl := cutV_len st K
    have hlen : (cutV st K).length ≤ 8 := by
      rcases hcl with ⟨h1, _⟩ | h1
      · rw [h1]; simp
      · omega
    obtain ⟨hK1, hK2⟩ := hK
    clear hcl hs e1 e2
    go_enter Try.func25, Try.ntmps25
    go_wp2_with (fail)
    refine (cut_any B g st K _ h hB).mono ?_
    rintro e w1 ⟨A, n, c, rfl, hbs, hrd, hg⟩
    have hn : n ≤ 8 := by rw [← hbs.len]; exact hlen
    have HG := Lib.hid hg
    clear hg
    go_wp2_with (fail)
    refine (rget_ok A n c B _ _ hbs hn).mono ?_
    rintro e w' ⟨rfl, rfl⟩
    go_wp2_with (fail)
    go_ret
    exact ⟨rfl, hrd, HG.out⟩
  · have hs : sizeB K = false := by simp [sizeB]; omega
    have e1 : numS st K = none := by simp [numS, hs]
    have e2 : numV st K = 0 := by simp [numV, hs]
    rw [e1, e2]
    clear e1 e2 hs
    have key : ∀ (A : Option Addr) (m c : Nat) (b : Bool), Blk w g 50 #[.slice A m c, .bool b] → Calls Try.prog 25 #[.pointer (some ⟨g, 0, none⟩), .int .i64 K] w (RNumPost w B g none 0) := by
      intro A m c b hb
      have hc1 := hb.cell 1
      have hf := hb.frozen 1
      simp at hc1
      have hK' : K < 1 ∨ 8 < K := by omega
      clear hK
      rcases hK' with hK | hK
      all_goals
        go_enter Try.func25, Try.ntmps25
        go_wp2
        go_ret
        exact ⟨rfl, ⟨A, m, c, by simpa using hb.set_ 1 (.bool true)⟩, grown_set _ _ _ _⟩
    cases st with
    | none => obtain ⟨A, m, c, h⟩ := h; exact key A m c _ h
    | some l => obtain ⟨A, m, c, h, _⟩ := h; exact key A m c _ h

set_option maxHeartbeats 400000 in
theorem rrblob_any (B g : Nat) (st : Option (List UInt8)) (w : World) (h : RRdB w B g st) (hB : B ≤ g) :
    Calls Try.prog 29 #[.pointer (some ⟨g, 0, none⟩)] w (RCutPost w B g (blobS st) (blobV st)) := by
  have hv := numV_two st
  go_enter Try.func29, Try.ntmps29
  go_wp2_with (fail)
  refine (rnumber_any B g st 2 _ h hB).mono ?_
  rintro e w1 ⟨rfl, hrd, hg⟩
  have HG := Lib.hid hg
  clear hg
  go_wp2_with (fail)
  refine (cut_any B g _ _ _ hrd hB).mono ?_
  rintro e w2 ⟨A, n, c, rfl, hbs, hrd2, hg2⟩
  go_wp2_with (fail)
  go_ret
  exact ⟨A, n, c, rfl, hbs, hrd2, grown_trans HG.out hg2⟩

def doneV : Option (List UInt8) → Bool
  | none => false
  | some l => l.length == 0
set_option maxHeartbeats 400000 in
theorem done_bad (g : Nat) (A : Option Addr) (m c : Nat) (w : World) (hb : Blk w g 50 #[.slice A m c, .bool true]) :
    Calls Try.prog 34 #[.pointer (some ⟨g, 0, none⟩)] w fun e w' => e = .returned (.bool false) ∧ w = w' := by
  have hc1 := hb.cell 1
  simp at hc1
  go_enter Try.func34, Try.ntmps34
  go_wp2
  go_ret
  exact ⟨rfl, rfl⟩
set_option maxHeartbeats 400000 in
theorem done_some (g : Nat) (A : Option Addr) (m c : Nat) (w : World) (hb : Blk w g 50 #[.slice A m c, .bool false]) :
    Calls Try.prog 34 #[.pointer (some ⟨g, 0, none⟩)] w fun e w' => e = .returned (.bool (m == 0)) ∧ w = w' := by
  have hc0 := hb.cell 0
  have hc1 := hb.cell 1
  simp at hc0 hc1
  by_cases hm : m = 0
  · subst hm
    go_enter Try.func34, Try.ntmps34
    go_wp2
    go_ret
    exact ⟨rfl, rfl⟩
  · have e : (m == 0) = false := by simpa using hm
    have h0 : ((m : Int) == 0) = false := by simp; omega
    rw [e]
    clear e hm
    go_enter Try.func34, Try.ntmps34
    go_wp2
    go_ret
    exact ⟨rfl, rfl⟩
theorem done_any (B g : Nat) (st : Option (List UInt8)) (w : World) (h : RRdB w B g st) :
    Calls Try.prog 34 #[.pointer (some ⟨g, 0, none⟩)] w fun e w' => e = .returned (.bool (doneV st)) ∧ w = w' := by
  cases st with
  | none => obtain ⟨A, m, c, h⟩ := h; exact done_bad g A m c w h
  | some l =>
    obtain ⟨A, m, c, h1, h2, h3⟩ := h
    have := done_some g A m c w h1
    rw [← h2.len] at this
    exact this

/-! Key -/
theorem grown_new {a w : World} {row : Option Nat} (h : a.grownBy w row) {p : Addr} (hp : a.heap.size ≤ p.block) (u : Value) : a.grownBy (w.setCell p u) row :=
  ⟨h.os, h.tape, h.output, by simpa [World.setCell] using h.size, fun i hi hne => (Below.heap_setCell _ _ _ _ (by omega)).trans (h.block i hi hne)⟩
theorem grown_setRow {a w : World} {row : Option Nat} (h : a.grownBy w row) {g : Nat} (hp : a.heap.size ≤ g) (cs : Array Value) : a.grownBy (w.setRow g cs) row :=
  ⟨h.os, h.tape, h.output, by simpa using h.size, fun i hi hne => (setRow_other w g i _ (by omega)).trans (h.block i hi hne)⟩
def keySt (v : List UInt8) (j : Nat) : List UInt8 := v.take j ++ zeros (32 - j)
theorem keySt_step {v : List UInt8} {j : Nat} {x : UInt8} (hx : v[j]? = some x) (hj : j < 32) : (keySt v j).set j x = keySt v (j + 1) := by
  have hv : j < v.length := (List.getElem?_eq_some_iff.1 hx).1
  unfold keySt
  rw [take_snoc hx, List.set_append_right _ _ (by rw [List.length_take]; omega), show 32 - j = (32 - (j + 1)) + 1 by omega]
  rw [List.length_take, show j - min j v.length = 0 by omega]
  simp [zeros, List.replicate_succ]
theorem keySt_at {v : List UInt8} {j : Nat} (hv : j < v.length) (hj : j < 32) : (keySt v j)[j]? = some 0 := by
  unfold keySt
  rw [List.getElem?_append_right (by rw [List.length_take]; omega), List.length_take, show j - min j v.length = 0 by omega]
  rw [zeros, List.getElem?_replicate, if_pos (by omega)]
theorem info_arr : (Try.prog.info? 56).map (·.size) = some 32 := by kernel_rfl
def RKeyPost (w : World) (B g : Nat) (st : Option (List UInt8)) (e : Ending) (w' : World) : Prop :=
  e = .returned (.agg (bvs (keyV st))) ∧ RRdB w' B g (keyS st) ∧ w.grownBy w' (some g)
set_option maxHeartbeats 1000000 in
theorem rkey_any (B g : Nat) (st : Option (List UInt8)) (w : World) (h : RRdB w B g st) (hB : B ≤ g) :
    Calls Try.prog 31 #[.pointer (some ⟨g, 0, none⟩)] w (RKeyPost w B g st) := by
  have hlt := h.lt
  have hnext : ∀ w0 : World, (w.alloc (.cells (bvs (zeros 32)) 56)).alloc (.cells (bvs (zeros 32)) 56) = w0 →
      RRdB w0 B g st ∧ Blk w0 w.heap.size 56 (bvs (zeros 32)) ∧ Blk w0 (w.heap.size + 1) 56 (bvs (zeros 32)) ∧ w.grownBy w0 (some g) := by
    rintro w0 rfl
    exact ⟨h.below (((Below.refl w.heap.size w).alloc (Nat.le_refl _) _).alloc (by simp) _) hlt hB, (Blk.new w 56 (bvs (zeros 32))).alloc _, Blk.new' _ _ _ _ (by simp),
      World.grownBy.trans (World.grownBy_alloc w _ _) (World.grownBy_alloc _ _ _)⟩
  have HN := Lib.hid hnext
  clear hnext h
  go_enter Try.func31, Try.ntmps31
  go_wp2_with (fail)
  obtain ⟨q1, q2, q3, q4⟩ := HN.out _ rfl
  refine (cut_any B g st 32 _ q1 hB).mono ?_
  rintro e w1 ⟨A, n, c, rfl, hbs, hrd, hg⟩
  have k2 := q2.row hg (by omega)
  have k3 := q3.row hg (by omega)
  have k4 := World.grownBy.trans q4 hg
  have hn : n ≤ 32 := by rw [← hbs.len]; exact cut32 st
  have hlen := hbs.len
  have HL := Lib.hid hlen
  obtain ⟨v, hv⟩ : ∃ v, v = cutV st 32 := ⟨_, rfl⟩
  rw [← hv] at hbs HL
  have HV := Lib.hid hv
  clear hg q1 q2 q3 q4 HN hlen hv
  go_wp2_with (fail)
  go_loopw [5] (fun i wr => ∃ j : Nat, j ≤ n ∧ i = .int .i64 j ∧ Blk wr (w.heap.size + 1) 56 (bvs (keySt v j)) ∧ Blk wr w.heap.size 56 (bvs (zeros 32)) ∧ RRdB wr B g (keyS st) ∧ BS wr B A n c v ∧ w.grownBy wr (some g)) (fun i _ => n - (intOf i).toNat)
  case atStart => exact ⟨0, Nat.zero_le _, rfl, by simpa [keySt] using k3, k2, hrd, hbs, k4⟩
  case round =>
    clear k2 k3 k4 hrd hbs
    obtain ⟨j, hj, rfl, k3, k2, hrd, hbs, k4⟩ := hrel
    by_cases hjn : j < n
    · obtain ⟨b, o, x, rfl, hb, hx, hc⟩ := hbs.at' hjn
      have hvl : j < v.length := by have := HL.out; omega
      have hc2 : wr.cell? ⟨w.heap.size + 1, j, none⟩ = some (.int .u8 0) := by rw [k3.cell, bvs_get, keySt_at hvl (by omega)]; rfl
      have hf := k3.frozen j
      have HX := Lib.hid hx
      clear hx
      go_wp2
      go_roundw
      case rel =>
        have h1 := k3.set_ j (.int .u8 (x.toNat : Int))
        rw [bvs_set, keySt_step HX.out (by omega)] at h1
        refine ⟨j + 1, by omega, by go_num, h1, k2.far (p := ⟨w.heap.size + 1, j, none⟩) (by simp) _, ?_, ?_, grown_new k4 (p := ⟨w.heap.size + 1, j, none⟩) (by simp) _⟩
        · exact hrd.other (r := w.heap.size + 1) (grown_set _ _ _ _) (by omega) (by omega) (by have := hrd.lt; omega)
        · exact hbs.setCell (p := ⟨w.heap.size + 1, j, none⟩) (by simp; omega) _
      case measure => simp [intOf]; omega
    · obtain rfl : j = n := by omega
      have e : keySt v j = keyV st := by
        unfold keySt keyV
        rw [← HV.out, List.take_of_length_le (by have := HL.out; omega), HL.out]
      rw [e] at k3
      have hsz : (Try.prog.info? 56).map (·.size) = some (bvs (keyV st)).size := by rw [bvs_size, keyV_len]; exact info_arr
      have h32 : (bvs (zeros 32)).size = (bvs (keyV st)).size := by rw [bvs_size, bvs_size, keyV_len, zeros_len]
      have h3 : w.grownBy (wr.setRow w.heap.size (bvs (keyV st))) (some g) := grown_setRow k4 (Nat.le_refl _) _
      have h4 : RRdB (wr.setRow w.heap.size (bvs (keyV st))) B g (keyS st) :=
        hrd.other (r := w.heap.size) ⟨rfl, rfl, rfl, by simp, fun k _ hk => setRow_other wr w.heap.size k _ (fun h => hk (by rw [h]))⟩ (by omega) (by omega) (by have := hrd.lt; omega)
      have h5 := setRow_heap wr w.heap.size (bvs (zeros 32)) (bvs (keyV st)) 56 (0, 0) k2
      have H1 := Lib.hid hsz
      have H2 := Lib.hid h32
      have H5 := Lib.hid h5
      clear hsz h32 h5 e
      go_wp2_with (first
        | (refine wpList_load_row rfl 56 (.tmp 3) rfl (w.heap.size + 1) rfl 56 (bvs (keyV st)) (0, 0) _ k3 Try.underlying56 rfl H1.out ?_)
        | (refine wpList_store_row rfl 56 (.tmp 2) (.tmp 20) rfl w.heap.size (bvs (keyV st)) rfl rfl 56 (bvs (zeros 32)) k2 H1.out H2.out (bvs_one _) ?_))
      exact bodyPost_ret (results_cell_row rfl _ _ w.heap.size 56 (bvs (keyV st)) (0, 0) _ rfl H5.out Try.underlying56 rfl H1.out) rfl ⟨rfl, h4, h3⟩
end Go.Proofs.Ytfjjpepnadcaaaa
