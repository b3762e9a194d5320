/- The walk of WireReads. -/
import Derived.Test.YtfjjpepnadcaaaaKnown
import Derived.Test.YtfjjpepnadcaaaaRefRead
import Derived.Deep.DeepCutAuto
import Derived.BigQuiet
import Derived.Deep.CutBlock
import Derived.Deep.LoopGhost
namespace Go.Proofs.Ytfjjpepnadcaaaa
open Go.RowKit

/-- The slice '(A, n)' of asks reads as the pairs qs. -/
structure AS (w : World) (B : Nat) (A : Option Addr) (n : Nat) (qs : List (Int × Int)) : Prop where
  len : qs.length = n
  at_ : 0 < n → ∃ b o, A = some ⟨b, o, none⟩ ∧ b < B ∧ ∀ j k m, qs[j]? = some (k, m) → w.cell? ⟨b, o + j * 2, none⟩ = some (.int .i64 k) ∧ w.cell? ⟨b, o + j * 2 + 1, none⟩ = some (.int .i64 m)
theorem AS.at' {w : World} {B n : Nat} {A : Option Addr} {qs : List (Int × Int)} (h : AS w B A n qs) {j : Nat} (hj : j < n) : ∃ b o k m, A = some ⟨b, o, none⟩ ∧ b < B ∧ w.cell? ⟨b, o + j * 2, none⟩ = some (.int .i64 k) ∧ w.cell? ⟨b, o + j * 2 + 1, none⟩ = some (.int .i64 m) := by
  obtain ⟨b, o, e, hb, hc⟩ := h.at_ (by omega)
  have hl : j < qs.length := by have := h.len; omega
  obtain ⟨h1, h2⟩ := hc j qs[j].1 qs[j].2 (List.getElem?_eq_getElem hl)
  exact ⟨b, o, _, _, e, hb, h1, h2⟩
theorem AS.keep {w w' : World} {B n : Nat} {A : Option Addr} {qs : List (Int × Int)} (h : AS w B A n qs) (hk : ∀ p : Addr, p.block < B → w'.cell? p = w.cell? p) : AS w' B A n qs :=
  ⟨h.len, fun hn => by
    obtain ⟨b, o, e, hb, hc⟩ := h.at_ hn
    exact ⟨b, o, e, hb, fun j k m hj => ⟨(hk _ hb).trans (hc j k m hj).1, (hk _ hb).trans (hc j k m hj).2⟩⟩⟩
theorem AS.below {w w' : World} {B n : Nat} {A : Option Addr} {qs : List (Int × Int)} (h : AS w B A n qs) (hb : Below B w w') : AS w' B A n qs := h.keep fun _ hp => hb.cell hp

/-- The slice '(A, n)' is the head of a block between lo and hi, whose first n cells are bytes. -/
def OwnArr (w : World) (A : Option Addr) (n lo hi : Nat) : Prop :=
  0 < n → ∃ go cur, A = some ⟨go, 0, none⟩ ∧ lo ≤ go ∧ go < hi ∧ Blk w go 5 cur ∧ ∀ i, i < n → ∃ x : UInt8, cur[i]? = some (.int .u8 (x.toNat : Int))
theorem ownArr_of {w : World} {base n c : Nat} {A : Option Addr} {l : List UInt8} (h : OwnB w base 5 (.slice A n c) l) (hn : n = l.length) : OwnArr w A n base w.heap.size := by
  intro h0
  rcases h.2 with ⟨e, h1⟩ | ⟨g, cap, cur, e, hb, hh, hc, hm, hs, ht⟩
  · omega
  · injection e with e1 e2 e3
    subst e1
    refine ⟨g, cur, rfl, hb, (Array.getElem?_eq_some_iff.1 hh).1, hh, fun i hi => ?_⟩
    have hil : i < l.length := by omega
    refine ⟨l[i], ?_⟩
    have h2 : (cur.toList.take (l.length * 1))[i]? = (l.map bv)[i]? := by rw [ht]
    rw [List.getElem?_take, if_pos (by omega), List.getElem?_map, List.getElem?_eq_getElem hil] at h2
    simp only [Option.map_some, Array.getElem?_toList] at h2
    exact h2
theorem plus_one (x : UInt8) : ((x.toNat : Int) + 1) % 256 = ((x + 1).toNat : Int) := by simp

theorem after_wire {w wr w4 : World} {g g2 : Nat} {st : Option (List UInt8)} (hB : Below w.heap.size w wr) (f2 : RRdB wr w.heap.size g2 st) (hg : wr.grownBy w4 (some g)) (hgg : g < g2) (hBg : w.heap.size ≤ g) :
    Below w.heap.size w w4 ∧ RRdB w4 w.heap.size g2 st :=
  ⟨hB.grown hg hB.size (by rintro k hk; cases hk; exact hBg), f2.other hg (by omega) hBg hB.size⟩
theorem after_ref {w w4 w5 : World} {g g2 : Nat} {st : Option (List UInt8)} (hB : Below w.heap.size w w4) (f1 : Rd w4 g st) (hg : w4.grownBy w5 (some g2)) (hgg : g < g2) (hBg : w.heap.size ≤ g) :
    Below w.heap.size w w5 ∧ Rd w5 g st :=
  ⟨hB.grown hg hB.size (by rintro k hk; cases hk; omega), f1.other hg hgg⟩

theorem conv {w : World} {B n c : Nat} {A : Option Addr} {l : List UInt8} (h : BS w B A n c l) : (convert 23 9 (.slice A n c)).run Try.prog w = .ok (.string (strB l)) w :=
  run_str h 23 5 9 Try.underlying23 Try.underlying5 Try.underlying9
theorem key_same (k : List UInt8) (h : k.length = 32) (W : World) : (Op.equalIn 10000 57 (.agg (bvs k)) (.agg (bvs k))).run Try.prog W = .ok true W := by
  have := key_eq k k h h W
  rw [beq_self_eq_true] at this
  exact this

set_option maxHeartbeats 400000 in
theorem reads_big (A Q : Option Addr) (n c m d : Nat) (w : World) (h : 9000 < n ∨ 60 < m) :
    Calls Try.prog 5 #[.slice A n c, .slice Q m d] w fun e w' => e = .returned (.bool true) ∧ Below w.heap.size w w' := by
  rcases h with h | h
  · go_enter Try.func5, Try.ntmps5
    go_wp2_with (go_at_call 8; refine (known_ok _).mono ?_; rintro e w' ⟨rfl, hw'⟩)
    go_ret
    exact ⟨rfl, hw'⟩
  · by_cases h0 : 9000 < n
    · go_enter Try.func5, Try.ntmps5
      go_wp2_with (go_at_call 8; refine (known_ok _).mono ?_; rintro e w' ⟨rfl, hw'⟩)
      go_ret
      exact ⟨rfl, hw'⟩
    · go_enter Try.func5, Try.ntmps5
      go_wp2_with (go_at_call 8; refine (known_ok _).mono ?_; rintro e w' ⟨rfl, hw'⟩)
      go_ret
      exact ⟨rfl, hw'⟩

set_option maxRecDepth 100000 in
set_option maxHeartbeats 8000000 in
theorem reads_small (A Q : Option Addr) (n c m d : Nat) (l : List UInt8) (qs : List (Int × Int)) (w : World) (hl : BS w w.heap.size A n c l) (hq : AS w w.heap.size Q m qs) (hn : n ≤ 9000) (hm : m ≤ 60) :
    Calls Try.prog 5 #[.slice A n c, .slice Q m d] w fun e w' => e = .returned (.bool true) ∧ Below w.heap.size w w' := by
  have hn9 : decide ((9000 : Int) < (n : Int)) = false := by simp; omega
  have hm6 : decide ((60 : Int) < (m : Int)) = false := by simp; omega
  go_enter Try.func5, Try.ntmps5
  go_wp2_with (at_builtin; refine wpList_app_own rfl (.const (.slice none 0 0)) (.tmp 20) 23 rfl 5 Try.underlying23 info_u8 w.heap.size (.slice none 0 0) [] rfl (OwnB.nil _ _ _) w.heap.size n c A l rfl hl (by simp; omega) (Nat.le_refl _) ?_; intro v1 w1 hown1 hg1 hat1; have hb1 := hg1; obtain ⟨A1, n1, c1, rfl, hbs1, hlo1⟩ := OwnB.form hown1)
  simp only [List.nil_append] at hown1 hbs1
  obtain rfl : n = n1 := by rw [← hbs1.len, hl.len]
  have hB1 : Below w.heap.size w w1 := (Below.refl _ _).grown hg1 (Nat.le_refl _) (by intro k hk; simp [Value.ownBlock] at hk)
  have harr := ownArr_of hown1 hbs1.len.symm
  have HB1 := Lib.hid hB1
  have HAR := Lib.hid harr
  clear hg1 hb1 hat1 hlo1 hown1 harr hB1
  refine (read_far A1 n c1 w1.heap.size l w1 hbs1 (Nat.le_refl _) (by omega)).mono ?_
  rintro e w2 ⟨g, rfl, hg, hrd, hw2, hfar⟩
  have hglt := hrd.lt
  have HFAR := Lib.hid hfar
  have HW2 := Lib.hid hw2
  clear hbs1 hfar hw2 hrd
  go_wp2_with (fail)
  clear hn9 hm6
  obtain ⟨w3, hw3⟩ : ∃ w3, w3 = w2.alloc (.cells #[.slice A n c, .bool false] 50) := ⟨_, rfl⟩
  rw [← hw3]
  have hf : ∀ wr : World, (∀ k, w1.heap.size ≤ k → k < w3.heap.size → wr.heap[k]? = w3.heap[k]?) → Below w.heap.size w wr → Rd wr g (some l) ∧ RRdB wr w.heap.size w2.heap.size (some l) := by
    intro wr h1 h2
    have hs1 := HW2.out.size
    have hz : w3.heap.size = w2.heap.size + 1 := by rw [hw3, size_alloc]
    refine ⟨HFAR.out wr fun k hk1 hk2 => ?_, ⟨A, n, c, ?_, hl.below h2, by omega⟩⟩
    · rw [h1 k hk1 (by omega), hw3]; exact Below.heap_alloc _ _ _ hk2
    · refine (h1 w2.heap.size hs1 (by omega)).trans ?_
      rw [hw3]; exact Blk.new _ _ _
  have hB3 : Below w.heap.size w w3 := by
    rw [hw3]
    exact (HB1.out.trans (HW2.out.mono HB1.out.size)).alloc (by have := HW2.out.size; have := HB1.out.size; omega) _
  have har3 : OwnArr w3 A1 n w.heap.size w1.heap.size := by
    intro h0
    obtain ⟨go, cur, e, h1, h2, h3, h4⟩ := HAR.out h0
    refine ⟨go, cur, e, h1, h2, ?_, h4⟩
    rw [hw3]
    exact ((h3.below HW2.out h2).alloc _)
  have hs1 := HB1.out.size
  have hs2 := HW2.out.size
  have HF := Lib.hid hf
  have H3 := Lib.hid hw3
  clear hf hw3
  go_loopw [8] (fun i wr => ∃ j : Nat, j ≤ n ∧ i = .int .i64 j ∧ OwnArr wr A1 n w.heap.size w1.heap.size ∧ Below w.heap.size w wr ∧ Hid (∀ k, w1.heap.size ≤ k → k < w3.heap.size → wr.heap[k]? = w3.heap[k]?)) (fun i _ => n - (intOf i).toNat)
  case atStart => exact ⟨0, Nat.zero_le _, rfl, har3, hB3, Lib.hid fun _ _ _ => rfl⟩
  case round =>
    clear har3 hB3
    obtain ⟨j, hj, rfl, har, hB, hk⟩ := hrel
    by_cases hjn : j < n
    · obtain ⟨go, cur, rfl, h1, h2, h3, h4⟩ := har (by omega)
      obtain ⟨x, hx⟩ := h4 j hjn
      have hc : wr.cell? ⟨go, j, none⟩ = some (.int .u8 (x.toNat : Int)) := by rw [h3.cell, hx]
      have hfz := h3.frozen j
      have HX := Lib.hid hx
      have H4 := Lib.hid h4
      clear hx h4 har
      go_wp2
      go_roundw
      case rel =>
        rw [plus_one]
        refine ⟨j + 1, by omega, by go_num, fun _ => ⟨go, _, rfl, h1, h2, h3.set_ j _, fun i hi => ?_⟩, hB.setCell h1 _, Lib.hid fun k hk1 hk2 => (Below.heap_setCell _ _ _ _ (by simp; omega)).trans (hk.out k hk1 hk2)⟩
        rw [Array.getElem?_setIfInBounds]
        split
        · rename_i he
          subst he
          rw [if_pos (Array.getElem?_eq_some_iff.1 HX.out).1]
          exact ⟨_, rfl⟩
        · exact H4.out i hi
      case measure => simp [intOf]; omega
    · obtain ⟨f1, f2⟩ := HF.out wr hk.out hB
      have hgg : g < w2.heap.size := hglt
      have hBg : w.heap.size ≤ g := by omega
      have hsz := f2.lt
      obtain ⟨g2, hg2⟩ : ∃ g2, g2 = w2.heap.size := ⟨_, rfl⟩
      rw [← hg2] at f2 hgg hsz ⊢
      clear har hk HF HFAR HW2 HB1 HAR H3 hg hglt hs1 hs2 hg2
      go_wp2_with (fail)
      go_loopg [9] m (fun gk i wx => ∃ (q : Nat) (st : Option (List UInt8)), q ≤ m ∧ gk = m - q ∧ i = .int .i64 q ∧ Rd wx g st ∧ RRdB wx w.heap.size g2 st ∧ Below w.heap.size w wx)
      case atStart => exact ⟨0, some l, Nat.zero_le _, by omega, rfl, f1, f2, hB⟩
      case round =>
        clear f1 f2 hB
        obtain ⟨q, st, hqm, hgk, rfl, f1, f2, hB⟩ := hrel
        have HGK := Lib.hid hgk
        clear hgk
        by_cases hlt : q < m
        · obtain ⟨b, o, k, N, rfl, hbb, hc1, hc2⟩ := (hq.below hB).at' hlt
          have hQ : ∀ W, Below w.heap.size w W → W.cell? ⟨b, o + q * 2, none⟩ = some (.int .i64 k) ∧ W.cell? ⟨b, o + q * 2 + 1, none⟩ = some (.int .i64 N) := fun W hW =>
            ⟨(hW.cell (by exact hbb)).trans ((hB.cell (by exact hbb)).symm.trans hc1), (hW.cell (by exact hbb)).trans ((hB.cell (by exact hbb)).symm.trans hc2)⟩
          have HQ := Lib.hid hQ
          clear hQ
          go_upto_block 4 with fail
          go_cut [] (fun wx => ∃ st' : Option (List UInt8), Rd wx g st' ∧ RRdB wx w.heap.size g2 st' ∧ Below w.heap.size w wx)
          case first =>
            by_cases k1 : k = 1
            · subst k1
              go_wp2_with (fail)
              go_region_with (first
                | (go_at_call 24; refine (number_any g st N _ (by exact f1.drew)).mono ?_; rintro e w4 ⟨rfl, hrd, hg⟩; obtain ⟨hB4, hr4⟩ := after_wire hB.drew f2.drew hg hgg hBg; obtain ⟨hq1, hq2⟩ := HQ.out w4 hB4; clear hg)
                | (go_at_call 25; refine (rnumber_any w.heap.size g2 st N _ (by exact hr4) (by omega)).mono ?_; rintro e w5 ⟨rfl, hr5, hg⟩; obtain ⟨hB5, hrd5⟩ := after_ref hB4 hrd hg hgg hBg; clear hg))
              all_goals
                go_wp2_with (fail)
                go_meet
                exact ⟨_, hrd5, hr5, hB5⟩
            · have e1 : (k == 1) = false := by simpa using k1
              by_cases k2 : k = 2
              · subst k2
                go_wp2_with (fail)
                go_region_with (first
                  | (go_at_call 26; refine (bytes_any g st N _ (by exact f1.drew)).mono ?_; rintro e w4 ⟨A4, n4, c4, rfl, hbs, hrd, hg⟩; obtain ⟨hB4, hr4⟩ := after_wire hB.drew f2.drew hg hgg hBg; obtain ⟨hq1, hq2⟩ := HQ.out w4 hB4; have hv4 := conv hbs; clear hg)
                  | (go_at_call 27; refine (cut_any w.heap.size g2 st N _ (by exact hr4) (by omega)).mono ?_; rintro e w5 ⟨A5, n5, c5, rfl, hbs5, hr5, hg⟩; obtain ⟨hB5, hrd5⟩ := after_ref hB4 hrd hg hgg hBg; have hv5 := conv hbs5; have hv45 := conv (hbs.grown hg (by have := hrd.lt; omega) (by rintro k hk; cases hk; omega)); clear hg))
                all_goals
                  go_wp2_with (fail)
                  go_meet
                  exact ⟨_, hrd5, hr5, hB5⟩
              · have e2 : (k == 2) = false := by simpa using k2
                by_cases k3 : k = 3
                · subst k3
                  go_wp2_with (fail)
                  go_region_with (first
                    | (go_at_call 28; refine (rblb_any g st _ (by exact f1.drew)).mono ?_; rintro e w4 ⟨A4, n4, c4, rfl, hbs, hrd, hg⟩; obtain ⟨hB4, hr4⟩ := after_wire hB.drew f2.drew hg hgg hBg; have hv4 := conv hbs; clear hg)
                    | (go_at_call 29; refine (rrblob_any w.heap.size g2 st _ (by exact hr4) (by omega)).mono ?_; rintro e w5 ⟨A5, n5, c5, rfl, hbs5, hr5, hg⟩; obtain ⟨hB5, hrd5⟩ := after_ref hB4 hrd hg hgg hBg; have hv5 := conv hbs5; have hv45 := conv (hbs.grown hg (by have := hrd.lt; omega) (by rintro k hk; cases hk; omega)); clear hg))
                  all_goals
                    go_wp2_with (fail)
                    go_meet
                    exact ⟨_, hrd5, hr5, hB5⟩
                · have e3 : (k == 3) = false := by simpa using k3
                  by_cases k4 : k = 4
                  · subst k4
                    have hke := key_same (keyV st) (keyV_len st)
                    have HKE := Lib.hid hke
                    clear hke
                    go_wp2_with (first
                      | (go_at_call 30; refine (key_any g st _ f1).mono ?_; rintro e w4 ⟨rfl, hrd, hg⟩; obtain ⟨hB4, hr4⟩ := after_wire hB f2 hg hgg hBg; clear hg)
                      | (go_at_call 31; refine (rkey_any w.heap.size g2 st _ hr4 (by omega)).mono ?_; rintro e w5 ⟨rfl, hr5, hg⟩; obtain ⟨hB5, hrd5⟩ := after_ref hB4 hrd hg hgg hBg; have hke := HKE.out; clear hg))
                    go_meet
                    exact ⟨_, hrd5, hr5, hB5⟩
                  · have e4 : (k == 4) = false := by simpa using k4
                    go_wp2_with (fail)
                    go_meet
                    exact ⟨st, f1, f2, hB⟩
          case rest =>
            obtain ⟨st', r1, r2, r3⟩ := hcut
            clear f1 f2 hB hc1 hc2 HQ
            have hL := left_any g st' wc r1
            have hE := end_any g st' wc r1
            have hD := done_any w.heap.size g2 st' wc r2
            have HR1 := Lib.hid r1
            have HR2 := Lib.hid r2
            cases st' with
            | none =>
              obtain ⟨A6, n6, c6, hb6⟩ := r2
              have d0 := hb6.cell 0
              have d1 := hb6.cell 1
              simp at d0 d1
              have HL := Lib.hid hL
              have HE := Lib.hid hE
              have HD := Lib.hid hD
              clear hL hE hD
              go_wp2_with (first
                | (go_at_call 12; refine (num_ok _ _).mono ?_; rintro e w' ⟨rfl, rfl⟩)
                | (go_at_call 32; refine HL.out.mono ?_; rintro e w' ⟨rfl, rfl⟩)
                | (go_at_call 33; refine HE.out.mono ?_; rintro e w' ⟨rfl, rfl⟩)
                | (go_at_call 34; refine HD.out.mono ?_; rintro e w' ⟨rfl, rfl⟩))
              go_roundg (m - (q + 1))
              case measure => have := HGK.out; omega
              case rel => exact ⟨q + 1, none, by omega, rfl, by go_num, HR1.out, HR2.out, r3⟩
            | some l6 =>
              obtain ⟨A6, n6, c6, hb6, hs6, hn6⟩ := r2
              have d0 := hb6.cell 0
              have d1 := hb6.cell 1
              simp at d0 d1
              have e6 : leftV (some l6) = n6 := hs6.len
              rw [e6] at hL
              by_cases h6 : n6 = 0
              · have e7 : endV (some l6) = 0 := by simp only [endV]; rw [hs6.len, if_pos h6]
                have e8 : doneV (some l6) = true := by simp only [doneV]; rw [hs6.len, h6]; rfl
                rw [e7] at hE
                rw [e8] at hD
                have HL := Lib.hid hL
                have HE := Lib.hid hE
                have HD := Lib.hid hD
                clear hL hE hD e6 e7 e8 hs6 h6
                go_wp2_with (first
                  | (go_at_call 12; refine (num_ok _ _).mono ?_; rintro e w' ⟨rfl, rfl⟩)
                  | (go_at_call 32; refine HL.out.mono ?_; rintro e w' ⟨rfl, rfl⟩)
                  | (go_at_call 33; refine HE.out.mono ?_; rintro e w' ⟨rfl, rfl⟩)
                  | (go_at_call 34; refine HD.out.mono ?_; rintro e w' ⟨rfl, rfl⟩))
                go_roundg (m - (q + 1))
                case measure => have := HGK.out; omega
                case rel => exact ⟨q + 1, some l6, by omega, rfl, by go_num, HR1.out, HR2.out, r3⟩
              · have e7 : endV (some l6) = 4 := by simp only [endV]; rw [hs6.len, if_neg h6]
                have e8 : doneV (some l6) = false := by simp only [doneV]; rw [hs6.len]; simpa using h6
                rw [e7] at hE
                rw [e8] at hD
                have HL := Lib.hid hL
                have HE := Lib.hid hE
                have HD := Lib.hid hD
                clear hL hE hD e6 e7 e8 hs6 h6
                go_wp2_with (first
                  | (go_at_call 12; refine (num_ok _ _).mono ?_; rintro e w' ⟨rfl, rfl⟩)
                  | (go_at_call 32; refine HL.out.mono ?_; rintro e w' ⟨rfl, rfl⟩)
                  | (go_at_call 33; refine HE.out.mono ?_; rintro e w' ⟨rfl, rfl⟩)
                  | (go_at_call 34; refine HD.out.mono ?_; rintro e w' ⟨rfl, rfl⟩))
                go_roundg (m - (q + 1))
                case measure => have := HGK.out; omega
                case rel => exact ⟨q + 1, some l6, by omega, rfl, by go_num, HR1.out, HR2.out, r3⟩
        · go_wp2_with (fail)
          have HBX := Lib.hid hB
          refine (known_ok _).mono ?_
          rintro e w6 ⟨rfl, hw6⟩
          go_wp2_with (fail)
          go_ret
          exact ⟨rfl, HBX.out.trans (hw6.mono HBX.out.size)⟩
end Go.Proofs.Ytfjjpepnadcaaaa
