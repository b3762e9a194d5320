/- Walks of OfHex and of the document's OfHex. -/
import Derived.Test.YtfjjpepnadcaaaaJoin
import Derived.Test.YtfjjpepnadcaaaaUnhexPure
import Derived.Lib.OthersKept
import Derived.Deep.RegionWith
import Derived.Deep.DeepCutAuto
namespace Go.Proofs.Ytfjjpepnadcaaaa
set_option linter.unusedVariables false
open Go.RowKit Go.Lib

set_option maxHeartbeats 400000 in
theorem digit_yes (n : Nat) (w : World) (h : digN n < 16) : Calls Try.prog 38 #[.int .i32 n] w fun e w' => e = .returned (.tuple #[.int .u8 (digN n), .bool true]) ∧ w = w' := by
  by_cases h1 : 48 ≤ n ∧ n ≤ 57
  · have e : ((digN n : Nat) : Int) = (n : Int) - 48 := by simp only [digN]; rw [if_pos h1]; omega
    rw [e]
    obtain ⟨a1, a2⟩ := h1
    clear e h
    go_enter Try.func38, Try.ntmps38
    go_wp2
    go_ret2
    exact ⟨rfl, rfl⟩
  · by_cases h2 : 97 ≤ n ∧ n ≤ 102
    · have e : ((digN n : Nat) : Int) = (n : Int) - 97 + 10 := by simp only [digN]; rw [if_neg h1, if_pos h2]; omega
      rw [e]
      obtain ⟨a1, a2⟩ := h2
      clear e h h1
      have a3 : ¬ ((n : Int) ≤ 57) := by omega
      go_enter Try.func38, Try.ntmps38
      go_wp2
      go_ret2
      exact ⟨rfl, rfl⟩
    · exfalso
      unfold digN at h
      rw [if_neg h1, if_neg h2] at h
      omega
set_option maxHeartbeats 400000 in
theorem digit_no (n : Nat) (w : World) (h : ¬ digN n < 16) : Calls Try.prog 38 #[.int .i32 n] w fun e w' => e = .returned (.tuple #[.int .u8 0, .bool false]) ∧ w = w' := by
  have h1 : ¬ (48 ≤ n ∧ n ≤ 57) := fun h1 => h (by simp only [digN]; rw [if_pos h1]; omega)
  have h2 : ¬ (97 ≤ n ∧ n ≤ 102) := fun h2 => h (by simp only [digN]; rw [if_neg h1, if_pos h2]; omega)
  clear h
  have cases4 : n < 48 ∨ (57 < n ∧ n < 97) ∨ 102 < n := by omega
  clear h1 h2
  rcases cases4 with a | ⟨a, b⟩ | a
  · go_enter Try.func38, Try.ntmps38
    go_wp2
    go_ret2
    exact ⟨rfl, rfl⟩
  · go_enter Try.func38, Try.ntmps38
    go_wp2
    go_ret2
    exact ⟨rfl, rfl⟩
  · go_enter Try.func38, Try.ntmps38
    go_wp2
    go_ret2
    exact ⟨rfl, rfl⟩
set_option maxHeartbeats 400000 in
theorem rdigit_any (x : UInt8) (w : World) : Calls Try.prog 39 #[.int .u8 (x.toNat : Int)] w fun e w' => e = .returned (.int .u8 (digN x.toNat)) ∧ w = w' := by
  have hx := byte_lt x
  obtain ⟨n, hn⟩ : ∃ n, n = x.toNat := ⟨_, rfl⟩
  rw [← hn] at hx ⊢
  clear hn
  by_cases h1 : 48 ≤ n ∧ n ≤ 57
  · have e : ((digN n : Nat) : Int) = (n : Int) - 48 := by simp only [digN]; rw [if_pos h1]; omega
    rw [e]
    obtain ⟨a1, a2⟩ := h1
    clear e
    go_enter Try.func39, Try.ntmps39
    go_wp2
    go_ret
    exact ⟨rfl, rfl⟩
  · by_cases h2 : 97 ≤ n ∧ n ≤ 102
    · have e : ((digN n : Nat) : Int) = (n : Int) - 97 + 10 := by simp only [digN]; rw [if_neg h1, if_pos h2]; omega
      rw [e]
      obtain ⟨a1, a2⟩ := h2
      clear e h1
      have a3 : ¬ ((n : Int) ≤ 57) := by omega
      go_enter Try.func39, Try.ntmps39
      go_wp2
      go_ret
      exact ⟨rfl, rfl⟩
    · have e : ((digN n : Nat) : Int) = 16 := by simp only [digN]; rw [if_neg h1, if_neg h2]; rfl
      rw [e]
      clear e
      have cases4 : n < 48 ∨ (57 < n ∧ n < 97) ∨ 102 < n := by omega
      clear h1 h2
      rcases cases4 with a | ⟨a, b⟩ | a
      all_goals
        go_enter Try.func39, Try.ntmps39
        go_wp2
        go_ret
        exact ⟨rfl, rfl⟩

/-- What OfHex answers. -/
def OfHexPost (l : List UInt8) (w : World) (e : Ending) (w' : World) : Prop :=
  Below w.heap.size w w' ∧ ((okB l = true ∧ e = .returned (.tuple #[.slice (some ⟨w.heap.size, 0, none⟩) (l.length / 2) (l.length / 2), .int .i64 0]) ∧ Blk w' w.heap.size 5 (bvs (unhex l (l.length / 2)))) ∨
    (okB l = false ∧ e = .returned (.tuple #[.slice none 0 0, .int .i64 4])))

theorem list_at (s : ByteArray) (i : Nat) (h : i < s.size) : s.data.toList[i]? = some (s[i]'h) := by
  have h2 : i < s.data.toList.length := by cases s; exact h
  rw [List.getElem?_eq_getElem h2]
  rfl
theorem size_list (s : ByteArray) : s.data.toList.length = s.size := by cases s; rfl

set_option maxHeartbeats 1000000 in
theorem ofhex_any (s : ByteArray) (w : World) (hs : s.size ≤ 1000000) :
    Calls Try.prog 17 #[.string s] w (OfHexPost s.data.toList w) := by
  have hsz := size_list s
  by_cases h0 : s.size % 2 = 0
  · obtain ⟨h, hh⟩ : ∃ h, s.size = 2 * h := ⟨s.size / 2, by omega⟩
    have hmk : ∀ W : World, (Instr.makeSlice 23 (.int .i64 ((s.size : Int) / 2)) (.int .i64 ((s.size : Int) / 2))).run Try.prog W = .ok (.slice (some ⟨W.heap.size, 0, none⟩) h h) (W.alloc (.cells (bvs (zeros h)) 5)) := by
      intro W
      have h1 := run_mkb (P := Try.prog) 23 5 Try.underlying23 info_u8 h (by omega) W
      rw [show (h : Int) = (s.size : Int) / 2 by omega] at h1
      exact h1
    have h2 : ((s.size : Int) % 2 != 0) = false := by simp; omega
    have HS := Lib.hid hsz
    have HH := Lib.hid hh
    have H0 := Lib.hid h0
    clear hsz hh h0
    go_enter Try.func17, Try.ntmps17
    go_wp2_with (fail)
    clear hmk h2
    go_loopw [] (fun wr => ∃ pos : Nat, pos ≤ s.size ∧ wr.heap[w.heap.size + 1]? = some (.stringIter s pos) ∧ Blk wr w.heap.size 5 (bvs (stL s.data.toList h pos)) ∧ Hid (∀ k, k < pos → dg s.data.toList k < 16) ∧ Below w.heap.size w wr) (fun wr => s.size - wr.iterPos (w.heap.size + 1))
    case atStart =>
      refine ⟨0, Nat.zero_le _, ?_, ?_, Lib.hid (fun k hk => absurd hk (by omega)), ?_⟩
      · have := World.iter_heap (w.alloc (.cells (bvs (zeros h)) 5)) s 0
        rw [size_alloc] at this
        exact this
      · rw [stL_zero]
        exact (Blk.new w 5 (bvs (zeros h))).alloc (.stringIter s 0)
      · exact ((Below.refl _ _).alloc (Nat.le_refl _) _).alloc (by simp) (.stringIter s 0)
    case round =>
      obtain ⟨pos, hpos, hit, hB, hall, hb⟩ := hrel
      by_cases hlt : pos < s.size
      · have hx : s.data.toList[pos]? = some s[pos] := list_at s pos hlt
        have hip : wr.iterPos (w.heap.size + 1) = pos := by unfold World.iterPos; rw [hit]
        have HIP := Lib.hid hip
        clear hip
        by_cases hasc : (s[pos]).toNat < 128
        · obtain ⟨w5, hn5, hi5, hB5, hb5⟩ : ∃ w5, (∀ ty, (Instr.next (.pointer (some ⟨w.heap.size + 1, 0, none⟩)) true ty).run Try.prog wr = .ok (.tuple #[.bool true, .int .i64 pos, .int .i32 (s[pos]).toNat]) w5) ∧
              w5.heap[w.heap.size + 1]? = some (.stringIter s (pos + 1)) ∧ Blk w5 w.heap.size 5 (bvs (stL s.data.toList h pos)) ∧ Below w.heap.size w w5 :=
            ⟨_, fun ty => run_next_ascii_at wr (w.heap.size + 1) s pos ty hit hlt hasc, iterAt_heap _ _ _ _ _ hit, (iterAt_other wr _ _ s _ (by omega)).trans hB, below_iterAt hb (by omega) s _⟩
          obtain ⟨x, hxe⟩ : ∃ x, x = s[pos] := ⟨_, rfl⟩
          rw [← hxe] at hx hn5
          clear hit hB hb hasc hxe
          by_cases hd : digN x.toNat < 16
          · have hcur : curN s.data.toList pos < 16 := by
              unfold curN
              split
              · omega
              · exact hall.out _ (by omega)
            have hat := stL_at (l := s.data.toList) (h := h) (i := pos) (by have := HH.out; omega)
            rw [stN_cur] at hat
            have hst := stL_step (l := s.data.toList) (h := h) (i := pos) (by have := HH.out; omega)
            rw [dg_of hx] at hst
            have hall2 : ∀ k, k < pos + 1 → dg s.data.toList k < 16 := fun k hk => by
              by_cases e : k = pos
              · rw [e, dg_of hx]; exact hd
              · exact hall.out k (by omega)
            have hph : pos / 2 < h := by have := HH.out; omega
            have hdy := digit_yes x.toNat
            obtain ⟨cu, hcu⟩ : ∃ cu, cu = curN s.data.toList pos := ⟨_, rfl⟩
            obtain ⟨d, hde⟩ : ∃ d, d = digN x.toNat := ⟨_, rfl⟩
            rw [← hcu] at hat hst hcur
            rw [← hde] at hst hd hdy
            have hc : w5.cell? ⟨w.heap.size, pos / 2, none⟩ = some (.int .u8 (cu : Int)) := by
              rw [hB5.cell, bvs_get, hat]
              simp only [Option.map_some, bv]
              congr 2
              simp
              omega
            have hfz := hB5.frozen (pos / 2)
            have HDY := Lib.hid (fun W => hdy W hd)
            have HST := Lib.hid hst
            have HA2 := Lib.hid hall2
            have HOR := Lib.hid (or_nibble cu d hcur hd)
            clear hat hst hall2 hall hdy hcu hde hx
            go_wp2_with (go_at_call 38; refine (HDY.out _).mono ?_; rintro e w' ⟨rfl, rfl⟩)
            go_roundw
            case rel =>
              rw [HOR.out]
              have h1 := hB5.set_ (pos / 2) (.int .u8 ((UInt8.ofNat (16 * cu + d)).toNat : Int))
              rw [bvs_set, HST.out] at h1
              exact ⟨pos + 1, by omega, (Below.heap_setCell _ _ _ _ (by simp)).trans hi5, h1, HA2, hb5.setCell (Nat.le_refl _) _⟩
            case measure =>
              have e : (w5.setCell ⟨w.heap.size, pos / 2, none⟩ (.int .u8 (bits .or .u8 ((cu : Int) * 16) (d : Int)))).iterPos (w.heap.size + 1) = pos + 1 := by
                unfold World.iterPos
                rw [Below.heap_setCell _ _ _ _ (by simp), hi5]
              rw [e, HIP.out]
              omega
          · have hno := ok_no (l := s.data.toList) (k := pos) (by rw [HS.out]; exact hlt) (by rw [dg_of hx]; exact hd)
            have hdn := digit_no x.toNat
            have HDN := Lib.hid (fun W => hdn W hd)
            have HNO := Lib.hid hno
            clear hno hdn hd hall hx
            go_wp2_with (go_at_call 38; refine (HDN.out _).mono ?_; rintro e w' ⟨rfl, rfl⟩)
            go_ret2
            exact ⟨hb5, .inr ⟨HNO.out, rfl⟩⟩
        · obtain ⟨n6, hn6⟩ : ∃ n6, n6 = (Utf8.decode s pos).1 := ⟨_, rfl⟩
          have h128 := (decode_high s pos hlt (by omega)).1
          rw [← hn6] at h128
          obtain ⟨w5, hn5, hb5⟩ : ∃ w5, (∀ ty, (Instr.next (.pointer (some ⟨w.heap.size + 1, 0, none⟩)) true ty).run Try.prog wr = .ok (.tuple #[.bool true, .int .i64 pos, .int .i32 n6]) w5) ∧ Below w.heap.size w w5 :=
            ⟨_, fun ty => by rw [hn6]; exact run_next_any_at wr (w.heap.size + 1) s pos ty hit hlt, below_iterAt hb (by omega) s _⟩
          have h16 : ∀ k, 128 ≤ k → ¬ digN k < 16 := fun k hk => by
            unfold digN
            rw [if_neg (by omega), if_neg (by omega)]
            omega
          have hno := ok_no (l := s.data.toList) (k := pos) (by rw [HS.out]; exact hlt) (by rw [dg_of hx]; exact h16 _ (by omega))
          have hdn := digit_no n6
          have HDN := Lib.hid (fun W => hdn W (h16 _ h128))
          have HNO := Lib.hid hno
          clear hno hdn hall hx hn6 h16 hit hB hb hasc
          go_wp2_with (go_at_call 38; refine (HDN.out _).mono ?_; rintro e w' ⟨rfl, rfl⟩)
          go_ret2
          exact ⟨hb5, .inr ⟨HNO.out, rfl⟩⟩
      · have hn5 : ∀ ty, (Instr.next (.pointer (some ⟨w.heap.size + 1, 0, none⟩)) true ty).run Try.prog wr = .ok (.tuple #[.bool false]) wr := fun ty => run_next_end_at wr (w.heap.size + 1) s pos ty hit hlt
        obtain rfl : pos = s.size := by omega
        have e1 : stL s.data.toList h s.size = unhex s.data.toList h := by rw [HH.out, stL_end]
        rw [e1] at hB
        have e2 : s.data.toList.length / 2 = h := by rw [HS.out, HH.out]; omega
        have e3 : okB s.data.toList = true := ok_yes (by rw [HS.out]; exact H0.out) (fun k hk => hall.out k (by rw [HS.out] at hk; exact hk))
        have E2 := Lib.hid e2
        have E3 := Lib.hid e3
        clear e1 e2 e3 hit hall
        go_wp2_with (fail)
        go_ret2
        exact ⟨hb, .inl ⟨E3.out, by rw [E2.out]; rfl, by rw [E2.out]; exact hB⟩⟩
  · have h2 : ((s.size : Int) % 2 != 0) = true := by simp; omega
    have e : okB s.data.toList = false := ok_odd (by rw [hsz]; exact h0)
    have E := Lib.hid e
    clear e h0 hsz
    go_enter Try.func17, Try.ntmps17
    go_wp2_with (fail)
    go_ret2
    exact ⟨Below.refl _ _, .inr ⟨E.out, rfl⟩⟩

/-- What the document's OfHex answers. -/
def ROfHexPost (l : List UInt8) (w : World) (e : Ending) (w' : World) : Prop :=
  Below w.heap.size w w' ∧ ((okB l = true ∧ ∃ v, e = .returned (.tuple #[v, .bool true]) ∧ OwnB w' w.heap.size 5 v (unhex l (l.length / 2))) ∨
    (okB l = false ∧ e = .returned (.tuple #[.slice none 0 0, .bool false])))
theorem run_at {P : Program} (t : TypeId) (ht : P.underlying t = some .string) (s : ByteArray) (i : Nat) (x : UInt8) (hx : s.data.toList[i]? = some x) (v : Int) (hv : v = (i : Int)) (W : World) :
    (Instr.index t (.string s) (.int .i64 v)).run P W = .ok (.int .u8 (x.toNat : Int)) W := by
  subst hv
  have hi : i < s.size := by have := (List.getElem?_eq_some_iff.1 hx).1; rw [size_list] at this; exact this
  rw [run_index_string (P := P) W t s .i64 (i : Int) ht, dif_pos (by omega)]
  rw [list_at s i hi] at hx
  injection hx with hx
  simp only [Int.toNat_natCast, hx]
theorem bs_newv (w : World) (t : TypeId) (v : Int) (x : UInt8) (hv : v = (x.toNat : Int)) : BS (w.alloc (.cells #[.int .u8 v] t)) (w.heap.size + 1) (some ⟨w.heap.size, 0, none⟩) 1 1 [x] := by subst hv; exact bs_new1 w t x

set_option maxHeartbeats 1000000 in
theorem rofhex_any (s : ByteArray) (w : World) (hs : s.size ≤ 1000000) :
    Calls Try.prog 18 #[.string s] w (ROfHexPost s.data.toList w) := by
  have hsz := size_list s
  by_cases h0 : s.size % 2 = 0
  · obtain ⟨h, hh⟩ : ∃ h, s.size = 2 * h := ⟨s.size / 2, by omega⟩
    have h2 : ((s.size : Int) % 2 != 0) = false := by simp; omega
    have HS := Lib.hid hsz
    have HH := Lib.hid hh
    have H0 := Lib.hid h0
    clear hsz hh h0
    go_enter Try.func18, Try.ntmps18
    go_wp2_with (fail)
    clear h2
    go_loopw [4, 5] (fun v i wr => ∃ (j k : Nat), j ≤ h ∧ i = .int .i64 k ∧ Hid (k = 2 * j) ∧ OwnB wr w.heap.size 5 v (unhex s.data.toList j) ∧ Hid (∀ k, k < 2 * j → dg s.data.toList k < 16) ∧ Below w.heap.size w wr) (fun _ i _ => s.size - (intOf i).toNat)
    case atStart => exact ⟨0, 0, Nat.zero_le _, rfl, Lib.hid rfl, OwnB.nil _ _ _, Lib.hid (fun k hk => absurd hk (by omega)), Below.refl _ _⟩
    case round =>
      obtain ⟨j, k, hj, rfl, hk, hown, hall, hb⟩ := hrel
      by_cases hjh : j < h
      · have hk1 : k + 1 < s.size := by have := HH.out; have := hk.out; omega
        have hx := list_at s k (by omega)
        have hy := list_at s (k + 1) hk1
        obtain ⟨x, hxe⟩ : ∃ x, x = s[k] := ⟨_, rfl⟩
        obtain ⟨y, hye⟩ : ∃ y, y = s[k + 1] := ⟨_, rfl⟩
        rw [← hxe] at hx
        rw [← hye] at hy
        have i1 := fun W => run_at (P := Try.prog) 9 Try.underlying9 s k x hx (k : Int) rfl W
        have i2 := fun W => run_at (P := Try.prog) 9 Try.underlying9 s (k + 1) y hy ((k : Int) + 1) (by omega) W
        have d1 := rdigit_any x
        have d2 := rdigit_any y
        obtain ⟨p, hp⟩ : ∃ p, p = digN x.toNat := ⟨_, rfl⟩
        obtain ⟨q, hq⟩ : ∃ q, q = digN y.toNat := ⟨_, rfl⟩
        have hp16 := digN_le x.toNat
        have hq16 := digN_le y.toNat
        rw [← hp] at d1 hp16
        rw [← hq] at d2 hq16
        have D1 := Lib.hid d1
        have D2 := Lib.hid d2
        have HX := Lib.hid hx
        have HY := Lib.hid hy
        have HP := Lib.hid hp
        have HQ := Lib.hid hq
        obtain ⟨A9, n9, c9, rfl, hbs9, hlo9⟩ := hown.form
        clear d1 d2 hx hy hp hq hxe hye hbs9
        go_upto_region 7 with fail
        go_cut [6, 7] (fun s6 s7 wx => s6 = .int .u8 (p : Int) ∧ s7 = .int .u8 (q : Int) ∧ OwnB wx w.heap.size 5 (.slice A9 n9 c9) (unhex s.data.toList j) ∧ Below w.heap.size w wx)
        case first =>
          have hwr : IntKind.i64.wrap ((k : Int) + 1) = (k : Int) + 1 := IntWalk.i64_in _ (by omega)
          go_region_with (first
            | (go_at_call 39; ((with_reducible refine (D1.out _).mono ?_); rintro e w' ⟨rfl, rfl⟩))
            | (go_at_call 39; ((with_reducible refine (D2.out _).mono ?_); rintro e w' ⟨rfl, rfl⟩)))
          all_goals
            clear hwr i1 i2
            go_wp2_with (fail)
            go_meet
            exact ⟨rfl, rfl, hown.drew, hb.drew⟩
        case rest =>
          obtain ⟨rfl, rfl, hown, hb⟩ := hcut
          clear i1 i2
          by_cases p16 : p ≤ 15
          · by_cases q16 : q ≤ 15
            · have hnew : 16 * (p : Int) + (q : Int) = ((UInt8.ofNat (16 * p + q)).toNat : Int) := by simp; omega
              have hall2 : ∀ i, i < 2 * (j + 1) → dg s.data.toList i < 16 := fun i hi => by
                have hk := hk.out
                by_cases e1 : i = k
                · rw [e1, dg_of HX.out, ← HP.out]; omega
                · by_cases e2 : i = k + 1
                  · rw [e2, dg_of HY.out, ← HQ.out]; omega
                  · exact hall.out i (by omega)
              have hst := unhex_step s.data.toList j
              have hu : unhexN s.data.toList j = UInt8.ofNat (16 * p + q) := by
                unfold unhexN
                rw [← hk.out, dg_of HX.out, dg_of HY.out, ← HP.out, ← HQ.out]
              rw [hu] at hst
              have HA2 := Lib.hid hall2
              have HST := Lib.hid hst
              have HNW := Lib.hid hnew
              have hbig : (unhex s.data.toList j).length + 1 ≤ 140737488355328 := by rw [unhex_len]; have := HH.out; omega
              have HBG := Lib.hid hbig
              clear hall2 hst hnew hu hall hbig
              go_wp2_with (at_builtin; refine wpList_app_own rfl (.tmp 33) (.tmp 38) 23 rfl 5 Try.underlying23 info_u8 w.heap.size (.slice A9 n9 c9) (unhex s.data.toList j) rfl (by exact hown.alloc _) (wc.heap.size + 1) 1 1 (some ⟨wc.heap.size, 0, none⟩) [UInt8.ofNat (16 * p + q)] rfl (by exact bs_newv wc 5 _ _ HNW.out) HBG.out (by have := hb.size; simp; omega) ?_; intro v1 w1 hown1 hg1 hat1)
              go_roundw
              case rel => exact ⟨j + 1, k + 2, by omega, by go_num, Lib.hid (by have := hk.out; omega), by rw [HST.out]; exact hown1, HA2, (hb.alloc hb.size _).grown hg1 (by have := hb.size; simp; omega) hlo9⟩
              case measure => simp [intOf]; omega
            · have hno := ok_no (l := s.data.toList) (k := k + 1) (by rw [HS.out]; exact hk1) (by rw [dg_of HY.out, ← HQ.out]; omega)
              have HNO := Lib.hid hno
              clear hno hall
              go_wp2_with (fail)
              go_ret2
              exact ⟨hb, .inr ⟨HNO.out, rfl⟩⟩
          · have hno := ok_no (l := s.data.toList) (k := k) (by rw [HS.out]; omega) (by rw [dg_of HX.out, ← HP.out]; omega)
            have HNO := Lib.hid hno
            clear hno hall
            go_wp2_with (fail)
            go_ret2
            exact ⟨hb, .inr ⟨HNO.out, rfl⟩⟩
      · have hjj : j = h := by omega
        have hks : k = s.size := by have := HH.out; have := hk.out; omega
        have e2 : s.data.toList.length / 2 = j := by rw [HS.out, HH.out]; omega
        have e3 : okB s.data.toList = true := ok_yes (by rw [HS.out]; exact H0.out) (fun i hi => hall.out i (by rw [HS.out] at hi; have := hk.out; omega))
        have E2 := Lib.hid e2
        have E3 := Lib.hid e3
        have hkl : ¬ ((k : Int) < (s.size : Int)) := by omega
        clear e2 e3 hall hks hjj
        go_wp2_with (fail)
        go_ret2
        exact ⟨hb, .inl ⟨E3.out, _, rfl, by rw [E2.out]; exact hown⟩⟩
  · have h2 : ((s.size : Int) % 2 != 0) = true := by simp; omega
    have e : okB s.data.toList = false := ok_odd (by rw [hsz]; exact h0)
    have E := Lib.hid e
    clear e h0 hsz
    go_enter Try.func18, Try.ntmps18
    go_wp2_with (fail)
    go_ret2
    exact ⟨Below.refl _ _, .inr ⟨E.out, rfl⟩⟩
end Go.Proofs.Ytfjjpepnadcaaaa
