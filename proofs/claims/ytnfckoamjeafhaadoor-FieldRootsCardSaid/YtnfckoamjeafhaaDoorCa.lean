/- The document's carried: digits of 16 bits of columns, in their own slice. -/
import Derived.Test.YtnfckoamjeafhaaDoorUw
import Derived.Laws.OwnMore
namespace Go.Proofs.YtnfckoamjeafhaaDoor
set_option linter.unusedVariables false
set_option linter.unusedSimpArgs false
open Go Go.RowKit

/-- m digits of T. -/
def dgl (T m : Nat) : List Nat := (List.range m).map fun t => T / 65536 ^ t % 65536
theorem dgl_len (T m : Nat) : (dgl T m).length = m := by simp [dgl]
theorem dgl_get (T m : Nat) {j : Nat} (h : j < m) : (dgl T m).getD j 0 = T / 65536 ^ j % 65536 := by simp [dgl, List.getD, h]
theorem dgl_step (T m : Nat) : dgl T (m + 1) = dgl T m ++ [T / 65536 ^ m % 65536] := by simp [dgl, List.range_succ]
theorem dgl_small (T m j : Nat) : (dgl T m).getD j 0 < 65536 := by
  by_cases h : j < m
  · rw [dgl_get T m h]
    exact Nat.mod_lt _ (by omega)
  · simp [List.getD, dgl, h]
theorem dval_append : ∀ (l r : List Nat), dval (l ++ r) = dval l + 65536 ^ l.length * dval r
  | [], r => by simp [dval]
  | x :: l, r => by
    have ih := dval_append l r
    show x + 65536 * dval (l ++ r) = x + 65536 * dval l + 65536 ^ (l.length + 1) * dval r
    rw [ih, Nat.pow_succ, Nat.mul_comm (65536 ^ l.length) 65536, Nat.mul_assoc]
    omega
theorem dval_dgl (T : Nat) : ∀ m, dval (dgl T m) = T % 65536 ^ m
  | 0 => by simp [dgl, dval, Nat.mod_one]
  | m + 1 => by
    rw [dgl_step, dval_append, dval_dgl T m, dgl_len, Nat.mod_pow_succ]
    simp [dval]
/-- The columns l, of which the first j are digits already. -/
def car (l : List Nat) (j : Nat) : List Nat := (List.range l.length).map fun t => if t < j then dval l / 65536 ^ t % 65536 else l.getD t 0
theorem car_len (l : List Nat) (j : Nat) : (car l j).length = l.length := by simp [car]
theorem car_zero (l : List Nat) : car l 0 = l := by
  apply List.ext_getElem?
  intro t
  by_cases h : t < l.length
  · simp [car, h, List.getD, List.getElem?_eq_getElem h]
  · simp [car, h]
theorem car_all (l : List Nat) : car l l.length = dgl (dval l) l.length := by
  apply List.ext_getElem?
  intro t
  by_cases h : t < l.length
  · simp [car, dgl, h]
  · simp [car, dgl, h]
theorem car_at (l : List Nat) {j : Nat} (h : j < l.length) : (car l j)[j]? = some (l.getD j 0) := by simp [car, h]
theorem car_step (l : List Nat) {j : Nat} (h : j < l.length) : (car l j).set j (dval l / 65536 ^ j % 65536) = car l (j + 1) := by
  apply List.ext_getElem?
  intro t
  rw [List.getElem?_set]
  by_cases ht : t < l.length
  · by_cases e : j = t
    · subst e
      simp [car, h]
    · have e2 : (t < j + 1) = (t < j) := by rw [eq_iff_iff]; omega
      simp [car, ht, e, e2]
  · have : j ≠ t := by omega
    simp [car, ht, this]
theorem ovr_bound (l : List Nat) (hb : ∀ j, l.getD j 0 ≤ 1099511627776) : ∀ j, j ≤ l.length → ovr l j ≤ 1099511627776
  | 0, _ => by rw [ovr_zero]; omega
  | j + 1, h => by
    have ih := ovr_bound l hb j (by omega)
    have hj := hb j
    rw [← ovr_step l j (by omega)]
    omega
theorem OwnU.slice {w : World} {base : Nat} {e : TypeId} {v : Value} {l : List Nat} (h : OwnU w base e v l) (hl : 0 < l.length) : ∃ g cap, v = .slice (some ⟨g, 0, none⟩) l.length cap ∧ base ≤ g ∧ g < w.heap.size := by
  rcases h.2 with ⟨_, h0⟩ | ⟨g, cap, cur, rfl, hb, hg, _⟩
  · omega
  · exact ⟨g, cap, rfl, hb, (Array.getElem?_eq_some_iff.1 hg).1⟩
theorem OwnU.cell {w : World} {base g n cap : Nat} {e : TypeId} {l : List Nat} (h : OwnU w base e (.slice (some ⟨g, 0, none⟩) n cap) l) (hn : n = l.length) {j x : Nat} (hx : l[j]? = some x) : w.cell? ⟨g, j, none⟩ = some (.int .u64 (x : Int)) := by
  subst hn
  have hj := (List.getElem?_eq_some_iff.1 hx).1
  have h2 := World.ownsRow.cellAt (size := 1) h j (by omega)
  rw [h2, List.getElem?_map, hx]
  rfl
theorem OwnU.set {w : World} {base g n cap : Nat} {e : TypeId} {l : List Nat} (h : OwnU w base e (.slice (some ⟨g, 0, none⟩) n cap) l) (hn : n = l.length) (j x : Nat) :
    OwnU (w.setCell ⟨g, j, none⟩ (.int .u64 (x : Int))) base e (.slice (some ⟨g, 0, none⟩) n cap) (l.set j x) ∧ w.grownBy (w.setCell ⟨g, j, none⟩ (.int .u64 (x : Int))) (some g) := by
  subst hn
  obtain ⟨h1, h2⟩ := World.ownsRow.stored (size := 1) h j (.int .u64 (x : Int))
  refine ⟨?_, h2⟩
  unfold OwnU
  rw [List.length_set, List.map_set]
  exact h1
/-- What has grown from w, a row beyond w's own turning too. -/
theorem grown_more {a b c : World} {row : Option Nat} {r2 : Option Nat} (h : a.grownBy b row) (k : b.grownBy c r2) (hr : r2 = row ∨ ∀ g, r2 = some g → a.heap.size ≤ g) : a.grownBy c row :=
  ⟨k.os.trans h.os, k.tape.trans h.tape, k.output.trans h.output, Nat.le_trans h.size k.size, fun i hi hne => (k.block i (Nat.lt_of_lt_of_le hi h.size) (fun e => by
    rcases hr with rfl | hr
    · exact hne e
    · have := hr i e.symm
      omega)).trans (h.block i hi hne)⟩
theorem us_newv (w : World) (t : TypeId) (v : Int) (x : Nat) (hv : v = (x : Int)) : US (w.alloc (.cells #[.int .u64 v] t)) (w.heap.size + 1) (some ⟨w.heap.size, 0, none⟩) 1 1 [x] := by
  subst hv
  exact US.ofBlk (l := [x]) (Blk.new w t #[.int .u64 (x : Int)]) 1 rfl _ (by omega)
/-- What carried answers. -/
def CarPost (base g : Nat) (l : List Nat) (w : World) (e : Ending) (w' : World) : Prop :=
  ∃ v' m, e = .returned v' ∧ OwnU w' base 24 v' (dgl (dval l) m) ∧ w.grownBy w' (some g) ∧ (v'.ownBlock = some g ∨ ∀ k, v'.ownBlock = some k → w.heap.size ≤ k) ∧ l.length ≤ m ∧ dval l < 65536 ^ m ∧ (m = l.length ∨ 65536 ^ (m - 1) ≤ dval l)
set_option maxRecDepth 100000 in
set_option maxHeartbeats 1000000 in
theorem carried_any (base g cap : Nat) (l : List Nat) (w : World) (hown : OwnU w base 24 (.slice (some ⟨g, 0, none⟩) l.length cap) l) (hl : 0 < l.length) (hb : ∀ j, l.getD j 0 ≤ 1099511627776) (hlen : l.length ≤ 1000) (hbase : base ≤ w.heap.size) :
    Calls Tryd.prog 41 #[.slice (some ⟨g, 0, none⟩) l.length cap] w (CarPost base g l w) := by
  have hg := hown.own (g := g) rfl
  have hov := ovr_bound l hb
  obtain ⟨n, hn⟩ : ∃ n, n = l.length := ⟨_, rfl⟩
  rw [← hn] at hown ⊢
  have HN := Lib.hid hn
  have hbl : n ≤ 1000 := by omega
  have HB := Lib.hid hb
  have HOV := Lib.hid hov
  clear hb hov hn hl hlen
  go_enter Tryd.func41, Tryd.ntmps41
  go_wp2_with (fail)
  go_loopw [4, 3] (fun i c wr => ∃ j : Nat, j ≤ n ∧ i = .int .i64 j ∧ c = .int .u64 (ovr l j : Int) ∧ OwnU wr base 24 (.slice (some ⟨g, 0, none⟩) n cap) (car l j) ∧ w.grownBy wr (some g)) (fun i _ _ => n - (intOf i).toNat)
  case atStart => exact ⟨0, by omega, rfl, by rw [ovr_zero]; rfl, by rw [car_zero]; exact hown, World.grownBy.refl _ _⟩
  case round =>
    obtain ⟨j, hj, rfl, rfl, hO, hG⟩ := hrel
    have hn := HN.out
    by_cases hlt : j < n
    · have cd := hO.cell (by rw [car_len, hn]) (car_at l (j := j) (by omega))
      have hf : wr.frozen? ⟨g, j, none⟩ = false := by
        have h2 := hO
        unfold OwnU at h2
        rw [show (car l j).length = n by rw [car_len, hn]] at h2
        exact World.ownsRow.frozenAt (size := 1) h2 j
      have hbd := HB.out j
      have hob := HOV.out j (by omega)
      have hdig := ovr_digit l j (by omega)
      have hst := ovr_step l j (by omega)
      have hcs := car_step l (j := j) (by omega)
      obtain ⟨x, hx⟩ : ∃ x, x = l.getD j 0 + ovr l j := ⟨_, rfl⟩
      rw [← hx] at hdig hst
      have hsum : IntKind.u64.wrap (((l.getD j 0 : Nat) : Int) + ((ovr l j : Nat) : Int)) = (x : Int) := by rw [IntKind.wrap_u64]; omega
      obtain ⟨hS1, hS2⟩ := hO.set (by rw [car_len, hn]) j (x % 65536)
      rw [hdig] at hS1 hS2
      rw [hcs] at hS1
      have hxl : x ≤ 2199023255552 := by omega
      have HS1 := Lib.hid hS1
      have HG := Lib.hid (grown_trans hG hS2)
      have HST := Lib.hid hst
      have HDG := Lib.hid hdig
      clear hS1 hS2 hst hdig hcs hO hG hbd hob hx hn
      generalize l.getD j 0 = dj at *
      generalize ovr l j = oj at *
      have j33 : (j : Int) < (n : Int) := by omega
      go_wp2
      go_roundw
      case rel =>
        have e1 : (x : Int) % 65536 = ((dval l / 65536 ^ j % 65536 : Nat) : Int) := by rw [← HDG.out]; omega
        have e2 : (x : Int) / 65536 = ((ovr l (j + 1) : Nat) : Int) := by rw [← HST.out]; omega
        rw [e1, e2]
        exact ⟨j + 1, by omega, by go_num, rfl, HS1.out, HG.out⟩
      case measure => simp [intOf] <;> omega
    · obtain rfl : j = n := by omega
      have hca := car_all l
      rw [← hn] at hca
      rw [hca] at hO
      have hoe := ovr_all l
      rw [← hn] at hoe
      rw [← hoe]
      have HO := Lib.hid hO
      have HG := Lib.hid hG
      clear hca hoe hO hG
      obtain ⟨T, hT⟩ : ∃ T, T = dval l := ⟨_, rfl⟩
      rw [← hT] at HO ⊢
      have HT := Lib.hid hT
      clear hT
      have htl : T / 65536 ^ j ≤ 1099511627776 := by
        have := HOV.out j (by omega)
        have h2 := ovr_all l
        rw [← hn] at h2
        rw [HT.out]
        omega
      clear hn hown
      go_wp2_with (fail)
      go_loopw [0, 3] (fun d c wq => ∃ k : Nat, c = .int .u64 ((T / 65536 ^ (j + k) : Nat) : Int) ∧ T / 65536 ^ (j + k) ≤ 1099511627776 ∧ k ≤ 100 ∧ T / 65536 ^ (j + k) < 65536 ^ (100 - k) ∧ OwnU wq base 24 d (dgl T (j + k)) ∧ (k = 0 ∨ 65536 ^ (j + k - 1) ≤ T) ∧ w.grownBy wq (some g) ∧ (d.ownBlock = some g ∨ ∀ q, d.ownBlock = some q → w.heap.size ≤ q)) (fun _ c _ => (intOf c).toNat)
      case atStart => exact ⟨0, rfl, htl, by omega, by refine Nat.lt_of_le_of_lt htl ?_; exact Nat.lt_of_lt_of_le (show 1099511627776 < 65536 ^ 3 by decide) (Nat.pow_le_pow_right (by omega) (by omega)), HO.out, .inl rfl, HG.out, .inl rfl⟩
      case round =>
        obtain ⟨k, rfl, htk, hk, hp, hO, hm, hG, hown2⟩ := hrel
        clear HO HG
        obtain ⟨c, hc⟩ : ∃ c, c = T / 65536 ^ (j + k) := ⟨_, rfl⟩
        have hnext : T / 65536 ^ (j + (k + 1)) = c / 65536 := by rw [hc, ← Nat.add_assoc, Nat.pow_succ, ← Nat.div_div_eq_div_mul]
        have hdn := dgl_step T (j + k)
        rw [← hc] at htk hp hdn
        rw [← hc]
        by_cases hz : c = 0
        · subst hz
          have hT0 : T < 65536 ^ (j + k) := by
            apply Nat.lt_of_not_le
            intro h
            have := Nat.div_pos h (Nat.pow_pos (by omega))
            omega
          rw [HT.out] at hT0 hm
          rw [HT.out] at hO
          have HO := Lib.hid hO
          have HM := Lib.hid hm
          have HT0 := Lib.hid hT0
          clear hO hm hT0 hdn hnext hc hp
          go_wp2_with (fail)
          go_ret
          refine ⟨_, j + k, rfl, HO.out, hG, hown2, by have := HN.out; omega, HT0.out, ?_⟩
          rcases HM.out with h | h
          · exact .inl (by have := HN.out; omega)
          · exact .inr h
        · have hTle : 65536 ^ (j + k) ≤ T := by
            apply Nat.le_of_not_lt
            intro h
            rw [Nat.div_eq_of_lt h] at hc
            exact hz hc
          have hk1 : k < 100 := by
            apply Nat.lt_of_not_le
            intro h
            obtain rfl : k = 100 := by omega
            rw [Nat.sub_self, Nat.pow_zero] at hp
            omega
          have hp2 : c / 65536 < 65536 ^ (100 - (k + 1)) := by
            rw [Nat.div_lt_iff_lt_mul (by omega), ← Nat.pow_succ, show (100 - (k + 1)).succ = 100 - k by omega]
            exact hp
          have hbig : (dgl T (j + k)).length + 1 ≤ 1000000 := by rw [dgl_len]; omega
          have hcm : (c : Int) % 65536 = ((c % 65536 : Nat) : Int) := by omega
          have HP2 := Lib.hid hp2
          have HTL := Lib.hid hTle
          have HNX := Lib.hid hnext
          have HDN := Lib.hid hdn
          have HBG := Lib.hid hbig
          have HCM := Lib.hid hcm
          have hgs := hG.size
          clear hp2 hTle hnext hdn hbig hcm hp hc hm
          have c0 : (0 : Int) < (c : Int) := by omega
          go_wp2_with (at_builtin; refine wpList_app_ownU rfl (.tmp 27) (.tmp 30) 61 rfl 24 Tryd.underlying61 info_u64 base u0 (dgl T (j + k)) rfl (by exact hO.alloc _) (wr.heap.size + 1) 1 1 (some ⟨wr.heap.size, 0, none⟩) [c % 65536] rfl (by exact us_newv wr 24 _ _ HCM.out) HBG.out (by simp <;> omega) ?_; intro v1 w1 hown1 hg1 hat1)
          go_roundw
          case rel =>
            refine ⟨k + 1, by rw [HNX.out]; rfl, by rw [HNX.out]; omega, by omega, by rw [HNX.out]; exact HP2.out, by rw [← Nat.add_assoc, HDN.out]; exact hown1, .inr (by rw [show j + (k + 1) - 1 = j + k by omega]; exact HTL.out), ?_, ?_⟩
            · exact grown_more (grown_more hG (World.grownBy_alloc wr _ none) (.inr (fun _ h => by cases h))) hg1 hown2
            · rcases hat1 with h | h
              · rw [h]
                exact hown2
              · refine .inr fun q hq => ?_
                rw [h] at hq
                injection hq with hq
                simp at hq
                omega
          case measure => simp [intOf] <;> omega
end Go.Proofs.YtnfckoamjeafhaaDoor
