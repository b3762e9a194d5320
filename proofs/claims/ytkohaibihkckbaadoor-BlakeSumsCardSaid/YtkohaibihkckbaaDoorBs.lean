/- Layer 11's law of sums: bytes' hash, in whatever parts, is the document's. -/
import Derived.Test.YtkohaibihkckbaaDoorBt
import Derived.Test.YtkohaibihkckbaaDoorEqs
import Derived.Test.YtkohaibihkckbaaDoorRow
import Derived.Deep.DeepCutAuto
import Derived.Deep.CutBlock
namespace Go.Proofs.YtkohaibihkckbaaDoor
set_option linter.unusedVariables false
set_option linter.unusedSimpArgs false
open Go Go.RowKit

theorem info_u8h : (Tryd.prog.info? 5).map (fun i => (i.zero, i.size, i.bytes)) = some (some (.int .u8 0), 1, 1) := by kernel_rfl
def BPost (b : Bool) (w : World) (e : Ending) (w' : World) : Prop := e = .returned (.bool b) ∧ Below w.heap.size w w'
theorem bvs_natB (l : List UInt8) : bvs l = ncs .u8 (l.map UInt8.toNat) := by
  apply Array.ext_getElem?
  intro i
  rw [bvs_get]
  simp [ncs, nc, Function.comp_def]
  rfl
theorem key_same (f : Nat → UInt8) (W : World) : (Op.equalIn 10000 27 (.agg (bvs (rb 32 f))) (.agg (bvs (rb 32 f)))).run Tryd.prog W = .ok true W := by
  have h2 := run_equalIn_nats (P := Tryd.prog) W 9998 27 5 32 .u8 Tryd.underlying27 Tryd.underlying5 (size_u8 info_u8h) ((rb 32 f).map UInt8.toNat) ((rb 32 f).map UInt8.toNat) (by rw [List.length_map, rb_len]) (by rw [List.length_map, rb_len])
  rw [← bvs_natB, show (((rb 32 f).map UInt8.toNat) == ((rb 32 f).map UInt8.toNat)) = true by simp] at h2
  exact h2
/-- The values of parts: slices that read as the lists L, all below block B. -/
structure PT (W : World) (B : Nat) (xs : List Value) (L : List (List UInt8)) : Prop where
  len : xs.length = L.length
  at_ : ∀ (j : Nat) (l : List UInt8), L[j]? = some l → ∃ Aj nj cj, xs[j]? = some (Value.slice Aj nj cj) ∧ BS W B Aj nj cj l
  one : ∀ u ∈ xs, u.oneCell' = true
theorem PT.nil (W : World) (B : Nat) : PT W B [] [] := ⟨rfl, (fun j l h => by simp at h), (fun u h => by cases h)⟩
theorem PT.below {W W' : World} {B : Nat} {xs : List Value} {L : List (List UInt8)} (h : PT W B xs L) (hb : Below B W W') : PT W' B xs L :=
  ⟨h.len, fun j l hl => by
    obtain ⟨Aj, nj, cj, h1, h2⟩ := h.at_ j l hl
    exact ⟨Aj, nj, cj, h1, h2.below hb⟩, h.one⟩
theorem PT.snoc {W : World} {B : Nat} {xs : List Value} {L : List (List UInt8)} (h : PT W B xs L) {A : Option Addr} {n c : Nat} {l : List UInt8} (hl : BS W B A n c l) : PT W B (xs ++ [.slice A n c]) (L ++ [l]) := by
  refine ⟨by simp [h.len], fun j l' hj => ?_, fun u hu => ?_⟩
  · by_cases hlt : j < L.length
    · rw [List.getElem?_append_left hlt] at hj
      obtain ⟨Aj, nj, cj, h1, h2⟩ := h.at_ j l' hj
      exact ⟨Aj, nj, cj, by rw [List.getElem?_append_left (by rw [h.len]; exact hlt)]; exact h1, h2⟩
    · rw [List.getElem?_append_right (by omega)] at hj
      have hj0 : j - L.length = 0 := by
        have := (List.getElem?_eq_some_iff.1 hj).1
        simp at this
        omega
      rw [hj0] at hj
      injection hj with hj
      subst hj
      exact ⟨A, n, c, by rw [List.getElem?_append_right (by rw [h.len]; omega), h.len, hj0]; rfl, hl⟩
  · rcases List.mem_append.1 hu with hu | hu
    · exact h.one u hu
    · rw [List.mem_singleton.1 hu]; rfl
/-- The slice v of values xs is the call's own. -/
def OwnR (w : World) (base : Nat) (v : Value) (xs : List Value) : Prop := w.ownsRow base 22 1 v xs.length xs
theorem OwnR.nil (w : World) (base : Nat) : OwnR w base (.slice none 0 0) [] := ⟨rfl, .inl ⟨rfl, rfl⟩⟩
theorem OwnR.alloc {w : World} {base : Nat} {v : Value} {xs : List Value} (h : OwnR w base v xs) (o : Obj) : OwnR (w.alloc o) base v xs := World.ownsRow.alloc h o
theorem OwnR.rs {w : World} {base : Nat} {v : Value} {xs : List Value} (h : OwnR w base v xs) {B : Nat} {L : List (List UInt8)} (hp : PT w B xs L) (hB : B ≤ w.heap.size) : ∃ A n c, v = .slice A n c ∧ RS w w.heap.size A n c L ∧ n = L.length := by
  have hlt := World.ownsRow.lt h
  rcases h.2 with ⟨rfl, h0⟩ | ⟨g, cap, cur, rfl, hb, hh, hc, hm, hs, ht⟩
  · have : L = [] := List.eq_nil_of_length_eq_zero (by rw [← hp.len]; exact h0)
    subst this
    exact ⟨none, 0, 0, rfl, ⟨rfl, fun h => absurd h (by omega)⟩, rfl⟩
  · refine ⟨_, _, _, rfl, ⟨hp.len.symm, fun _ => ⟨g, 0, rfl, (hlt g rfl).2, fun j l hl => ?_⟩⟩, hp.len⟩
    obtain ⟨Aj, nj, cj, h1, h2⟩ := hp.at_ j l hl
    have := World.ownsRow.cells h (g := g) rfl j _ h1
    rw [Addr.add_lit] at this
    exact ⟨Aj, nj, cj, this, h2.more hB⟩
theorem info_rowb : (Tryd.prog.info? 22).map (fun i => (i.zero, i.size, i.bytes)) = some (some (.slice none 0 0), 1, 24) := by kernel_rfl
/-- 'append(v, x)' of one slice. -/
theorem run_app_R {w : World} (ty : TypeId) (base : Nat) (v : Value) (xs : List Value) (hown : OwnR w base v xs) (x : Value) (g : Nat) (hx : w.cell? ⟨g, 0, none⟩ = some x) (h1 : x.oneCell' = true) (hbig : xs.length + 1 ≤ 1000000) (hbase : base ≤ w.heap.size) :
    ∃ v' w', (Builtin.append_ #[25, 25] ty #[v, .slice (some ⟨g, 0, none⟩) 1 1]).run Tryd.prog w = .ok v' w' ∧ OwnR w' base v' (xs ++ [x]) ∧ w.grownBy w' v.ownBlock := by
  obtain ⟨i, hi, hz, hs, hb⟩ := info_parts info_rowb
  obtain ⟨v', w', h1, h2, h3, _, _⟩ := run_append_own_at (P := Tryd.prog) w base 25 ty 22 i _ 1 24 Tryd.underlying25 hi hz hs hb rfl (by omega) v _ _ hown ⟨g, 0, none⟩ 1 1 [x] (by simp) (fun j u hu => by
    rcases j with _ | j
    · injection hu with hu
      subst hu
      exact hx
    · simp at hu) (fun u hu => by rw [List.mem_singleton.1 hu]; exact h1) (by simp only [maxLen]; omega) (by omega) hbase
  exact ⟨v', w', h1, by unfold OwnR; rw [List.length_append]; exact h2, h3⟩
theorem wpList_app_R {ops : Array Oper} {rest : List Oper} {o : Oper} {a : Act} {w : World} {Q : Exit → Act → World → Prop} (hg : o.guard = none) (s x : Operand) (ho : o.op = .call { callee := .builtin .append, args := #[s, x], argTypes := #[25, 25] })
    (base : Nat) (v : Value) (xs : List Value) (hs : a.eval s = v) (hown : OwnR w base v xs) (u : Value) (g : Nat) (hx : a.eval x = .slice (some ⟨g, 0, none⟩) 1 1) (hu : w.cell? ⟨g, 0, none⟩ = some u) (h1 : u.oneCell' = true) (hbig : xs.length + 1 ≤ 1000000) (hbase : base ≤ w.heap.size)
    (h : ∀ v' w', OwnR w' base v' (xs ++ [u]) → w.grownBy w' v.ownBlock → wpList Tryd.prog ops Q rest (a.put o.dst v') w') : wpList Tryd.prog ops Q (o :: rest) a w := by
  refine wpList_plain hg fun K hK => ?_
  obtain ⟨v', w', hrun, h1, h2⟩ := run_app_R (w := w) o.type base v xs hown u g hu h1 hbig hbase
  unfold Oper.wp
  simp [execOp, ho, resolve, invoke, builtin, hs, hx, hrun, Result.andThen]
  exact hK _ _ (h v' w' h1 h2)
/-- Where the law stands: the parts so far, what is left. -/
structure LG (w W : World) (B : Nat) (v : Value) (L : List (List UInt8)) : Prop where
  below : Below w.heap.size w W
  own : ∃ xs, OwnR W w.heap.size v xs ∧ PT W B xs L
theorem LG.app {w W W' : World} {B : Nat} {v v' : Value} {L : List (List UInt8)} (hBw : B ≤ w.heap.size) (h : LG w W B v L) {xs : List Value} (ho : OwnR W w.heap.size v xs) (hp : PT W B xs L) (hg : W.grownBy W' v.ownBlock) {A : Option Addr} {n c : Nat} {l : List UInt8} (hl : BS W B A n c l) (ho' : OwnR W' w.heap.size v' (xs ++ [.slice A n c])) : LG w W' B v' (L ++ [l]) := by
  have hlo : ∀ g, v.ownBlock = some g → w.heap.size ≤ g := fun g e => (World.ownsRow.lt ho g e).1
  have hb : Below w.heap.size w W' := h.below.grown hg h.below.size hlo
  have hbB : Below B W W' := (Below.refl B W).grown hg (Nat.le_trans hBw h.below.size) (fun g e => Nat.le_trans hBw (hlo g e))
  exact ⟨hb, _, ho', (hp.snoc hl).below hbB⟩
theorem rs_one {W : World} {g B B' n c : Nat} {A : Option Addr} {l : List UInt8} (h2 : Blk W g 22 #[.slice A n c]) (hl : BS W B A n c l) (hB : g < B') (hB2 : B ≤ B') : RS W B' (some ⟨g, 0, none⟩) 1 1 [l] :=
  ⟨rfl, fun _ => ⟨g, 0, rfl, hB, fun j l' hj => by
    rcases j with _ | j
    · have e : l' = l := by simpa using hj.symm
      rw [e]
      exact ⟨A, n, c, by rw [h2.cell]; rfl, hl.more hB2⟩
    · simp at hj⟩⟩
theorem LG.farB {w W W' : World} {B : Nat} {v : Value} {L : List (List UInt8)} (hBw : B ≤ w.heap.size) (h : LG w W B v L) {xs : List Value} (ho : OwnR W w.heap.size v xs) (hg : W.grownBy W' v.ownBlock) : Below B W W' :=
  (Below.refl B W).grown hg (Nat.le_trans hBw h.below.size) (fun g e => Nat.le_trans hBw (World.ownsRow.lt ho g e).1)
theorem PT.alloc {W : World} {B : Nat} {xs : List Value} {L : List (List UInt8)} (h : PT W B xs L) (hB : B ≤ W.heap.size) (o : Obj) : PT (W.alloc o) B xs L := h.below (((Below.refl W.heap.size W).alloc (Nat.le_refl _) o).mono hB)
theorem LG.alloc {w W : World} {B : Nat} {v : Value} {L : List (List UInt8)} (hBw : B ≤ w.heap.size) (h : LG w W B v L) (o : Obj) : LG w (W.alloc o) B v L := by
  obtain ⟨xs, ho, hp⟩ := h.own
  exact ⟨h.below.alloc h.below.size o, xs, ho.alloc o, hp.alloc (Nat.le_trans hBw h.below.size) o⟩
/-- A slice of integers. -/
structure IS (w : World) (B : Nat) (A : Option Addr) (n : Nat) (zs : List Int) : Prop where
  len : zs.length = n
  at_ : 0 < n → ∃ b o, A = some ⟨b, o, none⟩ ∧ b < B ∧ ∀ (j : Nat) (z : Int), zs[j]? = some z → w.cell? ⟨b, o + j, none⟩ = some (.int .i64 z)
  rng : ∀ z ∈ zs, -9223372036854775808 ≤ z ∧ z ≤ 9223372036854775807
theorem IS.below {w w' : World} {B n : Nat} {A : Option Addr} {zs : List Int} (h : IS w B A n zs) (hb : Below B w w') : IS w' B A n zs :=
  ⟨h.len, fun hn => by
    obtain ⟨b, o, e, hlt, hc⟩ := h.at_ hn
    exact ⟨b, o, e, hlt, fun j z hz => (hb.cell (p := ⟨b, o + j, none⟩) hlt).trans (hc j z hz)⟩, h.rng⟩
/-- Where a message is cut. -/
def cutN (z : Int) (r : Nat) : Nat := ((z.tmod ((r : Int) + 1) + (r : Int) + 1).tmod ((r : Int) + 1)).toNat
theorem cutN_le (z : Int) (r : Nat) : cutN z r ≤ r := by
  unfold cutN
  have h := Int.tmod_lt_of_pos (z.tmod ((r : Int) + 1) + (r : Int) + 1) (show (0 : Int) < (r : Int) + 1 by omega)
  omega
theorem cut_low (z : Int) (r : Nat) : -(r : Int) ≤ z.tmod ((r : Int) + 1) ∧ z.tmod ((r : Int) + 1) ≤ (r : Int) := by
  have h1 := Int.tmod_lt_of_pos z (show (0 : Int) < (r : Int) + 1 by omega)
  have h2 := Int.lt_tmod_of_pos z (show (0 : Int) < (r : Int) + 1 by omega)
  omega
theorem cutN_eq (z : Int) (r : Nat) : (z.tmod ((r : Int) + 1) + (r : Int) + 1).tmod ((r : Int) + 1) = (cutN z r : Int) := by
  unfold cutN
  obtain ⟨h1, h2⟩ := cut_low z r
  have h := Int.tmod_nonneg ((r : Int) + 1) (a := z.tmod ((r : Int) + 1) + (r : Int) + 1) (by omega)
  omega
attribute [local irreducible] hashB bvs rb
set_option maxRecDepth 100000 in
set_option maxHeartbeats 8000000 in
theorem law_sums (A Ac : Option Addr) (n c nc cc B : Nat) (l : List UInt8) (zs : List Int) (w : World) (hm : BS w B A n c l) (hc : IS w B Ac nc zs) (hB : B ≤ w.heap.size)
    (hSum : ∀ (A : Option Addr) (n c B : Nat) (L : List (List UInt8)) (W : World), Below w.heap.size w W → RS W B A n c L → B ≤ W.heap.size → L.flatten.length ≤ 100000 → L.length ≤ 1000 → Calls Tryd.prog 6 #[.slice A n c] W (fun rr w' => rr = .returned (.agg (bvs (rb 32 (hashB L.flatten)))) ∧ Below W.heap.size W w'))
    (hK : ∀ W : World, Below w.heap.size w W → Calls Tryd.prog 5 #[] W (fun rr w' => rr = .returned (.bool true) ∧ Below W.heap.size W w')) :
    Calls Tryd.prog 3 #[.slice A n c, .slice Ac nc cc] w (BPost true w) := by
  have HM := Lib.hid hm
  have HC := Lib.hid hc
  have HSUM := Lib.hid hSum
  have HK := Lib.hid hK
  have hcap := hm.cap
  clear hm hc hSum hK
  go_enter Tryd.func3, Tryd.ntmps3
  by_cases h1 : 1000 < n
  · have d1 : decide ((1000 : Int) < (n : Int)) = true := decide_eq_true (by omega)
    go_wp2_with (fail)
    refine (HK.out _ (Below.refl _ _)).mono ?_
    rintro e v1 ⟨rfl, hb⟩
    go_wp2_with (fail)
    go_ret
    exact ⟨rfl, hb⟩
  · have d1 : decide ((1000 : Int) < (n : Int)) = false := decide_eq_false (by omega)
    have d1i : ¬ ((1000 : Int) < (n : Int)) := by omega
    by_cases h2 : 20 < nc
    · have d2 : decide ((20 : Int) < (nc : Int)) = true := decide_eq_true (by omega)
      go_wp2_with (fail)
      refine (HK.out _ (Below.refl _ _)).mono ?_
      rintro e v1 ⟨rfl, hb⟩
      go_wp2_with (fail)
      go_ret
      exact ⟨rfl, hb⟩
    · have d2 : decide ((20 : Int) < (nc : Int)) = false := decide_eq_false (by omega)
      have d2i : ¬ ((20 : Int) < (nc : Int)) := by omega
      have hn2 : n ≤ 1000 := by omega
      have hnc2 : nc ≤ 20 := by omega
      have HL0 := Lib.hid (show LG w w B (.slice none 0 0) [] from ⟨Below.refl _ _, [], OwnR.nil _ _, PT.nil _ _⟩)
      clear h1 h2
      go_wp2_with (fail)
      go_loopw [7, 5, 6] (fun iv v rv wq => ∃ (i : Nat) (L : List (List UInt8)) (Ar : Option Addr) (nr cr : Nat) (lr : List UInt8), iv = .int .i64 (i : Int) ∧ i ≤ nc ∧ rv = .slice Ar nr cr ∧ LG w wq B v L ∧ BS wq B Ar nr cr lr ∧ Hid (L.flatten ++ lr = l) ∧ L.length = i ∧ nr ≤ 1000) (fun iv _ _ _ => nc - (intOf iv).toNat)
      case atStart => exact ⟨0, [], A, n, c, l, rfl, by omega, rfl, HL0.out, HM.out, Lib.hid (by simp), rfl, hn2⟩
      case round =>
        obtain ⟨i, L, Ar, nr, cr, lr, rfl, hi, rfl, hG, hR, hfl, hLl, hnr⟩ := hrel
        clear HL0
        by_cases hlt : i < nc
        · obtain ⟨bc, oc, ec, hbc, hcc⟩ := HC.out.at_ (by omega)
          subst ec
          obtain ⟨z, hz⟩ : ∃ z, zs[i]? = some z := ⟨_, List.getElem?_eq_getElem (by rw [HC.out.len]; exact hlt)⟩
          have hzr := HC.out.rng z (List.mem_of_getElem? hz)
          have cz : wr.cell? ⟨bc, oc + i, none⟩ = some (.int .i64 z) := (hG.below.cell (p := ⟨bc, oc + i, none⟩) (by show bc < _; omega)).trans (hcc i z hz)
          obtain ⟨lo1, lo2⟩ := cut_low z nr
          have hk := cutN_le z nr
          have hke := cutN_eq z nr
          obtain ⟨k, hkk⟩ : ∃ k, k = cutN z nr := ⟨_, rfl⟩
          rw [← hkk] at hk hke
          clear hkk hcc hz
          have t1 : IntKind.i64.wrap ((nr : Int) + 1) = (nr : Int) + 1 := by rw [IntKind.wrap_i64]; omega
          have t2 : IntKind.i64.wrap (z.tmod ((nr : Int) + 1) + (nr : Int)) = z.tmod ((nr : Int) + 1) + (nr : Int) := by rw [IntKind.wrap_i64]; omega
          have t3 : IntKind.i64.wrap (z.tmod ((nr : Int) + 1) + (nr : Int) + 1) = z.tmod ((nr : Int) + 1) + (nr : Int) + 1 := by rw [IntKind.wrap_i64]; omega
          have t4 : IntKind.i64.wrap (z.tmod ((nr : Int) + 1)) = z.tmod ((nr : Int) + 1) := by rw [IntKind.wrap_i64]; omega
          have t5 : IntKind.i64.wrap (k : Int) = (k : Int) := by rw [IntKind.wrap_i64]; omega
          have hnz : ¬ ((nr : Int) + 1 = 0) := by omega
          obtain ⟨xs, ho, hpt⟩ := hG.own
          have HG := Lib.hid hG
          have HR := Lib.hid hR
          have HO := Lib.hid ho
          have HPT := Lib.hid hpt
          clear hG hR ho hpt
          obtain ⟨A', hsl, hbt⟩ := HR.out.tail (P := Tryd.prog) 22 5 Tryd.underlying22 info_u8h hk
          have hhd := fun W => run_head2 (P := Tryd.prog) 22 5 Tryd.underlying22 info_u8h Ar nr cr k (by have := HR.out.cap; omega) W
          have HBT := Lib.hid hbt
          clear hbt
          have hbig : xs.length + 1 ≤ 1000000 := by have := HPT.out.len; omega
          have cA := (Blk.new wr 22 #[Value.slice Ar k cr]).cell 0
          have HCA : Hid ((wr.alloc (.cells #[Value.slice Ar k cr] 22)).cell? ⟨wr.heap.size, 0, none⟩ = some (Value.slice Ar k cr)) := Lib.hid cA
          clear cA
          go_wp2_with (at_builtin; go_loud (refine wpList_app_R rfl (.tmp 41) (.tmp 45) rfl w.heap.size _ xs rfl (HO.out.alloc _) (Value.slice Ar k cr) wr.heap.size rfl (by exact HCA.out) rfl (by exact hbig) (by have := HG.out.below.size; simp; omega) ?_; intro v1 w1 hown1 hg1))
          have hGa := HG.out.alloc hB (.cells #[Value.slice Ar k cr] 22)
          have hBwr : B ≤ wr.heap.size := Nat.le_trans hB HG.out.below.size
          have hG2 := hGa.app hB (HO.out.alloc _) (HPT.out.alloc hBwr _) hg1 ((HR.out.head2 hk).alloc hBwr _) hown1
          have hR2 := (HBT.out.alloc hBwr (.cells #[Value.slice Ar k cr] 22)).below (hGa.farB hB (HO.out.alloc _) hg1)
          have HG2 := Lib.hid hG2
          have HR2 := Lib.hid hR2
          clear hGa hG2 hR2 hown1 hg1 HO HPT HBT HCA hsl hhd
          go_round
          case rel => exact ⟨i + 1, L ++ [lr.take k], A', nr - k, cr - k, lr.drop k, by go_num, by omega, rfl, HG2.out, HR2.out, Lib.hid (by rw [← hfl.out]; simp [List.append_assoc]), by simp [hLl], by omega⟩
          case measure => simp [intOf] <;> omega
        · obtain rfl : i = nc := by omega
          obtain ⟨xs, ho, hpt⟩ := hG.own
          have HG := Lib.hid hG
          have HR := Lib.hid hR
          have HO := Lib.hid ho
          have HPT := Lib.hid hpt
          have hbig : xs.length + 1 ≤ 1000000 := by have := hpt.len; omega
          have cA := (Blk.new wr 22 #[Value.slice Ar nr cr]).cell 0
          have HCA : Hid ((wr.alloc (.cells #[Value.slice Ar nr cr] 22)).cell? ⟨wr.heap.size, 0, none⟩ = some (Value.slice Ar nr cr)) := Lib.hid cA
          clear cA hG hR ho hpt
          obtain ⟨R, hRR⟩ : ∃ R, R = bvs (rb 32 (hashB l)) := ⟨_, rfl⟩
          have hsame := key_same (hashB l)
          rw [← hRR] at hsame
          have HRR := Lib.hid hRR
          clear hRR
          go_wp2_with (at_builtin; go_loud (refine wpList_app_R rfl (.tmp 50) (.tmp 52) rfl w.heap.size _ xs rfl (HO.out.alloc _) (Value.slice Ar nr cr) wr.heap.size rfl (by exact HCA.out) rfl (by exact hbig) (by have := HG.out.below.size; simp; omega) ?_; intro v1 w1 hown1 hg1; have hGa := HG.out.alloc hB (.cells #[Value.slice Ar nr cr] 22); have hBwr : B ≤ wr.heap.size := Nat.le_trans hB HG.out.below.size; have hG2 := hGa.app hB (HO.out.alloc _) (HPT.out.alloc hBwr _) hg1 (HR.out.alloc hBwr _) hown1; have HG2 := Lib.hid hG2; clear hGa hG2 hown1 hg1))
          have hG2 := HG2.out
          obtain ⟨xs2, ho2, hp2⟩ := hG2.own
          have hB1 : B ≤ w1.heap.size := Nat.le_trans hB hG2.below.size
          obtain ⟨A5, n5, c5, rfl, hRS, hn5⟩ := ho2.rs hp2 hB1
          have hflat : (L ++ [lr]).flatten = l := by rw [← hfl.out]; simp
          have hll := HM.out.len
          have hm1 := HM.out.below (hG2.below.mono hB)
          have f1 := (Fr.start w1).row #[Value.slice A n c] 22 (g := w1.heap.size) rfl
          have hrs1 := rs_one (W := w1.alloc (.cells #[Value.slice A n c] 22)) (f1.get (g := w1.heap.size) (t := 22) (cs := #[Value.slice A n c]) (by simp)) (hm1.alloc hB1 _) (B' := w1.heap.size + 1) (by omega) (by omega)
          have b1 := hG2.below.alloc hG2.below.size (.cells #[Value.slice A n c] 22)
          have hs1 := HSUM.out _ 1 1 (w1.heap.size + 1) [l] _ b1 hrs1 (by simp) (by simp; omega) (by simp)
          rw [show ([l] : List (List UInt8)).flatten = l by simp, ← HRR.out] at hs1
          have HS1 := Lib.hid hs1
          have HB1 := Lib.hid b1
          have HRS := Lib.hid (hRS.below ((Below.refl w1.heap.size w1).alloc (Nat.le_refl _) (.cells #[Value.slice A n c] 22)))
          have HZ1 : w1.heap.size ≤ (w1.alloc (.cells #[Value.slice A n c] 22)).heap.size := by simp
          have HN5 := Lib.hid hn5
          have HFLT := Lib.hid hflat
          clear hs1 b1 hrs1 f1 hm1 hRS hn5 ho2 hp2 hG2 HO HPT HCA HR HG hflat
          refine HS1.out.mono ?_
          rintro e v2 ⟨rfl, hb2⟩
          have b2 := HB1.out.trans (hb2.mono HB1.out.size)
          have hr2 := rsum_any (v := .slice A n c) (l := l) v2 ⟨A, n, c, rfl, (HM.out.below (b2.mono hB)).more (Nat.le_trans hB b2.size)⟩ (by omega)
          rw [← HRR.out] at hr2
          have HR2 := Lib.hid hr2
          have HB2 := Lib.hid b2
          have HS2 := Lib.hid (HRS.out.below (hb2.mono HZ1))
          have HZ2 := Nat.le_trans HZ1 hb2.size
          clear hr2 b2 hb2 HS1 HRS
          go_wp2_with (fail)
          refine HR2.out.mono ?_
          rintro e v3 ⟨rfl, hb3⟩
          have b3 := HB2.out.trans (hb3.mono HB2.out.size)
          have hz3 := Nat.le_trans HZ2 hb3.size
          have hs3 := HSUM.out A5 n5 c5 w1.heap.size (L ++ [lr]) v3 b3 (HS2.out.below (hb3.mono HZ2)) hz3 (by rw [HFLT.out]; omega) (by simp; omega)
          rw [HFLT.out, ← HRR.out] at hs3
          have HS3 := Lib.hid hs3
          have HB3 := Lib.hid b3
          clear hs3 b3 hb3 HR2 HB2 HS2 HZ2 HZ1
          go_wp2_with (fail)
          refine HS3.out.mono ?_
          rintro e v4 ⟨rfl, hb4⟩
          have b4 := HB3.out.trans (hb4.mono HB3.out.size)
          have f4 := (Fr.start v4).row #[Value.slice A n c] 22 (g := v4.heap.size) rfl
          have hm4 := (HM.out.below (b4.mono hB))
          have hrs4 := rs_one (W := v4.alloc (.cells #[Value.slice A n c] 22)) (f4.get (g := v4.heap.size) (t := 22) (cs := #[Value.slice A n c]) (by simp)) (hm4.alloc (Nat.le_trans hB b4.size) _) (B' := v4.heap.size + 1) (by omega) (by have := b4.size; omega)
          have c4 := b4.alloc b4.size (.cells #[Value.slice A n c] 22)
          have hs4 := HSUM.out (some ⟨v4.heap.size, 0, none⟩) 1 1 (v4.heap.size + 1) [l] _ c4 hrs4 (by simp) (by simp; omega) (by simp)
          rw [show ([l] : List (List UInt8)).flatten = l by simp, ← HRR.out] at hs4
          have HS4 := Lib.hid hs4
          have HB4 := Lib.hid c4
          clear hs4 b4 c4 f4 hm4 hrs4 hb4 HS3 HB3
          go_wp2_with (fail)
          refine HS4.out.mono ?_
          rintro e v5 ⟨rfl, hb5⟩
          have b5 := HB4.out.trans (hb5.mono HB4.out.size)
          have HB5 := Lib.hid b5
          clear b5 hb5 HS4 HB4
          go_wp2_with (fail)
          refine (HK.out _ HB5.out).mono ?_
          rintro e v6 ⟨rfl, hb6⟩
          have HB6 := Lib.hid (HB5.out.trans (hb6.mono HB5.out.size))
          clear hb6
          go_wp2_with (fail)
          go_ret
          exact ⟨rfl, HB6.out⟩
end Go.Proofs.YtkohaibihkckbaaDoor
