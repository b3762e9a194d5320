/- What a message has taken in; the program takes in a part. -/
import Derived.Test.YtagifgadcbhinaaDoorHq
import Derived.Deep.MidRow
namespace Go.Proofs.YtagifgadcbhinaaDoor
set_option linter.unusedVariables false
set_option linter.unusedSimpArgs false
open Go Go.RowKit

/-- A message behind the bytes X: the state, the block, how much of it is filled. -/
structure Tk (X : List UInt8) (S : S8) (Bu : List UInt8) (f : Nat) : Prop where
  len : Bu.length = 128
  fil : f = X.length % 128
  st : S = blocks (bn X) H0 (X.length / 128)
  blk : Bu.take f = X.drop (128 * (X.length / 128))
theorem bn_append (X Y : List UInt8) : bn (X ++ Y) = bn X ++ bn Y := by simp [bn]
theorem bn_drop (X : List UInt8) (i : Nat) : bn (X.drop i) = (bn X).drop i := by simp [bn, List.map_drop]
/-- The block behind a copy. -/
def over (Bu : List UInt8) (f : Nat) (Y : List UInt8) : List UInt8 := Bu.take f ++ Y ++ Bu.drop (f + Y.length)
theorem over_len {Bu Y : List UInt8} {f : Nat} (h : Bu.length = 128) (hf : f + Y.length ≤ 128) : (over Bu f Y).length = 128 := by
  simp only [over, List.length_append, List.length_take, List.length_drop]; omega
theorem Tk.lt {X : List UInt8} {S : S8} {Bu : List UInt8} {f : Nat} (h : Tk X S Bu f) : f < 128 := by rw [h.fil]; omega
theorem Tk.ok {X : List UInt8} {S : S8} {Bu : List UInt8} {f : Nat} (h : Tk X S Bu f) : S.ok := by rw [h.st]; exact blocks_ok H0_ok _
theorem Tk.less {X : List UInt8} {S : S8} {Bu : List UInt8} {f : Nat} (h : Tk X S Bu f) (Y : List UInt8) (hy : f + Y.length < 128) : Tk (X ++ Y) S (over Bu f Y) (f + Y.length) := by
  obtain ⟨h1, h2, h3, h4⟩ := h
  have hq : (X ++ Y).length / 128 = X.length / 128 := by rw [List.length_append]; omega
  refine ⟨over_len h1 (by omega), by rw [List.length_append]; omega, ?_, ?_⟩
  · rw [hq, bn_append, blocks_append _ _ _ _ (by rw [bn_len]; omega), ← h3]
  · have e : (Bu.take f ++ Y).length = f + Y.length := by rw [List.length_append, List.length_take]; omega
    rw [hq, over, List.take_append_of_le_length (by omega), List.take_of_length_le (by omega), List.drop_append_of_le_length (by omega), h4]
theorem Tk.whole {X : List UInt8} {S : S8} {Bu : List UInt8} {f : Nat} (h : Tk X S Bu f) (Y : List UInt8) (hy : f + Y.length = 128) : Tk (X ++ Y) (press (bn (over Bu f Y)) S) (over Bu f Y) 0 := by
  obtain ⟨h1, h2, h3, h4⟩ := h
  have hq : (X ++ Y).length / 128 = X.length / 128 + 1 := by rw [List.length_append]; omega
  have e : (Bu.take f ++ Y).length = 128 := by rw [List.length_append, List.length_take]; omega
  have e2 : over Bu f Y = X.drop (128 * (X.length / 128)) ++ Y := by rw [over, List.drop_of_length_le (by omega), List.append_nil, h4]
  refine ⟨over_len h1 (by omega), by rw [List.length_append]; omega, ?_, ?_⟩
  · rw [hq, blocks, bn_append, blocks_append _ _ _ _ (by rw [bn_len]; omega), ← h3, List.drop_append_of_le_length (by rw [bn_len]; omega), ← bn_drop, ← bn_append, ← e2, List.take_of_length_le (by rw [bn_len, over_len h1 (by omega)]; omega)]
  · rw [hq, List.take_zero, List.drop_of_length_le (by rw [List.length_append]; omega)]

/-- The cells of a message. -/
def mcL (S : S8) (Bu : List UInt8) (f n : Nat) : List Value := S.l.map (nc .u64) ++ (HK.map (nc .u64) ++ (Bu.map bv ++ [.int .i64 (f : Int), .int .u64 (n : Int)]))
def mc (S : S8) (Bu : List UInt8) (f n : Nat) : Array Value := (mcL S Bu f n).toArray
theorem mcL_len {S : S8} {Bu : List UInt8} {f n : Nat} (h : Bu.length = 128) : (mcL S Bu f n).length = 218 := by
  simp only [mcL, List.length_append, List.length_map, HK_len, h]; rfl
theorem mc_at (S : S8) (Bu : List UInt8) (f n i : Nat) : (mc S Bu f n)[i]? = (mcL S Bu f n)[i]? := by simp [mc]
theorem sl_len (S : S8) : (S.l.map (nc .u64)).length = 8 := rfl
theorem kl_len : (HK.map (nc .u64)).length = 80 := by rw [List.length_map, HK_len]
theorem mc_K (S : S8) (Bu : List UInt8) (f n : Nat) {t : Nat} (ht : t < 80) : (mc S Bu f n)[8 + t]? = some (.int .u64 ((HK.getD t 0 : Nat) : Int)) := by
  rw [mc_at, mcL, List.getElem?_append_right (by rw [sl_len]; omega), sl_len, show 8 + t - 8 = t by omega, List.getElem?_append_left (by rw [kl_len]; exact ht), List.getElem?_map]
  simp [List.getD, show t < HK.length by rw [HK_len]; exact ht]
  rfl
theorem mc_B (S : S8) {Bu : List UInt8} (f n : Nat) {j : Nat} (hl : Bu.length = 128) (hj : j < 128) : (mc S Bu f n)[88 + j]? = Bu[j]?.map bv := by
  rw [mc_at, mcL, List.getElem?_append_right (by rw [sl_len]; omega), sl_len, List.getElem?_append_right (by rw [kl_len]; omega), kl_len, List.getElem?_append_left (by rw [List.length_map]; omega), List.getElem?_map, show 88 + j - 8 - 80 = j by omega]
theorem mc_split (S : S8) (Bu : List UInt8) (f n : Nat) : mcL S Bu f n = (S.l.map (nc .u64) ++ (HK.map (nc .u64) ++ Bu.map bv)) ++ [.int .i64 (f : Int), .int .u64 (n : Int)] := by simp [mcL]
theorem head_len {S : S8} {Bu : List UInt8} (h : Bu.length = 128) : (S.l.map (nc .u64) ++ (HK.map (nc .u64) ++ Bu.map bv)).length = 216 := by
  rw [List.length_append, List.length_append, sl_len, kl_len, List.length_map, h]
theorem mc_f (S : S8) {Bu : List UInt8} (f n : Nat) (h : Bu.length = 128) : (mc S Bu f n)[216]? = some (.int .i64 (f : Int)) := by
  rw [mc_at, mc_split, List.getElem?_append_right (by rw [head_len h]; omega), head_len h]; rfl
theorem mc_n (S : S8) {Bu : List UInt8} (f n : Nat) (h : Bu.length = 128) : (mc S Bu f n)[217]? = some (.int .u64 (n : Int)) := by
  rw [mc_at, mc_split, List.getElem?_append_right (by rw [head_len h]; omega), head_len h]; rfl
theorem mc_setf (S : S8) {Bu : List UInt8} (f n f' : Nat) (h : Bu.length = 128) : (mc S Bu f n).setIfInBounds 216 (.int .i64 (f' : Int)) = mc S Bu f' n := by
  simp only [mc, mc_split, List.setIfInBounds_toArray]
  rw [List.set_append_right _ _ (by rw [head_len h]; omega), head_len h]
  rfl
theorem mc_setn (S : S8) {Bu : List UInt8} (f n n' : Nat) (h : Bu.length = 128) : (mc S Bu f n).setIfInBounds 217 (.int .u64 (n' : Int)) = mc S Bu f n' := by
  simp only [mc, mc_split, List.setIfInBounds_toArray]
  rw [List.set_append_right _ _ (by rw [head_len h]; omega), head_len h]
  rfl
theorem mc_over (S : S8) {Bu Y : List UInt8} (f n : Nat) (h : Bu.length = 128) (hf : f + Y.length ≤ 128) :
    ((mc S Bu f n).toList.take (88 + f) ++ Y.map bv ++ (mc S Bu f n).toList.drop (88 + f + (Y.map bv).length)).toArray = mc S (over Bu f Y) f n := by
  have e : mcL S Bu f n = (S.l.map (nc .u64) ++ HK.map (nc .u64)) ++ (Bu.map bv ++ [.int .i64 (f : Int), .int .u64 (n : Int)]) := by simp [mcL]
  have el : (S.l.map (nc .u64) ++ HK.map (nc .u64)).length = 88 := by rw [List.length_append, sl_len, kl_len]
  have t1 : (mcL S Bu f n).take (88 + f) = (S.l.map (nc .u64) ++ HK.map (nc .u64)) ++ (Bu.take f).map bv := by
    rw [e, List.take_append, el, List.take_of_length_le (by omega), show 88 + f - 88 = f by omega, List.take_append_of_le_length (by rw [List.length_map]; omega), List.map_take]
  have t2 : (mcL S Bu f n).drop (88 + f + Y.length) = (Bu.drop (f + Y.length)).map bv ++ [.int .i64 (f : Int), .int .u64 (n : Int)] := by
    rw [e, List.drop_append, el, List.drop_of_length_le (by omega), List.nil_append, show 88 + f + Y.length - 88 = f + Y.length by omega, List.drop_append_of_le_length (by rw [List.length_map]; omega), List.map_drop]
  show ((mcL S Bu f n).take (88 + f) ++ Y.map bv ++ (mcL S Bu f n).drop (88 + f + (Y.map bv).length)).toArray = (mcL S (over Bu f Y) f n).toArray
  rw [List.length_map, t1, t2, mcL, over]
  simp
/-- Cells that are written one after another. -/
def setL (cs : Array Value) (o : Nat) : List Value → Array Value
  | [] => cs
  | v :: r => setL (cs.setIfInBounds o v) (o + 1) r
theorem Blk.setCells {g : Nat} {t : TypeId} : ∀ (vs : List Value) (o : Nat) (cs : Array Value) (W : World), Blk W g t cs → Blk (W.setCells g o vs) g t (setL cs o vs)
  | [], _, _, _, h => h
  | v :: r, o, cs, W, h => Blk.setCells r (o + 1) _ _ (h.set_ o v)
theorem grown_setCells (g : Nat) : ∀ (vs : List Value) (o : Nat) (W : World), W.grownBy (W.setCells g o vs) (some g)
  | [], _, W => World.grownBy.refl _ _
  | v :: r, o, W => grown_trans (grown_set W g o v) (grown_setCells g r (o + 1) _)
theorem mc_setS (S S' : S8) (Bu : List UInt8) (f n : Nat) : setL (mc S Bu f n) 0 (us S'.l).toList = mc S' Bu f n := by
  obtain ⟨a, b, c, d, e, f0, g, h⟩ := S
  obtain ⟨a', b', c', d', e', f', g', h'⟩ := S'
  have e1 : (us (S8.l ⟨a', b', c', d', e', f', g', h'⟩)).toList = [nc .u64 a', nc .u64 b', nc .u64 c', nc .u64 d', nc .u64 e', nc .u64 f', nc .u64 g', nc .u64 h'] := rfl
  rw [e1]
  simp only [mc, mcL, S8.l, List.map_cons, List.map_nil, List.cons_append, List.nil_append, setL, List.setIfInBounds_toArray, List.set_cons_zero, List.set_cons_succ]
theorem mc_one (S : S8) (Bu : List UInt8) (f n : Nat) : (mc S Bu f n).all (·.oneCell') = true := by
  rw [Array.all_eq_true_iff_forall_mem]
  intro v hv
  simp only [mc, mcL, List.mem_toArray, List.mem_append, List.mem_map, List.mem_cons, List.not_mem_nil, or_false] at hv
  rcases hv with ⟨x, _, rfl⟩ | ⟨x, _, rfl⟩ | ⟨x, _, rfl⟩ | rfl | rfl <;> rfl

/-- The slice '(A, n, c)' reads as the bytes l, which lie in another block than g. -/
structure PS (w : World) (g : Nat) (A : Option Addr) (n c : Nat) (l : List UInt8) : Prop where
  len : l.length = n
  cap : n ≤ c
  nil_ : A = none → c = 0
  at_ : 0 < n → ∃ b o, A = some ⟨b, o, none⟩ ∧ b ≠ g ∧ b < w.heap.size ∧ ∀ j x, l[j]? = some x → w.cell? ⟨b, o + j, none⟩ = some (.int .u8 (x.toNat : Int))
theorem PS.ofBS {w : World} {g n c B : Nat} {A : Option Addr} {l : List UInt8} (h : BS w B A n c l) (hg : B ≤ g) (hw : B ≤ w.heap.size) : PS w g A n c l :=
  ⟨h.len, h.cap, h.nil_, fun hn => by
    obtain ⟨b, o, e, hb, hc⟩ := h.at_ hn
    exact ⟨b, o, e, by omega, by omega, hc⟩⟩
theorem PS.grown {w w' : World} {g n c : Nat} {A : Option Addr} {l : List UInt8} (h : PS w g A n c l) (hg : w.grownBy w' (some g)) : PS w' g A n c l :=
  ⟨h.len, h.cap, h.nil_, fun hn => by
    obtain ⟨b, o, e, hb, hlt, hc⟩ := h.at_ hn
    have hk := hg.block b hlt (fun e => hb (by injection e))
    exact ⟨b, o, e, hb, (Nat.lt_of_lt_of_le hlt hg.size), fun j x hx => (World.cell?_of_block hk).trans (hc j x hx)⟩⟩
theorem PS.tail {w : World} {g n c : Nat} {A : Option Addr} {l : List UInt8} (h : PS w g A n c l) {k : Nat} (hk : k ≤ n) :
    ∃ A', (∀ W, (Instr.slice 22 (.slice A n c) (some (.int .i64 (k : Int))) none none).run Tryd.prog W = .ok (.slice A' (n - k) (c - k)) W) ∧ PS w g A' (n - k) (c - k) (l.drop k) := by
  have hel : Tryd.prog.elem 22 = 5 := by simp [Program.elem, Tryd.underlying22]
  have hnc := h.cap
  refine ⟨if c = k then A else A.map (fun a => a.add k), fun W => ?_, ?_⟩
  · rw [run_slice_l W 22 A n c (by rw [hel]; exact Tryd.underlying22) _ _ (by omega) (by omega), hel, size_u8 info_u8h]
    simp only [Result.andThen, sliced, Int.toNat_natCast, Nat.mul_one]
  · refine ⟨by rw [List.length_drop, h.len], by omega, fun e => ?_, fun hp => ?_⟩
    · split at e
      · omega
      · cases A with
        | none => have := h.nil_ rfl; omega
        | some a => cases e
    · obtain ⟨b, o, e, hb, hlt, hc⟩ := h.at_ (by omega)
      subst e
      rw [if_neg (by omega)]
      refine ⟨b, o + k, by simp [Addr.add_lit], hb, hlt, fun j x hx => ?_⟩
      rw [List.getElem?_drop] at hx
      have := hc _ x hx
      rw [← Nat.add_assoc] at this
      exact this
def lenV : Value → Nat
  | .slice _ n _ => n
  | _ => 0
def TakePost (g : Nat) (Z : List UInt8) (w : World) (e : Ending) (w' : World) : Prop := e = .returned (.tuple #[]) ∧ ∃ S Bu f, Tk Z S Bu f ∧ Blk w' g 45 (mc S Bu f Z.length) ∧ w.grownBy w' (some g)
theorem step_copy_row {P : Program} {o : Oper} {a : Act} {w : World} {K : Act → World → Prop} {Q : Exit → Act → World → Prop} (d s : Operand) (dT sT : TypeId)
    (ho : o.op = .call { callee := .builtin .copy, args := #[d, s], argTypes := #[dT, sT] }) (elem : TypeId) (hu : P.underlying dT = some (.slice elem)) (hsz : (P.info? elem).map (·.size) = some 1)
    (dLen dCap sLen sCap : Nat) (g off : Nat) (ad : Addr) (hd : a.eval d = .slice (some ⟨g, off, none⟩) dLen dCap) (hs : a.eval s = .slice (some ad) sLen sCap)
    (cur : Array Value) (t : TypeId) (hg : w.heap[g]? = some (.cells cur t (0, 0))) (cs : List Value) (hn : cs.length = Nat.min sLen dLen)
    (hsrc : ∀ j v, cs[j]? = some v → w.cell? (ad.add j) = some v) (hfit : off + cs.length ≤ cur.size) (h1 : ∀ v ∈ cs, v.oneCell' = true) (m : Nat) (hm : cs.length = m)
    (h : K (a.put o.dst (.int .i64 (m : Int))) (w.setRow g (cur.toList.take off ++ cs ++ cur.toList.drop (off + cs.length)).toArray)) :
    Oper.wp P o a w K Q := by
  have hrun := run_copy_row (P := P) w dT sT o.type elem g off dLen dCap ad sLen sCap cur t cs hu hsz hg hn hsrc hfit h1
  unfold Oper.wp
  simp [execOp, ho, resolve, invoke, builtin, hd, hs, hrun, Result.andThen]
  subst hm
  rw [List.append_assoc] at h
  exact h
theorem slice_arr_l (t : TypeId) (n : Nat) (ht : Tryd.prog.underlying t = some (.array n 5)) (g o i : Nat) (hi : i < n) (W : World) :
    (Instr.sliceAt t (.pointer (some ⟨g, o, none⟩)) (some (.int .i64 (i : Int))) none none).run Tryd.prog W = .ok (.slice (some ⟨g, o + i, none⟩) (n - i) (n - i)) W := by
  have h1 : Tryd.prog.arrayLen t = n := by simp [Program.arrayLen, ht]
  have h2 : Tryd.prog.elem t = 5 := by simp [Program.elem, ht]
  rw [run_sliceAt_array_l W t _ (by rw [h1, h2]; exact ht) _ _ (by omega) (by rw [h1]; omega), h1, h2, size_u8 info_u8h]
  simp only [Result.andThen, slicedAt, Int.toNat_natCast, Nat.mul_one, Addr.add_lit]
  rw [if_neg (by omega)]
theorem slice_arr_all (t : TypeId) (n : Nat) (ht : Tryd.prog.underlying t = some (.array n 5)) (g o : Nat) (hn : 0 < n) (W : World) :
    (Instr.sliceAt t (.pointer (some ⟨g, o, none⟩)) none none none).run Tryd.prog W = .ok (.slice (some ⟨g, o, none⟩) n n) W := by
  have h1 : Tryd.prog.arrayLen t = n := by simp [Program.arrayLen, ht]
  have h2 : Tryd.prog.elem t = 5 := by simp [Program.elem, ht]
  rw [run_sliceAt_array_all W t _ (by rw [h1, h2]; exact ht), h1, h2, size_u8 info_u8h]
  simp only [Result.andThen, slicedAt, Nat.zero_mul, Nat.sub_zero, Addr.add_lit, Nat.add_zero]
  rw [if_neg (by omega)]
theorem wp_load_st {op : Oper} {a : Act} {w : World} {K : Act → World → Prop} {Q : Exit → Act → World → Prop} (x : Operand) (ho : op.op = .load 39 x) (g : Nat) (hx : a.eval x = .pointer (some ⟨g, 0, none⟩)) {t : TypeId} {S : S8} {Bu : List UInt8} {f n : Nat}
    (hb : Blk w g t (mc S Bu f n)) (h : K (a.put op.dst (.agg (us S.l))) w) : op.wp Tryd.prog a w K Q := by
  refine wp_load_mid 39 x ho g 0 hx (us S.l).toList _ (fun j v hv => ?_) Tryd.underlying39 rfl size_hst h
  rw [hb.cell, Nat.zero_add, mc_at, mcL, List.getElem?_append_left (by have := (List.getElem?_eq_some_iff.1 hv).1; rw [sl_len]; exact this)]
  exact hv
theorem wp_store_st {op : Oper} {a : Act} {w : World} {K : Act → World → Prop} {Q : Exit → Act → World → Prop} (x y : Operand) (ho : op.op = .store 39 x y) (g : Nat) (hx : a.eval x = .pointer (some ⟨g, 0, none⟩)) {t : TypeId} {S S' : S8} {Bu : List UInt8} {f n : Nat} (hl : Bu.length = 128)
    (hy : a.eval y = .agg (us S'.l)) (hb : Blk w g t (mc S Bu f n)) (h : K (a.put op.dst undef) (w.setCells g 0 (us S'.l).toList)) : op.wp Tryd.prog a w K Q := by
  refine wp_store_mid 39 x y ho g 0 (us S'.l) hx hy (fun j hj => ⟨?_, hb.frozen _⟩) size_hst (us_one _) h
  have hj8 : j < 8 := hj
  rw [hb.cell, Array.getElem?_eq_getElem (by rw [mc, List.size_toArray, mcL_len hl]; omega)]
  rfl
theorem size_u8t : (Tryd.prog.info? 5).map (·.size) = some 1 := by kernel_rfl
theorem grown_setRow (w : World) (g : Nat) (cs : Array Value) : w.grownBy (w.setRow g cs) (some g) := ⟨rfl, rfl, rfl, by simp [World.setRow], fun k _ h => Go.setRow_other w g k cs (fun e => h (by rw [e]))⟩
theorem bv_ones (Y : List UInt8) : ∀ v ∈ Y.map bv, v.oneCell' = true := by
  intro v hv
  obtain ⟨x, _, rfl⟩ := List.mem_map.1 hv
  rfl
attribute [local irreducible] mc mcL over press blocks HK be
set_option maxRecDepth 100000 in
set_option maxHeartbeats 4000000 in
theorem take_any (X l : List UInt8) (S : S8) (Bu : List UInt8) (f g : Nat) (A : Option Addr) (n c : Nat) (w : World) (hT : Tk X S Bu f) (hb : Blk w g 45 (mc S Bu f X.length)) (hl : PS w g A n c l) (hX : X.length + l.length < 1152921504606846976) :
    Calls Tryd.prog 13 #[.pointer (some ⟨g, 0, none⟩), .slice A n c] w (TakePost g (X ++ l) w) := by
  have hln := hl.len
  have c217 : w.cell? ⟨g, 217, none⟩ = some (.int .u64 (X.length : Int)) := by rw [hb.cell, mc_n S f _ hT.len]
  have z217 := hb.frozen 217
  have hb1 := hb.set_ 217 (.int .u64 ((X.length + n : Nat) : Int))
  rw [mc_setn S f _ _ hT.len] at hb1
  have hg1 := grown_set w g 217 (.int .u64 ((X.length + n : Nat) : Int))
  have hl1 := hl.grown hg1
  rw [show ((X.length + n : Nat) : Int) = (X.length : Int) + (n : Int) by push_cast; rfl] at hb1 hg1 hl1
  have HB1 := Lib.hid hb1
  have HG1 := Lib.hid hg1
  have HL1 := Lib.hid hl1
  have HT := Lib.hid hT
  rw [hln] at hX
  have HLN := Lib.hid hln
  clear hb1 hg1 hl1 hT hl hln
  generalize hXl : X.length = xl at *
  go_enter Tryd.func13, Tryd.ntmps13
  go_wp2_with (fail)
  go_loopw [1] (fun v wr => ∃ (k : Nat) (A' : Option Addr), k ≤ n ∧ v = .slice A' (n - k) (c - k) ∧ PS wr g A' (n - k) (c - k) (l.drop k) ∧ ∃ S Bu f, Tk (X ++ l.take k) S Bu f ∧ Blk wr g 45 (mc S Bu f (xl + n)) ∧ w.grownBy wr (some g)) (fun v _ => lenV v)
  case atStart => exact ⟨0, A, by omega, rfl, HL1.out, S, Bu, f, by simpa using HT.out, HB1.out, HG1.out⟩
  case round =>
    clear HT HB1 HG1 HL1 c217 z217 hb
    obtain ⟨k, A', hk, rfl, hP, S, Bu, f, hT, hb, hgr⟩ := hrel
    have hld : (l.drop k).length = n - k := hP.len
    have hdk : ∀ m, l.take (k + m) = l.take k ++ (l.drop k).take m := fun m => List.take_add
    have hdd : ∀ m, (l.drop k).drop m = l.drop (k + m) := fun m => List.drop_drop
    have hn1 : ∀ m, n - k - m = n - (k + m) := fun m => by omega
    have hn2 : ∀ m, c - k - m = c - (k + m) := fun m => by omega
    have hfin : k = n → X ++ l.take k = X ++ l := fun e => by rw [List.take_of_length_le (by rw [HLN.out]; omega)]
    by_cases hlt : k < n
    · have hf := hT.lt
      have hq : 0 < n - k := by omega
      have hkn : k + (n - k) = n := by omega
      obtain ⟨m, em⟩ : ∃ m, m = Nat.min (n - k) (128 - f) := ⟨_, rfl⟩
      have hm1 : 0 < m := by rw [em]; exact Nat.lt_min.2 ⟨hq, by omega⟩
      have hm2 : m ≤ n - k := by rw [em]; exact Nat.min_le_left _ _
      have hm3 : f + m ≤ 128 := by have : m ≤ 128 - f := by rw [em]; exact Nat.min_le_right _ _
                                   omega
      obtain ⟨b, o, rfl, hbg, hblt, hcells⟩ := hP.at_ hq
      have hDK := hdk m
      have hDD := hdd m
      have hN1 := hn1 m
      have hN2 := hn2 m
      clear hdk hdd hn1 hn2 hfin
      obtain ⟨Y, eY⟩ : ∃ Y, Y = (l.drop k).take m := ⟨_, rfl⟩
      have hYl : Y.length = m := by rw [eY, List.length_take]; omega
      have hYc : ∀ j v, (Y.map bv)[j]? = some v → wr.cell? ((⟨b, o, none⟩ : Addr).add j) = some v := fun j v hv => by
        rw [List.getElem?_map] at hv
        cases hy : Y[j]? with
        | none => rw [hy] at hv; cases hv
        | some x =>
          rw [hy] at hv
          injection hv with hv
          rw [Addr.add_mid, ← hv]
          refine hcells j x ?_
          rw [eY, List.getElem?_take] at hy
          split at hy
          · exact hy
          · cases hy
      rw [← eY] at hDK
      have hover := mc_over S (Y := Y) f (xl + n) hT.len (by omega)
      have hol := over_len (Y := Y) hT.len (show f + Y.length ≤ 128 by omega)
      have hTl := hT.less Y
      have hTw := hT.whole Y
      rw [hYl] at hTl hTw
      have hSo := hT.ok
      have hBl := hT.len
      obtain ⟨A2, hsl, hP2⟩ := hP.tail (k := m) hm2
      rw [hDD, hN1, hN2] at hP2
      have hsl2 := hsl
      rw [hN1, hN2] at hsl2
      have s1 := fun W => slice_arr_l 43 128 Tryd.underlying43 g 88 f hf W
      have s2 := fun W => slice_arr_all 43 128 Tryd.underlying43 g 88 (by omega) W
      have c216 : wr.cell? ⟨g, 216, none⟩ = some (.int .i64 (f : Int)) := by rw [hb.cell, mc_f S f _ hBl]
      have kb2 : Blk (wr.drew.setRow g ((mc S Bu f (xl + n)).toList.take (88 + f) ++ Y.map bv ++ (mc S Bu f (xl + n)).toList.drop (88 + f + (Y.map bv).length)).toArray) g 45 (mc S (over Bu f Y) f (xl + n)) := by
        have := Blk.setRow_same (hb.drew) (((mc S Bu f (xl + n)).toList.take (88 + f) ++ Y.map bv ++ (mc S Bu f (xl + n)).toList.drop (88 + f + (Y.map bv).length)).toArray)
        rw [hover] at this ⊢
        exact this
      have hg2 := grown_trans (grown_drew hgr) (grown_setRow wr.drew g (((mc S Bu f (xl + n)).toList.take (88 + f) ++ Y.map bv ++ (mc S Bu f (xl + n)).toList.drop (88 + f + (Y.map bv).length)).toArray))
      have hfit : 88 + f + (Y.map bv).length ≤ (mc S Bu f (xl + n)).size := by
        have : (mc S Bu f (xl + n)).size = 218 := by unfold mc; rw [List.size_toArray]; exact mcL_len hBl
        rw [List.length_map, this]; omega
      have hYm : (Y.map bv).length = m := by rw [List.length_map, hYl]
      have hPg : ∀ W, wr.drew.grownBy W (some g) → PS W g A2 (n - (k + m)) (c - (k + m)) (l.drop (k + m)) := fun W hW => hP2.grown (World.grownBy.trans (grown_drew (World.grownBy.refl wr _)) hW)
      have hgw : w.grownBy wr (some g) := hgr
      have HB := Lib.hid hb
      have KB2 := Lib.hid kb2
      have HG2 := Lib.hid hg2
      have HYC := Lib.hid hYc
      have HFIT := Lib.hid hfit
      have HYM := Lib.hid hYm
      have HPG := Lib.hid hPg
      have HTL := Lib.hid hTl
      have HTW := Lib.hid hTw
      have HDK := Lib.hid hDK
      have HOL := Lib.hid hol
      have EM := Lib.hid em
      clear hb kb2 hg2 hYc hfit hYm hPg hTl hTw hDK hDD hol em eY hover hcells hP hP2 hT hgr hgw hld hN1 hN2 hYl
      go_wp2_with (fail)
      refine wp_region_held_drew (S := fun W => W.cell? ⟨g, 216, none⟩ = some (.int .i64 (f : Int))) (by kernel_rfl) ?_ (fun hHeld => ?_)
      · exact c216
      refine wpAnyH_take (i := 0) (v := ?_) rfl (by kernel_rfl) (by kernel_rfl) (by kernel_rfl) (fun _ _ _ h => h) (Or.inl ⟨by rfl, ?_⟩) hHeld ?_
      rotate_left
      · (intro W hSw; (try dsimp only at hSw); (try simp only [List.getElem_toArray, List.getElem_cons_succ, List.getElem_cons_zero]); go_simp; try with_reducible rfl)
      try simp only [Act.put, List.getElem_toArray, List.getElem_cons_succ, List.getElem_cons_zero, List.setIfInBounds_toArray, List.set_cons_zero, List.set_cons_succ]
      refine wpAnyH_take (i := 1) (v := ?_) rfl (by kernel_rfl) (by kernel_rfl) (by kernel_rfl) (fun _ _ _ h => h) (Or.inl ⟨by rfl, ?_⟩) hHeld ?_
      rotate_left
      · (intro W hSw; (try dsimp only at hSw); (try simp only [List.getElem_toArray, List.getElem_cons_succ, List.getElem_cons_zero]); go_simp; try with_reducible rfl)
      try simp only [Act.put, List.getElem_toArray, List.getElem_cons_succ, List.getElem_cons_zero, List.setIfInBounds_toArray, List.set_cons_zero, List.set_cons_succ]
      refine wpAnyH_take (i := 2) (v := ?_) rfl (by kernel_rfl) (by kernel_rfl) (by kernel_rfl) (fun _ _ _ h => h) (Or.inl ⟨by rfl, ?_⟩) hHeld ?_
      rotate_left
      · (intro W hSw; (try dsimp only at hSw); (try simp only [List.getElem_toArray, List.getElem_cons_succ, List.getElem_cons_zero]); go_simp; try with_reducible rfl)
      try simp only [Act.put, List.getElem_toArray, List.getElem_cons_succ, List.getElem_cons_zero, List.setIfInBounds_toArray, List.set_cons_zero, List.set_cons_succ]
      refine wpAnyH_take (i := 3) (v := ?_) rfl (by kernel_rfl) (by kernel_rfl) (by kernel_rfl) (fun _ _ _ h => h) (Or.inl ⟨by rfl, ?_⟩) hHeld ?_
      rotate_left
      · (intro W hSw; (try dsimp only at hSw); (try simp only [List.getElem_toArray, List.getElem_cons_succ, List.getElem_cons_zero]); go_simp; try with_reducible rfl)
      try simp only [Act.put, List.getElem_toArray, List.getElem_cons_succ, List.getElem_cons_zero, List.setIfInBounds_toArray, List.set_cons_zero, List.set_cons_succ]
      refine wpAnyH_take (i := 4) (v := ?_) rfl (by kernel_rfl) (by kernel_rfl) (by kernel_rfl) (fun _ _ _ h => h) (Or.inl ⟨by rfl, ?_⟩) hHeld ?_
      rotate_left
      · (intro W hSw; (try dsimp only at hSw); (try simp only [List.getElem_toArray, List.getElem_cons_succ, List.getElem_cons_zero]); go_simp; try with_reducible rfl)
      try simp only [Act.put, List.getElem_toArray, List.getElem_cons_succ, List.getElem_cons_zero, List.setIfInBounds_toArray, List.set_cons_zero, List.set_cons_succ]
      refine wpAnyH_take (i := 5) (v := ?_) rfl (by kernel_rfl) (by kernel_rfl) (by kernel_rfl) (fun _ _ _ h => h) (Or.inl ⟨by rfl, ?_⟩) hHeld ?_
      rotate_left
      · (intro W hSw; (try dsimp only at hSw); (try simp only [List.getElem_toArray, List.getElem_cons_succ, List.getElem_cons_zero]); go_simp; try with_reducible rfl)
      try simp only [Act.put, List.getElem_toArray, List.getElem_cons_succ, List.getElem_cons_zero, List.setIfInBounds_toArray, List.set_cons_zero, List.set_cons_succ]
      refine wpAnyH_take (i := 6) (v := ?_) rfl (by kernel_rfl) (by kernel_rfl) (by kernel_rfl) (fun _ _ _ h => h) (Or.inl ⟨by rfl, ?_⟩) hHeld ?_
      rotate_left
      · (intro W hSw; (try dsimp only at hSw); (try simp only [List.getElem_toArray, List.getElem_cons_succ, List.getElem_cons_zero]); go_simp; try with_reducible rfl)
      try simp only [Act.put, List.getElem_toArray, List.getElem_cons_succ, List.getElem_cons_zero, List.setIfInBounds_toArray, List.set_cons_zero, List.set_cons_succ]
      refine wpAnyH_take (i := 7) (v := ?_) rfl (by kernel_rfl) (by kernel_rfl) (by kernel_rfl) (fun _ _ _ h => h) (Or.inl ⟨by rfl, ?_⟩) hHeld ?_
      rotate_left
      · (intro W hSw; (try dsimp only at hSw); (try simp only [List.getElem_toArray, List.getElem_cons_succ, List.getElem_cons_zero]); go_simp; try with_reducible rfl)
      try simp only [Act.put, List.getElem_toArray, List.getElem_cons_succ, List.getElem_cons_zero, List.setIfInBounds_toArray, List.set_cons_zero, List.set_cons_succ]
      refine wpAnyH_take (i := 8) (v := ?_) rfl (by kernel_rfl) (by kernel_rfl) (by kernel_rfl) (fun _ _ _ h => h) (Or.inl ⟨by rfl, ?_⟩) hHeld ?_
      rotate_left
      · (intro W hSw; (try dsimp only at hSw); (try simp only [List.getElem_toArray, List.getElem_cons_succ, List.getElem_cons_zero]); go_simp; try with_reducible rfl)
      try simp only [Act.put, List.getElem_toArray, List.getElem_cons_succ, List.getElem_cons_zero, List.setIfInBounds_toArray, List.set_cons_zero, List.set_cons_succ]
      refine wpAnyH_ready (rs := [9]) (by kernel_rfl) (by simp) (AllReadyH.cons rfl (fun K hK => ?_) AllReadyH.nil)
      clear hHeld
      try simp only [List.getElem_toArray, List.getElem_cons_succ, List.getElem_cons_zero]
      rw [if_pos (by rfl)]
      refine step_copy_row (.tmp 25) (.tmp 26) 22 22 rfl 5 Tryd.underlying22 size_u8t (128 - f) (128 - f) (n - k) (c - k) g (88 + f) ⟨b, o, none⟩ rfl rfl (mc S Bu f (xl + n)) 45 HB.out.drew (Y.map bv) (HYM.out.trans EM.out) HYC.out HFIT.out (bv_ones Y) m HYM.out ?_
      have c2 : (wr.drew.setRow g ((mc S Bu f (xl + n)).toList.take (88 + f) ++ Y.map bv ++ (mc S Bu f (xl + n)).toList.drop (88 + f + (Y.map bv).length)).toArray).cell? ⟨g, 216, none⟩ = some (.int .i64 (f : Int)) := by rw [KB2.out.cell, mc_f S f _ HOL.out]
      refine hK.out _ _ c2 (fun hHeld => ?_)
      clear hK K
      try simp only [Act.put, List.getElem_toArray, List.getElem_cons_succ, List.getElem_cons_zero, List.setIfInBounds_toArray, List.set_cons_zero, List.set_cons_succ]
      obtain ⟨W2, eW2⟩ : ∃ W, W = wr.drew.setRow g ((mc S Bu f (xl + n)).toList.take (88 + f) ++ Y.map bv ++ (mc S Bu f (xl + n)).toList.drop (88 + f + (Y.map bv).length)).toArray := ⟨_, rfl⟩
      rw [← eW2] at hHeld c2 ⊢
      have kb3 := KB2.out
      have hg3 := HG2.out
      have hP3 := HPG.out W2 (by rw [eW2]; exact grown_setRow _ _ _)
      rw [← eW2] at kb3 hg3
      clear eW2 KB2 HG2 HPG HB HYC HFIT HYM EM
      refine wpAnyH_take (i := 10) (v := ?_) rfl (by kernel_rfl) (by kernel_rfl) (by kernel_rfl) (fun _ _ _ h => h) (Or.inl ⟨by rfl, ?_⟩) hHeld ?_
      rotate_left
      · (intro W hSw; (try dsimp only at hSw); (try simp only [List.getElem_toArray, List.getElem_cons_succ, List.getElem_cons_zero]); go_simp; try with_reducible rfl)
      try simp only [Act.put, List.getElem_toArray, List.getElem_cons_succ, List.getElem_cons_zero, List.setIfInBounds_toArray, List.set_cons_zero, List.set_cons_succ]
      refine wpAnyH_done (by kernel_rfl) ?_ _
      have z2 := kb3.frozen 216
      have kb4 := kb3.set_ 216 (.int .i64 ((f + m : Nat) : Int))
      rw [mc_setf S f _ (f + m) HOL.out] at kb4
      have hg4 := grown_trans hg3 (grown_set W2 g 216 (.int .i64 ((f + m : Nat) : Int)))
      have hP4 := hP3.grown (grown_set W2 g 216 (.int .i64 ((f + m : Nat) : Int)))
      rw [show ((f + m : Nat) : Int) = (f : Int) + (m : Int) by push_cast; rfl] at kb4 hg4 hP4
      have KB4 := Lib.hid kb4
      have HG4 := Lib.hid hg4
      have HP4 := Lib.hid hP4
      clear kb3 kb4 hg3 hg4 hP3 hP4
      have hwf : IntKind.i64.wrap ((f : Int) + (m : Int)) = (f : Int) + (m : Int) := by rw [IntKind.wrap_i64]; omega
      go_wp2_with (fail)
      refine wp_region_held_drew (S := fun W => True) (by kernel_rfl) ?_ (fun hHeld => ?_)
      · exact trivial
      refine wpAnyH_take (i := 0) (v := ?_) rfl (by kernel_rfl) (by kernel_rfl) (by kernel_rfl) (fun _ _ _ h => h) (Or.inl ⟨by rfl, ?_⟩) hHeld ?_
      rotate_left
      · (intro W hSw; (try dsimp only at hSw); (try simp only [List.getElem_toArray, List.getElem_cons_succ, List.getElem_cons_zero]); go_simp; try with_reducible rfl)
      try simp only [Act.put, List.getElem_toArray, List.getElem_cons_succ, List.getElem_cons_zero, List.setIfInBounds_toArray, List.set_cons_zero, List.set_cons_succ]
      refine wpAnyH_take (i := 1) (v := ?_) rfl (by kernel_rfl) (by kernel_rfl) (by kernel_rfl) (fun _ _ _ h => h) (Or.inl ⟨by rfl, ?_⟩) hHeld ?_
      rotate_left
      · (intro W hSw; (try dsimp only at hSw); (try simp only [List.getElem_toArray, List.getElem_cons_succ, List.getElem_cons_zero]); go_simp; try with_reducible rfl)
      try simp only [Act.put, List.getElem_toArray, List.getElem_cons_succ, List.getElem_cons_zero, List.setIfInBounds_toArray, List.set_cons_zero, List.set_cons_succ]
      refine wpAnyH_take (i := 2) (v := ?_) rfl (by kernel_rfl) (by kernel_rfl) (by kernel_rfl) (fun _ _ _ h => h) (Or.inl ⟨by rfl, ?_⟩) hHeld ?_
      rotate_left
      · (intro W hSw; (try dsimp only at hSw); (try simp only [List.getElem_toArray, List.getElem_cons_succ, List.getElem_cons_zero]); go_simp; try with_reducible rfl)
      try simp only [Act.put, List.getElem_toArray, List.getElem_cons_succ, List.getElem_cons_zero, List.setIfInBounds_toArray, List.set_cons_zero, List.set_cons_succ]
      refine wpAnyH_take (i := 3) (v := ?_) rfl (by kernel_rfl) (by kernel_rfl) (by kernel_rfl) (fun _ _ _ h => h) (Or.inl ⟨by rfl, ?_⟩) hHeld ?_
      rotate_left
      · (intro W hSw; (try dsimp only at hSw); (try simp only [List.getElem_toArray, List.getElem_cons_succ, List.getElem_cons_zero]); go_simp; try with_reducible rfl)
      try simp only [Act.put, List.getElem_toArray, List.getElem_cons_succ, List.getElem_cons_zero, List.setIfInBounds_toArray, List.set_cons_zero, List.set_cons_succ]
      refine wpAnyH_take (i := 5) (v := ?_) rfl (by kernel_rfl) (by kernel_rfl) (by kernel_rfl) (fun _ _ _ h => h) (Or.inl ⟨by rfl, ?_⟩) hHeld ?_
      rotate_left
      · (intro W hSw; (try dsimp only at hSw); (try simp only [List.getElem_toArray, List.getElem_cons_succ, List.getElem_cons_zero]); go_simp; try with_reducible rfl)
      try simp only [Act.put, List.getElem_toArray, List.getElem_cons_succ, List.getElem_cons_zero, List.setIfInBounds_toArray, List.set_cons_zero, List.set_cons_succ]
      refine wpAnyH_take (i := 7) (v := ?_) rfl (by kernel_rfl) (by kernel_rfl) (by kernel_rfl) (fun _ _ _ h => h) (Or.inl ⟨by rfl, ?_⟩) hHeld ?_
      rotate_left
      · (intro W hSw; (try dsimp only at hSw); (try simp only [List.getElem_toArray, List.getElem_cons_succ, List.getElem_cons_zero]); go_simp; try with_reducible rfl)
      try simp only [Act.put, List.getElem_toArray, List.getElem_cons_succ, List.getElem_cons_zero, List.setIfInBounds_toArray, List.set_cons_zero, List.set_cons_succ]
      refine wpAnyH_take (i := 8) (v := ?_) rfl (by kernel_rfl) (by kernel_rfl) (by kernel_rfl) (fun _ _ _ h => h) (Or.inl ⟨by rfl, ?_⟩) hHeld ?_
      rotate_left
      · (intro W hSw; (try dsimp only at hSw); (try simp only [List.getElem_toArray, List.getElem_cons_succ, List.getElem_cons_zero]); go_simp; try with_reducible rfl)
      try simp only [Act.put, List.getElem_toArray, List.getElem_cons_succ, List.getElem_cons_zero, List.setIfInBounds_toArray, List.set_cons_zero, List.set_cons_succ]
      refine wpAnyH_take (i := 9) (v := ?_) rfl (by kernel_rfl) (by kernel_rfl) (by kernel_rfl) (fun _ _ _ h => h) (Or.inl ⟨by rfl, ?_⟩) hHeld ?_
      rotate_left
      · (intro W hSw; (try dsimp only at hSw); (try simp only [List.getElem_toArray, List.getElem_cons_succ, List.getElem_cons_zero]); go_simp; try with_reducible rfl)
      try simp only [Act.put, List.getElem_toArray, List.getElem_cons_succ, List.getElem_cons_zero, List.setIfInBounds_toArray, List.set_cons_zero, List.set_cons_succ]
      refine wpAnyH_ready (rs := [4]) (by kernel_rfl) (by simp) (AllReadyH.cons rfl (fun K hK => ?_) AllReadyH.nil)
      have h0 := hHeld
      clear hHeld
      try simp only [List.getElem_toArray, List.getElem_cons_succ, List.getElem_cons_zero]
      go_simp
      refine hK.out _ _ (trivial) (fun hHeld => ?_)
      clear hK K h0
      try simp only [Act.put, List.getElem_toArray, List.getElem_cons_succ, List.getElem_cons_zero, List.setIfInBounds_toArray, List.set_cons_zero, List.set_cons_succ]
      refine wpAnyH_take (i := 6) (v := ?_) rfl (by kernel_rfl) (by kernel_rfl) (by kernel_rfl) (fun _ _ _ h => h) (Or.inl ⟨by rfl, ?_⟩) hHeld ?_
      rotate_left
      · (intro W hSw; (try dsimp only at hSw); (try simp only [List.getElem_toArray, List.getElem_cons_succ, List.getElem_cons_zero]); go_simp; try with_reducible rfl)
      try simp only [Act.put, List.getElem_toArray, List.getElem_cons_succ, List.getElem_cons_zero, List.setIfInBounds_toArray, List.set_cons_zero, List.set_cons_succ]
      refine wpAnyH_take (i := 10) (v := ?_) rfl (by kernel_rfl) (by kernel_rfl) (by kernel_rfl) (fun _ _ _ h => h) (Or.inl ⟨by rfl, ?_⟩) hHeld ?_
      rotate_left
      · (intro W hSw; (try dsimp only at hSw); (try simp only [List.getElem_toArray, List.getElem_cons_succ, List.getElem_cons_zero]); go_simp; try with_reducible rfl)
      try simp only [Act.put, List.getElem_toArray, List.getElem_cons_succ, List.getElem_cons_zero, List.setIfInBounds_toArray, List.set_cons_zero, List.set_cons_succ]
      refine wpAnyH_take (i := 11) (v := ?_) rfl (by kernel_rfl) (by kernel_rfl) (by kernel_rfl) (fun _ _ _ h => h) (Or.inl ⟨by rfl, ?_⟩) hHeld ?_
      rotate_left
      · (intro W hSw; (try dsimp only at hSw); (try simp only [List.getElem_toArray, List.getElem_cons_succ, List.getElem_cons_zero]); go_simp; try with_reducible rfl)
      try simp only [Act.put, List.getElem_toArray, List.getElem_cons_succ, List.getElem_cons_zero, List.setIfInBounds_toArray, List.set_cons_zero, List.set_cons_succ]
      refine wpAnyH_ready (rs := [12]) (by kernel_rfl) (by simp) (AllReadyH.cons rfl (fun K hK => ?_) AllReadyH.nil)
      have h0 := hHeld
      clear hHeld
      try simp only [List.getElem_toArray, List.getElem_cons_succ, List.getElem_cons_zero]
      go_simp
      refine hK.out _ _ (trivial) (fun hHeld => ?_)
      clear hK K h0
      try simp only [Act.put, List.getElem_toArray, List.getElem_cons_succ, List.getElem_cons_zero, List.setIfInBounds_toArray, List.set_cons_zero, List.set_cons_succ]
      refine wpAnyH_take (i := 13) (v := ?_) rfl (by kernel_rfl) (by kernel_rfl) (by kernel_rfl) (fun _ _ _ h => h) (Or.inl ⟨by rfl, ?_⟩) hHeld ?_
      rotate_left
      · (intro W hSw; (try dsimp only at hSw); (try simp only [List.getElem_toArray, List.getElem_cons_succ, List.getElem_cons_zero]); go_simp; try with_reducible rfl)
      try simp only [Act.put, List.getElem_toArray, List.getElem_cons_succ, List.getElem_cons_zero, List.setIfInBounds_toArray, List.set_cons_zero, List.set_cons_succ]
      refine wpAnyH_done (by kernel_rfl) ?_ _
      obtain ⟨W3, eW3⟩ : ∃ W, W = (W2.setCell ⟨g, 216, none⟩ (.int .i64 ((f : Int) + (m : Int)))).drew := ⟨_, rfl⟩
      rw [← eW3]
      have kb := KB4.out.drew
      have hg := grown_drew HG4.out
      have hP := HP4.out.grown (grown_drew (World.grownBy.refl _ (some g)))
      rw [← eW3] at kb hg hP
      clear eW3 KB4 HG4 HP4 c216 c2 hwf z2 hsl hsl2 s1
      have c3 := kb.cell 216
      rw [mc_f _ _ _ HOL.out, show ((f + m : Nat) : Int) = (f : Int) + (m : Int) by push_cast; rfl] at c3
      have hbl := HOL.out
      generalize over Bu f Y = B2 at *
      by_cases h128 : f + m = 128
      · have hbq : (((f : Int) + (m : Int)) == 128) = true := by simp; omega
        have hbs : BS W3.drew (g + 1) (some ⟨g, 88, none⟩) 128 128 B2 := ⟨hbl, Nat.le_refl _, (fun e => by cases e), fun _ => ⟨g, 88, rfl, Nat.lt_succ_self _, fun j x hx => by
          have hj : j < 128 := by have := (List.getElem?_eq_some_iff.1 hx).1; omega
          rw [kb.drew.cell, mc_B S _ _ hbl hj, hx]
          rfl⟩⟩
        have hKK : ∀ t, t < 80 → W3.drew.cell? ⟨g, 8 + t, none⟩ = some (.int .u64 ((HK.getD t 0 : Nat) : Int)) := fun t ht => by rw [kb.drew.cell]; exact mc_K S B2 _ _ ht
        have hpr := pressed_any S (some ⟨g, 88, none⟩) 128 (g + 1) B2 g 8 W3.drew hSo hbs (by have := kb.lt; exact this) kb.lt hKK
        have hTW := HTW.out h128
        obtain ⟨S', eS⟩ : ∃ q, q = press (bn B2) S := ⟨_, rfl⟩
        rw [← eS] at hpr hTW
        rw [List.append_assoc, ← HDK.out] at hTW
        have HPR := Lib.hid hpr
        have HT2 := Lib.hid hTW
        clear hpr hTW hbs hKK eS HTW HTL HDK
        have KB := Lib.hid kb
        have HG := Lib.hid hg
        have HPP := Lib.hid hP
        clear kb hg hP
        go_wp2_with (fail)
        refine wp_region_held_drew (S := fun W => True) (by kernel_rfl) ?_ (fun hHeld => ?_)
        · exact trivial
        refine wpAnyH_take (i := 0) (v := ?_) rfl (by kernel_rfl) (by kernel_rfl) (by kernel_rfl) (fun _ _ _ h => h) (Or.inl ⟨by rfl, ?_⟩) hHeld ?_
        rotate_left
        · (intro W hSw; (try dsimp only at hSw); (try simp only [List.getElem_toArray, List.getElem_cons_succ, List.getElem_cons_zero]); go_simp; try with_reducible rfl)
        try simp only [Act.put, List.getElem_toArray, List.getElem_cons_succ, List.getElem_cons_zero, List.setIfInBounds_toArray, List.set_cons_zero, List.set_cons_succ]
        refine wpAnyH_take (i := 1) (v := ?_) rfl (by kernel_rfl) (by kernel_rfl) (by kernel_rfl) (fun _ _ _ h => h) (Or.inl ⟨by rfl, ?_⟩) hHeld ?_
        rotate_left
        · (intro W hSw; (try dsimp only at hSw); (try simp only [List.getElem_toArray, List.getElem_cons_succ, List.getElem_cons_zero]); go_simp; try with_reducible rfl)
        try simp only [Act.put, List.getElem_toArray, List.getElem_cons_succ, List.getElem_cons_zero, List.setIfInBounds_toArray, List.set_cons_zero, List.set_cons_succ]
        refine wpAnyH_take (i := 2) (v := ?_) rfl (by kernel_rfl) (by kernel_rfl) (by kernel_rfl) (fun _ _ _ h => h) (Or.inl ⟨by rfl, ?_⟩) hHeld ?_
        rotate_left
        · (intro W hSw; (try dsimp only at hSw); (try simp only [List.getElem_toArray, List.getElem_cons_succ, List.getElem_cons_zero]); go_simp; try with_reducible rfl)
        try simp only [Act.put, List.getElem_toArray, List.getElem_cons_succ, List.getElem_cons_zero, List.setIfInBounds_toArray, List.set_cons_zero, List.set_cons_succ]
        refine wpAnyH_take (i := 3) (v := ?_) rfl (by kernel_rfl) (by kernel_rfl) (by kernel_rfl) (fun _ _ _ h => h) (Or.inl ⟨by rfl, ?_⟩) hHeld ?_
        rotate_left
        · (intro W hSw; (try dsimp only at hSw); (try simp only [List.getElem_toArray, List.getElem_cons_succ, List.getElem_cons_zero]); go_simp; try with_reducible rfl)
        try simp only [Act.put, List.getElem_toArray, List.getElem_cons_succ, List.getElem_cons_zero, List.setIfInBounds_toArray, List.set_cons_zero, List.set_cons_succ]
        refine wpAnyH_take (i := 4) (v := ?_) rfl (by kernel_rfl) (by kernel_rfl) (by kernel_rfl) (fun _ _ _ h => h) (Or.inl ⟨by rfl, ?_⟩) hHeld ?_
        rotate_left
        · (intro W hSw; (try dsimp only at hSw); (try simp only [List.getElem_toArray, List.getElem_cons_succ, List.getElem_cons_zero]); go_simp; try with_reducible rfl)
        try simp only [Act.put, List.getElem_toArray, List.getElem_cons_succ, List.getElem_cons_zero, List.setIfInBounds_toArray, List.set_cons_zero, List.set_cons_succ]
        refine wpAnyH_take (i := 6) (v := ?_) rfl (by kernel_rfl) (by kernel_rfl) (by kernel_rfl) (fun _ _ _ h => h) (Or.inl ⟨by rfl, ?_⟩) hHeld ?_
        rotate_left
        · (intro W hSw; (try dsimp only at hSw); (try simp only [List.getElem_toArray, List.getElem_cons_succ, List.getElem_cons_zero]); go_simp; try with_reducible rfl)
        try simp only [Act.put, List.getElem_toArray, List.getElem_cons_succ, List.getElem_cons_zero, List.setIfInBounds_toArray, List.set_cons_zero, List.set_cons_succ]
        refine wpAnyH_take (i := 7) (v := ?_) rfl (by kernel_rfl) (by kernel_rfl) (by kernel_rfl) (fun _ _ _ h => h) (Or.inl ⟨by rfl, ?_⟩) hHeld ?_
        rotate_left
        · (intro W hSw; (try dsimp only at hSw); (try simp only [List.getElem_toArray, List.getElem_cons_succ, List.getElem_cons_zero]); go_simp; try with_reducible rfl)
        try simp only [Act.put, List.getElem_toArray, List.getElem_cons_succ, List.getElem_cons_zero, List.setIfInBounds_toArray, List.set_cons_zero, List.set_cons_succ]
        refine wpAnyH_take (i := 8) (v := ?_) rfl (by kernel_rfl) (by kernel_rfl) (by kernel_rfl) (fun _ _ _ h => h) (Or.inl ⟨by rfl, ?_⟩) hHeld ?_
        rotate_left
        · (intro W hSw; (try dsimp only at hSw); (try simp only [List.getElem_toArray, List.getElem_cons_succ, List.getElem_cons_zero]); go_simp; try with_reducible rfl)
        try simp only [Act.put, List.getElem_toArray, List.getElem_cons_succ, List.getElem_cons_zero, List.setIfInBounds_toArray, List.set_cons_zero, List.set_cons_succ]
        refine wpAnyH_take (i := 9) (v := ?_) rfl (by kernel_rfl) (by kernel_rfl) (by kernel_rfl) (fun _ _ _ h => h) (Or.inl ⟨by rfl, ?_⟩) hHeld ?_
        rotate_left
        · (intro W hSw; (try dsimp only at hSw); (try simp only [List.getElem_toArray, List.getElem_cons_succ, List.getElem_cons_zero]); go_simp; try with_reducible rfl)
        try simp only [Act.put, List.getElem_toArray, List.getElem_cons_succ, List.getElem_cons_zero, List.setIfInBounds_toArray, List.set_cons_zero, List.set_cons_succ]
        refine wpAnyH_take (i := 10) (v := ?_) rfl (by kernel_rfl) (by kernel_rfl) (by kernel_rfl) (fun _ _ _ h => h) (Or.inl ⟨by rfl, ?_⟩) hHeld ?_
        rotate_left
        · (intro W hSw; (try dsimp only at hSw); (try simp only [List.getElem_toArray, List.getElem_cons_succ, List.getElem_cons_zero]); go_simp; try with_reducible rfl)
        try simp only [Act.put, List.getElem_toArray, List.getElem_cons_succ, List.getElem_cons_zero, List.setIfInBounds_toArray, List.set_cons_zero, List.set_cons_succ]
        refine wpAnyH_take (i := 11) (v := ?_) rfl (by kernel_rfl) (by kernel_rfl) (by kernel_rfl) (fun _ _ _ h => h) (Or.inl ⟨by rfl, ?_⟩) hHeld ?_
        rotate_left
        · (intro W hSw; (try dsimp only at hSw); (try simp only [List.getElem_toArray, List.getElem_cons_succ, List.getElem_cons_zero]); go_simp; try with_reducible rfl)
        try simp only [Act.put, List.getElem_toArray, List.getElem_cons_succ, List.getElem_cons_zero, List.setIfInBounds_toArray, List.set_cons_zero, List.set_cons_succ]
        refine wpAnyH_take (i := 12) (v := ?_) rfl (by kernel_rfl) (by kernel_rfl) (by kernel_rfl) (fun _ _ _ h => h) (Or.inl ⟨by rfl, ?_⟩) hHeld ?_
        rotate_left
        · (intro W hSw; (try dsimp only at hSw); (try simp only [List.getElem_toArray, List.getElem_cons_succ, List.getElem_cons_zero]); go_simp; try with_reducible rfl)
        try simp only [Act.put, List.getElem_toArray, List.getElem_cons_succ, List.getElem_cons_zero, List.setIfInBounds_toArray, List.set_cons_zero, List.set_cons_succ]
        refine wpAnyH_ready (rs := [5]) (by kernel_rfl) (by simp) (AllReadyH.cons rfl (fun K hK => ?_) AllReadyH.nil)
        clear hHeld
        try simp only [List.getElem_toArray, List.getElem_cons_succ, List.getElem_cons_zero]
        rw [if_pos (by rfl)]
        refine wp_load_st (.tmp 49) rfl g rfl KB.out.drew ?_
        refine hK.out _ _ trivial (fun hHeld => ?_)
        clear hK K
        try simp only [Act.put, List.getElem_toArray, List.getElem_cons_succ, List.getElem_cons_zero, List.setIfInBounds_toArray, List.set_cons_zero, List.set_cons_succ]
        refine wpAnyH_ready (rs := [13]) (by kernel_rfl) (by simp) (AllReadyH.cons rfl (fun K hK => ?_) AllReadyH.nil)
        clear hHeld
        try simp only [List.getElem_toArray, List.getElem_cons_succ, List.getElem_cons_zero]
        go_simp
        go_at_call 19
        refine HPR.out.mono ?_
        rintro e v ⟨rfl, hb⟩
        have kb := KB.out.drew.below hb KB.out.drew.lt
        have hg := grown_trans (grown_drew HG.out) (grown_of_below hb (some g))
        have hP := (HPP.out.grown (grown_drew (World.grownBy.refl _ (some g)))).grown (grown_of_below hb (some g))
        clear hb KB HG HPP HPR
        have KB := Lib.hid kb
        have kb2 := Blk.setCells (us S'.l).toList 0 _ _ kb
        rw [mc_setS] at kb2
        have hg2 := grown_trans hg (grown_setCells g (us S'.l).toList 0 v)
        have hP2 := hP.grown (grown_setCells g (us S'.l).toList 0 v)
        have KB2 := Lib.hid kb2
        have HG2 := Lib.hid hg2
        have HP2 := Lib.hid hP2
        clear kb kb2 hg hg2 hP hP2
        go_wp2_with (fail)
        refine hK.out _ _ trivial (fun hHeld => ?_)
        clear hK K
        try simp only [Act.put, List.getElem_toArray, List.getElem_cons_succ, List.getElem_cons_zero, List.setIfInBounds_toArray, List.set_cons_zero, List.set_cons_succ]
        refine wpAnyH_take (i := 14) (v := ?_) rfl (by kernel_rfl) (by kernel_rfl) (by kernel_rfl) (fun _ _ _ h => h) (Or.inl ⟨by rfl, ?_⟩) hHeld ?_
        rotate_left
        · (intro W hSw; (try dsimp only at hSw); (try simp only [List.getElem_toArray, List.getElem_cons_succ, List.getElem_cons_zero]); go_simp; try with_reducible rfl)
        try simp only [Act.put, List.getElem_toArray, List.getElem_cons_succ, List.getElem_cons_zero, List.setIfInBounds_toArray, List.set_cons_zero, List.set_cons_succ]
        refine wpAnyH_take (i := 15) (v := ?_) rfl (by kernel_rfl) (by kernel_rfl) (by kernel_rfl) (fun _ _ _ h => h) (Or.inl ⟨by rfl, ?_⟩) hHeld ?_
        rotate_left
        · (intro W hSw; (try dsimp only at hSw); (try simp only [List.getElem_toArray, List.getElem_cons_succ, List.getElem_cons_zero]); go_simp; try with_reducible rfl)
        try simp only [Act.put, List.getElem_toArray, List.getElem_cons_succ, List.getElem_cons_zero, List.setIfInBounds_toArray, List.set_cons_zero, List.set_cons_succ]
        refine wpAnyH_ready (rs := [16]) (by kernel_rfl) (by simp) (AllReadyH.cons rfl (fun K hK => ?_) AllReadyH.nil)
        clear hHeld
        try simp only [List.getElem_toArray, List.getElem_cons_succ, List.getElem_cons_zero]
        rw [if_pos (by rfl)]
        refine wp_store_st (.tmp 60) (.tmp 58) rfl g rfl hbl rfl KB.out ?_
        refine hK.out _ _ trivial (fun hHeld => ?_)
        clear hK K KB
        try simp only [Act.put, List.getElem_toArray, List.getElem_cons_succ, List.getElem_cons_zero, List.setIfInBounds_toArray, List.set_cons_zero, List.set_cons_succ]
        obtain ⟨W4, eW4⟩ : ∃ W, W = v.setCells g 0 (us S'.l).toList := ⟨_, rfl⟩
        rw [← eW4]
        have kb := KB2.out
        have hg := HG2.out
        have hP := HP2.out
        rw [← eW4] at kb hg hP
        clear eW4 KB2 HG2 HP2
        have c4 := kb.cell 216
        rw [mc_f _ _ _ hbl] at c4
        have z4 := kb.frozen 216
        have kb5 := kb.set_ 216 (.int .i64 ((0 : Nat) : Int))
        rw [mc_setf S' _ _ 0 hbl] at kb5
        have hg5 := grown_trans hg (grown_set W4 g 216 (.int .i64 ((0 : Nat) : Int)))
        have hP5 := hP.grown (grown_set W4 g 216 (.int .i64 ((0 : Nat) : Int)))
        rw [show ((0 : Nat) : Int) = 0 from rfl] at kb5 hg5 hP5
        have HREL : Hid (PS _ g A2 (n - (k + m)) (c - (k + m)) (l.drop (k + m)) ∧ ∃ S Bu f, Tk (X ++ l.take (k + m)) S Bu f ∧ Blk _ g 45 (mc S Bu f (xl + n)) ∧ w.grownBy _ (some g)) := Lib.hid ⟨hP5, S', B2, 0, HT2.out, kb5, hg5⟩
        clear kb kb5 hg hg5 hP hP5
        refine wpAnyH_take (i := 17) (v := ?_) rfl (by kernel_rfl) (by kernel_rfl) (by kernel_rfl) (fun _ _ _ h => h) (Or.inl ⟨by rfl, ?_⟩) hHeld ?_
        rotate_left
        · (intro W hSw; (try dsimp only at hSw); (try simp only [List.getElem_toArray, List.getElem_cons_succ, List.getElem_cons_zero]); go_simp; try with_reducible rfl)
        try simp only [Act.put, List.getElem_toArray, List.getElem_cons_succ, List.getElem_cons_zero, List.setIfInBounds_toArray, List.set_cons_zero, List.set_cons_succ]
        refine wpAnyH_take (i := 18) (v := ?_) rfl (by kernel_rfl) (by kernel_rfl) (by kernel_rfl) (fun _ _ _ h => h) (Or.inl ⟨by rfl, ?_⟩) hHeld ?_
        rotate_left
        · (intro W hSw; (try dsimp only at hSw); (try simp only [List.getElem_toArray, List.getElem_cons_succ, List.getElem_cons_zero]); go_simp; try with_reducible rfl)
        try simp only [Act.put, List.getElem_toArray, List.getElem_cons_succ, List.getElem_cons_zero, List.setIfInBounds_toArray, List.set_cons_zero, List.set_cons_succ]
        refine wpAnyH_ready (rs := [19]) (by kernel_rfl) (by simp) (AllReadyH.cons rfl (fun K hK => ?_) AllReadyH.nil)
        have h0 := hHeld
        clear hHeld
        try simp only [List.getElem_toArray, List.getElem_cons_succ, List.getElem_cons_zero]
        go_simp
        refine hK.out _ _ (trivial) (fun hHeld => ?_)
        clear hK K h0
        try simp only [Act.put, List.getElem_toArray, List.getElem_cons_succ, List.getElem_cons_zero, List.setIfInBounds_toArray, List.set_cons_zero, List.set_cons_succ]
        refine wpAnyH_done (by kernel_rfl) ?_ _
        go_wp2_with (fail)
        go_round
        case rel => exact ⟨k + m, A2, by omega, by rw [Nat.sub_sub, Nat.sub_sub], HREL.out.1, HREL.out.2⟩
        case measure => simp [lenV]; omega
      · have HREL : Hid (PS W3 g A2 (n - (k + m)) (c - (k + m)) (l.drop (k + m)) ∧ ∃ S Bu f, Tk (X ++ l.take (k + m)) S Bu f ∧ Blk W3 g 45 (mc S Bu f (xl + n)) ∧ w.grownBy W3 (some g)) := Lib.hid ⟨hP, S, B2, f + m, by rw [HDK.out, ← List.append_assoc]; exact HTL.out (by omega), kb, hg⟩
        have hbq : (((f : Int) + (m : Int)) == 128) = false := by simp; omega
        clear kb hg hP HTL HTW HDK HOL
        go_wp2_with (fail)
        go_round
        case rel => exact ⟨k + m, A2, by omega, by rw [Nat.sub_sub, Nat.sub_sub], HREL.out.1, HREL.out.2⟩
        case measure => simp [lenV]; omega
    · have hfi := hfin (by omega)
      rw [hfi] at hT
      have hxn : (X ++ l).length = xl + n := by rw [List.length_append, hXl, HLN.out]
      have hq0 : ¬ 0 < n - k := by omega
      have HR : Hid (∃ S Bu f, Tk (X ++ l) S Bu f ∧ Blk wr g 45 (mc S Bu f (X ++ l).length) ∧ w.grownBy wr (some g)) := Lib.hid ⟨S, Bu, f, hT, by rw [hxn]; exact hb, hgr⟩
      clear hfi hT hb hgr hfin hxn hdk hdd hn1 hn2
      go_wp2_with (fail)
      go_end0
      exact ⟨rfl, HR.out⟩
end Go.Proofs.YtagifgadcbhinaaDoor
