/- Words, contracts and walks (Ht, Hj, Vc, Vd, Ve, Vg, Vh, Vk, Ga, Ls, Co, Uw, Ca, Mp, Mo, Ra, Rmi, Rz, Kt, Fi, Fkn, Lk, Lm), laid together. No condition. -/
import Derived.Test.YtpagiffbjofihaaDoorZb
import Derived.Deep.MidRow
import Derived.Laws.CopyRow
import Derived.Deep.RegionLaw
import Derived.Maps.AppendAt
import Derived.Laws.OwnMore
import Derived.Deep.DeepCutAuto
import Derived.Deep.CutBlock
namespace Go.Proofs.YtpagiffbjofihaaDoor.Sha
set_option linter.unusedVariables false
set_option linter.unusedSimpArgs false
open Go Go.RowKit
/-- A message behind the bytes X: the state, the block, how much of it is filled. -/
structure Tk (X : List UInt8) (S : S8) (Bu : List UInt8) (f : Nat) : Prop where
  len : Bu.length = 128
  fil : f = X.length % 128
  st : S = blocks (bn X) H0 (X.length / 128)
  blk : Bu.take f = X.drop (128 * (X.length / 128))
theorem bn_append (X Y : List UInt8) : bn (X ++ Y) = bn X ++ bn Y := by simp [bn]
theorem bn_drop (X : List UInt8) (i : Nat) : bn (X.drop i) = (bn X).drop i := by simp [bn, List.map_drop]
/-- The block behind a copy. -/
def over (Bu : List UInt8) (f : Nat) (Y : List UInt8) : List UInt8 := Bu.take f ++ Y ++ Bu.drop (f + Y.length)
theorem over_len {Bu Y : List UInt8} {f : Nat} (h : Bu.length = 128) (hf : f + Y.length ≤ 128) : (over Bu f Y).length = 128 := by
  simp only [over, List.length_append, List.length_take, List.length_drop]; omega
theorem Tk.lt {X : List UInt8} {S : S8} {Bu : List UInt8} {f : Nat} (h : Tk X S Bu f) : f < 128 := by rw [h.fil]; omega
theorem Tk.ok {X : List UInt8} {S : S8} {Bu : List UInt8} {f : Nat} (h : Tk X S Bu f) : S.ok := by rw [h.st]; exact blocks_ok H0_ok _
theorem Tk.less {X : List UInt8} {S : S8} {Bu : List UInt8} {f : Nat} (h : Tk X S Bu f) (Y : List UInt8) (hy : f + Y.length < 128) : Tk (X ++ Y) S (over Bu f Y) (f + Y.length) := by
  obtain ⟨h1, h2, h3, h4⟩ := h
  have hq : (X ++ Y).length / 128 = X.length / 128 := by rw [List.length_append]; omega
  refine ⟨over_len h1 (by omega), by rw [List.length_append]; omega, ?_, ?_⟩
  · rw [hq, bn_append, blocks_append _ _ _ _ (by rw [bn_len]; omega), ← h3]
  · have e : (Bu.take f ++ Y).length = f + Y.length := by rw [List.length_append, List.length_take]; omega
    rw [hq, over, List.take_append_of_le_length (by omega), List.take_of_length_le (by omega), List.drop_append_of_le_length (by omega), h4]
theorem Tk.whole {X : List UInt8} {S : S8} {Bu : List UInt8} {f : Nat} (h : Tk X S Bu f) (Y : List UInt8) (hy : f + Y.length = 128) : Tk (X ++ Y) (press (bn (over Bu f Y)) S) (over Bu f Y) 0 := by
  obtain ⟨h1, h2, h3, h4⟩ := h
  have hq : (X ++ Y).length / 128 = X.length / 128 + 1 := by rw [List.length_append]; omega
  have e : (Bu.take f ++ Y).length = 128 := by rw [List.length_append, List.length_take]; omega
  have e2 : over Bu f Y = X.drop (128 * (X.length / 128)) ++ Y := by rw [over, List.drop_of_length_le (by omega), List.append_nil, h4]
  refine ⟨over_len h1 (by omega), by rw [List.length_append]; omega, ?_, ?_⟩
  · rw [hq, blocks, bn_append, blocks_append _ _ _ _ (by rw [bn_len]; omega), ← h3, List.drop_append_of_le_length (by rw [bn_len]; omega), ← bn_drop, ← bn_append, ← e2, List.take_of_length_le (by rw [bn_len, over_len h1 (by omega)]; omega)]
  · rw [hq, List.take_zero, List.drop_of_length_le (by rw [List.length_append]; omega)]
/-- The cells of a message. -/
def mcL (S : S8) (Bu : List UInt8) (f n : Nat) : List Value := S.l.map (nc .u64) ++ (HK.map (nc .u64) ++ (Bu.map bv ++ [.int .i64 (f : Int), .int .u64 (n : Int)]))
def mc (S : S8) (Bu : List UInt8) (f n : Nat) : Array Value := (mcL S Bu f n).toArray
theorem mcL_len {S : S8} {Bu : List UInt8} {f n : Nat} (h : Bu.length = 128) : (mcL S Bu f n).length = 218 := by
  simp only [mcL, List.length_append, List.length_map, HK_len, h]; rfl
theorem mc_at (S : S8) (Bu : List UInt8) (f n i : Nat) : (mc S Bu f n)[i]? = (mcL S Bu f n)[i]? := by simp [mc]
theorem sl_len (S : S8) : (S.l.map (nc .u64)).length = 8 := rfl
theorem kl_len : (HK.map (nc .u64)).length = 80 := by rw [List.length_map, HK_len]
theorem mc_K (S : S8) (Bu : List UInt8) (f n : Nat) {t : Nat} (ht : t < 80) : (mc S Bu f n)[8 + t]? = some (.int .u64 ((HK.getD t 0 : Nat) : Int)) := by
  rw [mc_at, mcL, List.getElem?_append_right (by rw [sl_len]; omega), sl_len, show 8 + t - 8 = t by omega, List.getElem?_append_left (by rw [kl_len]; exact ht), List.getElem?_map]
  simp [List.getD, show t < HK.length by rw [HK_len]; exact ht]
  rfl
theorem mc_B (S : S8) {Bu : List UInt8} (f n : Nat) {j : Nat} (hl : Bu.length = 128) (hj : j < 128) : (mc S Bu f n)[88 + j]? = Bu[j]?.map bv := by
  rw [mc_at, mcL, List.getElem?_append_right (by rw [sl_len]; omega), sl_len, List.getElem?_append_right (by rw [kl_len]; omega), kl_len, List.getElem?_append_left (by rw [List.length_map]; omega), List.getElem?_map, show 88 + j - 8 - 80 = j by omega]
theorem mc_split (S : S8) (Bu : List UInt8) (f n : Nat) : mcL S Bu f n = (S.l.map (nc .u64) ++ (HK.map (nc .u64) ++ Bu.map bv)) ++ [.int .i64 (f : Int), .int .u64 (n : Int)] := by simp [mcL]
theorem head_len {S : S8} {Bu : List UInt8} (h : Bu.length = 128) : (S.l.map (nc .u64) ++ (HK.map (nc .u64) ++ Bu.map bv)).length = 216 := by
  rw [List.length_append, List.length_append, sl_len, kl_len, List.length_map, h]
theorem mc_f (S : S8) {Bu : List UInt8} (f n : Nat) (h : Bu.length = 128) : (mc S Bu f n)[216]? = some (.int .i64 (f : Int)) := by
  rw [mc_at, mc_split, List.getElem?_append_right (by rw [head_len h]; omega), head_len h]; rfl
theorem mc_n (S : S8) {Bu : List UInt8} (f n : Nat) (h : Bu.length = 128) : (mc S Bu f n)[217]? = some (.int .u64 (n : Int)) := by
  rw [mc_at, mc_split, List.getElem?_append_right (by rw [head_len h]; omega), head_len h]; rfl
theorem mc_setf (S : S8) {Bu : List UInt8} (f n f' : Nat) (h : Bu.length = 128) : (mc S Bu f n).setIfInBounds 216 (.int .i64 (f' : Int)) = mc S Bu f' n := by
  simp only [mc, mc_split, List.setIfInBounds_toArray]
  rw [List.set_append_right _ _ (by rw [head_len h]; omega), head_len h]
  rfl
theorem mc_setn (S : S8) {Bu : List UInt8} (f n n' : Nat) (h : Bu.length = 128) : (mc S Bu f n).setIfInBounds 217 (.int .u64 (n' : Int)) = mc S Bu f n' := by
  simp only [mc, mc_split, List.setIfInBounds_toArray]
  rw [List.set_append_right _ _ (by rw [head_len h]; omega), head_len h]
  rfl
theorem mc_over (S : S8) {Bu Y : List UInt8} (f n : Nat) (h : Bu.length = 128) (hf : f + Y.length ≤ 128) :
    ((mc S Bu f n).toList.take (88 + f) ++ Y.map bv ++ (mc S Bu f n).toList.drop (88 + f + (Y.map bv).length)).toArray = mc S (over Bu f Y) f n := by
  have e : mcL S Bu f n = (S.l.map (nc .u64) ++ HK.map (nc .u64)) ++ (Bu.map bv ++ [.int .i64 (f : Int), .int .u64 (n : Int)]) := by simp [mcL]
  have el : (S.l.map (nc .u64) ++ HK.map (nc .u64)).length = 88 := by rw [List.length_append, sl_len, kl_len]
  have t1 : (mcL S Bu f n).take (88 + f) = (S.l.map (nc .u64) ++ HK.map (nc .u64)) ++ (Bu.take f).map bv := by
    rw [e, List.take_append, el, List.take_of_length_le (by omega), show 88 + f - 88 = f by omega, List.take_append_of_le_length (by rw [List.length_map]; omega), List.map_take]
  have t2 : (mcL S Bu f n).drop (88 + f + Y.length) = (Bu.drop (f + Y.length)).map bv ++ [.int .i64 (f : Int), .int .u64 (n : Int)] := by
    rw [e, List.drop_append, el, List.drop_of_length_le (by omega), List.nil_append, show 88 + f + Y.length - 88 = f + Y.length by omega, List.drop_append_of_le_length (by rw [List.length_map]; omega), List.map_drop]
  show ((mcL S Bu f n).take (88 + f) ++ Y.map bv ++ (mcL S Bu f n).drop (88 + f + (Y.map bv).length)).toArray = (mcL S (over Bu f Y) f n).toArray
  rw [List.length_map, t1, t2, mcL, over]
  simp
/-- Cells that are written one after another. -/
def setL (cs : Array Value) (o : Nat) : List Value → Array Value
  | [] => cs
  | v :: r => setL (cs.setIfInBounds o v) (o + 1) r
theorem _root_.Go.Proofs.YtpagiffbjofihaaDoor.Blk.setCells {g : Nat} {t : TypeId} : ∀ (vs : List Value) (o : Nat) (cs : Array Value) (W : World), Blk W g t cs → Blk (W.setCells g o vs) g t (setL cs o vs)
  | [], _, _, _, h => h
  | v :: r, o, cs, W, h => Blk.setCells r (o + 1) _ _ (h.set_ o v)
theorem grown_setCells (g : Nat) : ∀ (vs : List Value) (o : Nat) (W : World), W.grownBy (W.setCells g o vs) (some g)
  | [], _, W => World.grownBy.refl _ _
  | v :: r, o, W => grown_trans (grown_set W g o v) (grown_setCells g r (o + 1) _)
theorem mc_setS (S S' : S8) (Bu : List UInt8) (f n : Nat) : setL (mc S Bu f n) 0 (us S'.l).toList = mc S' Bu f n := by
  obtain ⟨a, b, c, d, e, f0, g, h⟩ := S
  obtain ⟨a', b', c', d', e', f', g', h'⟩ := S'
  have e1 : (us (S8.l ⟨a', b', c', d', e', f', g', h'⟩)).toList = [nc .u64 a', nc .u64 b', nc .u64 c', nc .u64 d', nc .u64 e', nc .u64 f', nc .u64 g', nc .u64 h'] := rfl
  rw [e1]
  simp only [mc, mcL, S8.l, List.map_cons, List.map_nil, List.cons_append, List.nil_append, setL, List.setIfInBounds_toArray, List.set_cons_zero, List.set_cons_succ]
theorem mc_one (S : S8) (Bu : List UInt8) (f n : Nat) : (mc S Bu f n).all (·.oneCell') = true := by
  rw [Array.all_eq_true_iff_forall_mem]
  intro v hv
  simp only [mc, mcL, List.mem_toArray, List.mem_append, List.mem_map, List.mem_cons, List.not_mem_nil, or_false] at hv
  rcases hv with ⟨x, _, rfl⟩ | ⟨x, _, rfl⟩ | ⟨x, _, rfl⟩ | rfl | rfl <;> rfl
/-- The slice '(A, n, c)' reads as the bytes l, which lie in another block than g. -/
structure PS (w : World) (g : Nat) (A : Option Addr) (n c : Nat) (l : List UInt8) : Prop where
  len : l.length = n
  cap : n ≤ c
  nil_ : A = none → c = 0
  at_ : 0 < n → ∃ b o, A = some ⟨b, o, none⟩ ∧ b ≠ g ∧ b < w.heap.size ∧ ∀ j x, l[j]? = some x → w.cell? ⟨b, o + j, none⟩ = some (.int .u8 (x.toNat : Int))
theorem PS.ofBS {w : World} {g n c B : Nat} {A : Option Addr} {l : List UInt8} (h : BS w B A n c l) (hg : B ≤ g) (hw : B ≤ w.heap.size) : PS w g A n c l :=
  ⟨h.len, h.cap, h.nil_, fun hn => by
    obtain ⟨b, o, e, hb, hc⟩ := h.at_ hn
    exact ⟨b, o, e, by omega, by omega, hc⟩⟩
theorem PS.grown {w w' : World} {g n c : Nat} {A : Option Addr} {l : List UInt8} (h : PS w g A n c l) (hg : w.grownBy w' (some g)) : PS w' g A n c l :=
  ⟨h.len, h.cap, h.nil_, fun hn => by
    obtain ⟨b, o, e, hb, hlt, hc⟩ := h.at_ hn
    have hk := hg.block b hlt (fun e => hb (by injection e))
    exact ⟨b, o, e, hb, (Nat.lt_of_lt_of_le hlt hg.size), fun j x hx => (World.cell?_of_block hk).trans (hc j x hx)⟩⟩
theorem PS.tail {w : World} {g n c : Nat} {A : Option Addr} {l : List UInt8} (h : PS w g A n c l) {k : Nat} (hk : k ≤ n) :
    ∃ A', (∀ W, (Instr.slice 24 (.slice A n c) (some (.int .i64 (k : Int))) none none).run Tryd.prog W = .ok (.slice A' (n - k) (c - k)) W) ∧ PS w g A' (n - k) (c - k) (l.drop k) := by
  have hel : Tryd.prog.elem 24 = 5 := by simp [Program.elem, Tryd.underlying24]
  have hnc := h.cap
  refine ⟨if c = k then A else A.map (fun a => a.add k), fun W => ?_, ?_⟩
  · rw [run_slice_l W 24 A n c (by rw [hel]; exact Tryd.underlying24) _ _ (by omega) (by omega), hel, size_u8 info_u8h]
    simp only [Result.andThen, sliced, Int.toNat_natCast, Nat.mul_one]
  · refine ⟨by rw [List.length_drop, h.len], by omega, fun e => ?_, fun hp => ?_⟩
    · split at e
      · omega
      · cases A with
        | none => have := h.nil_ rfl; omega
        | some a => cases e
    · obtain ⟨b, o, e, hb, hlt, hc⟩ := h.at_ (by omega)
      subst e
      rw [if_neg (by omega)]
      refine ⟨b, o + k, by simp [Addr.add_lit], hb, hlt, fun j x hx => ?_⟩
      rw [List.getElem?_drop] at hx
      have := hc _ x hx
      rw [← Nat.add_assoc] at this
      exact this
def lenV : Value → Nat
  | .slice _ n _ => n
  | _ => 0
def TakePost (g : Nat) (Z : List UInt8) (w : World) (e : Ending) (w' : World) : Prop := e = .returned (.tuple #[]) ∧ ∃ S Bu f, Tk Z S Bu f ∧ Blk w' g 79 (mc S Bu f Z.length) ∧ w.grownBy w' (some g)
theorem step_copy_row {P : Program} {o : Oper} {a : Act} {w : World} {K : Act → World → Prop} {Q : Exit → Act → World → Prop} (d s : Operand) (dT sT : TypeId)
    (ho : o.op = .call { callee := .builtin .copy, args := #[d, s], argTypes := #[dT, sT] }) (elem : TypeId) (hu : P.underlying dT = some (.slice elem)) (hsz : (P.info? elem).map (·.size) = some 1)
    (dLen dCap sLen sCap : Nat) (g off : Nat) (ad : Addr) (hd : a.eval d = .slice (some ⟨g, off, none⟩) dLen dCap) (hs : a.eval s = .slice (some ad) sLen sCap)
    (cur : Array Value) (t : TypeId) (hg : w.heap[g]? = some (.cells cur t (0, 0))) (cs : List Value) (hn : cs.length = Nat.min sLen dLen)
    (hsrc : ∀ j v, cs[j]? = some v → w.cell? (ad.add j) = some v) (hfit : off + cs.length ≤ cur.size) (h1 : ∀ v ∈ cs, v.oneCell' = true) (m : Nat) (hm : cs.length = m)
    (h : K (a.put o.dst (.int .i64 (m : Int))) (w.setRow g (cur.toList.take off ++ cs ++ cur.toList.drop (off + cs.length)).toArray)) :
    Oper.wp P o a w K Q := by
  have hrun := run_copy_row (P := P) w dT sT o.type elem g off dLen dCap ad sLen sCap cur t cs hu hsz hg hn hsrc hfit h1
  unfold Oper.wp
  simp [execOp, ho, resolve, invoke, builtin, hd, hs, hrun, Result.andThen]
  subst hm
  rw [List.append_assoc] at h
  exact h
theorem slice_arr_l (t : TypeId) (n : Nat) (ht : Tryd.prog.underlying t = some (.array n 5)) (g o i : Nat) (hi : i < n) (W : World) :
    (Instr.sliceAt t (.pointer (some ⟨g, o, none⟩)) (some (.int .i64 (i : Int))) none none).run Tryd.prog W = .ok (.slice (some ⟨g, o + i, none⟩) (n - i) (n - i)) W := by
  have h1 : Tryd.prog.arrayLen t = n := by simp [Program.arrayLen, ht]
  have h2 : Tryd.prog.elem t = 5 := by simp [Program.elem, ht]
  rw [run_sliceAt_array_l W t _ (by rw [h1, h2]; exact ht) _ _ (by omega) (by rw [h1]; omega), h1, h2, size_u8 info_u8h]
  simp only [Result.andThen, slicedAt, Int.toNat_natCast, Nat.mul_one, Addr.add_lit]
  rw [if_neg (by omega)]
theorem slice_arr_all (t : TypeId) (n : Nat) (ht : Tryd.prog.underlying t = some (.array n 5)) (g o : Nat) (hn : 0 < n) (W : World) :
    (Instr.sliceAt t (.pointer (some ⟨g, o, none⟩)) none none none).run Tryd.prog W = .ok (.slice (some ⟨g, o, none⟩) n n) W := by
  have h1 : Tryd.prog.arrayLen t = n := by simp [Program.arrayLen, ht]
  have h2 : Tryd.prog.elem t = 5 := by simp [Program.elem, ht]
  rw [run_sliceAt_array_all W t _ (by rw [h1, h2]; exact ht), h1, h2, size_u8 info_u8h]
  simp only [Result.andThen, slicedAt, Nat.zero_mul, Nat.sub_zero, Addr.add_lit, Nat.add_zero]
  rw [if_neg (by omega)]
theorem wp_load_st {op : Oper} {a : Act} {w : World} {K : Act → World → Prop} {Q : Exit → Act → World → Prop} (x : Operand) (ho : op.op = .load 73 x) (g : Nat) (hx : a.eval x = .pointer (some ⟨g, 0, none⟩)) {t : TypeId} {S : S8} {Bu : List UInt8} {f n : Nat}
    (hb : Blk w g t (mc S Bu f n)) (h : K (a.put op.dst (.agg (us S.l))) w) : op.wp Tryd.prog a w K Q := by
  refine wp_load_mid 73 x ho g 0 hx (us S.l).toList _ (fun j v hv => ?_) Tryd.underlying73 rfl size_hst h
  rw [hb.cell, Nat.zero_add, mc_at, mcL, List.getElem?_append_left (by have := (List.getElem?_eq_some_iff.1 hv).1; rw [sl_len]; exact this)]
  exact hv
theorem wp_store_st {op : Oper} {a : Act} {w : World} {K : Act → World → Prop} {Q : Exit → Act → World → Prop} (x y : Operand) (ho : op.op = .store 73 x y) (g : Nat) (hx : a.eval x = .pointer (some ⟨g, 0, none⟩)) {t : TypeId} {S S' : S8} {Bu : List UInt8} {f n : Nat} (hl : Bu.length = 128)
    (hy : a.eval y = .agg (us S'.l)) (hb : Blk w g t (mc S Bu f n)) (h : K (a.put op.dst undef) (w.setCells g 0 (us S'.l).toList)) : op.wp Tryd.prog a w K Q := by
  refine wp_store_mid 73 x y ho g 0 (us S'.l) hx hy (fun j hj => ⟨?_, hb.frozen _⟩) size_hst (us_one _) h
  have hj8 : j < 8 := hj
  rw [hb.cell, Array.getElem?_eq_getElem (by rw [mc, List.size_toArray, mcL_len hl]; omega)]
  rfl
theorem size_u8t : (Tryd.prog.info? 5).map (·.size) = some 1 := by kernel_rfl
theorem grown_setRow (w : World) (g : Nat) (cs : Array Value) : w.grownBy (w.setRow g cs) (some g) := ⟨rfl, rfl, rfl, by simp [World.setRow], fun k _ h => Go.setRow_other w g k cs (fun e => h (by rw [e]))⟩
theorem bv_ones (Y : List UInt8) : ∀ v ∈ Y.map bv, v.oneCell' = true := by
  intro v hv
  obtain ⟨x, _, rfl⟩ := List.mem_map.1 hv
  rfl
attribute [local irreducible] mc mcL over press blocks HK be
set_option maxRecDepth 100000 in
set_option maxHeartbeats 4000000 in
theorem take_any (X l : List UInt8) (S : S8) (Bu : List UInt8) (f g : Nat) (A : Option Addr) (n c : Nat) (w : World) (hT : Tk X S Bu f) (hb : Blk w g 79 (mc S Bu f X.length)) (hl : PS w g A n c l) (hX : X.length + l.length < 1152921504606846976) :
    Calls Tryd.prog 48 #[.pointer (some ⟨g, 0, none⟩), .slice A n c] w (TakePost g (X ++ l) w) := by
  have hln := hl.len
  have c217 : w.cell? ⟨g, 217, none⟩ = some (.int .u64 (X.length : Int)) := by rw [hb.cell, mc_n S f _ hT.len]
  have z217 := hb.frozen 217
  have hb1 := hb.set_ 217 (.int .u64 ((X.length + n : Nat) : Int))
  rw [mc_setn S f _ _ hT.len] at hb1
  have hg1 := grown_set w g 217 (.int .u64 ((X.length + n : Nat) : Int))
  have hl1 := hl.grown hg1
  rw [show ((X.length + n : Nat) : Int) = (X.length : Int) + (n : Int) by push_cast; rfl] at hb1 hg1 hl1
  have HB1 := Lib.hid hb1
  have HG1 := Lib.hid hg1
  have HL1 := Lib.hid hl1
  have HT := Lib.hid hT
  rw [hln] at hX
  have HLN := Lib.hid hln
  clear hb1 hg1 hl1 hT hl hln
  generalize hXl : X.length = xl at *
  go_enter Tryd.func48, Tryd.ntmps48
  go_wp2_with (fail)
  go_loopw [1] (fun v wr => ∃ (k : Nat) (A' : Option Addr), k ≤ n ∧ v = .slice A' (n - k) (c - k) ∧ PS wr g A' (n - k) (c - k) (l.drop k) ∧ ∃ S Bu f, Tk (X ++ l.take k) S Bu f ∧ Blk wr g 79 (mc S Bu f (xl + n)) ∧ w.grownBy wr (some g)) (fun v _ => lenV v)
  case atStart => exact ⟨0, A, by omega, rfl, HL1.out, S, Bu, f, by simpa using HT.out, HB1.out, HG1.out⟩
  case round =>
    clear HT HB1 HG1 HL1 c217 z217 hb
    obtain ⟨k, A', hk, rfl, hP, S, Bu, f, hT, hb, hgr⟩ := hrel
    have hld : (l.drop k).length = n - k := hP.len
    have hdk : ∀ m, l.take (k + m) = l.take k ++ (l.drop k).take m := fun m => List.take_add
    have hdd : ∀ m, (l.drop k).drop m = l.drop (k + m) := fun m => List.drop_drop
    have hn1 : ∀ m, n - k - m = n - (k + m) := fun m => by omega
    have hn2 : ∀ m, c - k - m = c - (k + m) := fun m => by omega
    have hfin : k = n → X ++ l.take k = X ++ l := fun e => by rw [List.take_of_length_le (by rw [HLN.out]; omega)]
    by_cases hlt : k < n
    · have hf := hT.lt
      have hq : 0 < n - k := by omega
      have hkn : k + (n - k) = n := by omega
      obtain ⟨m, em⟩ : ∃ m, m = Nat.min (n - k) (128 - f) := ⟨_, rfl⟩
      have hm1 : 0 < m := by rw [em]; exact Nat.lt_min.2 ⟨hq, by omega⟩
      have hm2 : m ≤ n - k := by rw [em]; exact Nat.min_le_left _ _
      have hm3 : f + m ≤ 128 := by have : m ≤ 128 - f := by rw [em]; exact Nat.min_le_right _ _
                                   omega
      obtain ⟨b, o, rfl, hbg, hblt, hcells⟩ := hP.at_ hq
      have hDK := hdk m
      have hDD := hdd m
      have hN1 := hn1 m
      have hN2 := hn2 m
      clear hdk hdd hn1 hn2 hfin
      obtain ⟨Y, eY⟩ : ∃ Y, Y = (l.drop k).take m := ⟨_, rfl⟩
      have hYl : Y.length = m := by rw [eY, List.length_take]; omega
      have hYc : ∀ j v, (Y.map bv)[j]? = some v → wr.cell? ((⟨b, o, none⟩ : Addr).add j) = some v := fun j v hv => by
        rw [List.getElem?_map] at hv
        cases hy : Y[j]? with
        | none => rw [hy] at hv; cases hv
        | some x =>
          rw [hy] at hv
          injection hv with hv
          rw [Addr.add_mid, ← hv]
          refine hcells j x ?_
          rw [eY, List.getElem?_take] at hy
          split at hy
          · exact hy
          · cases hy
      rw [← eY] at hDK
      have hover := mc_over S (Y := Y) f (xl + n) hT.len (by omega)
      have hol := over_len (Y := Y) hT.len (show f + Y.length ≤ 128 by omega)
      have hTl := hT.less Y
      have hTw := hT.whole Y
      rw [hYl] at hTl hTw
      have hSo := hT.ok
      have hBl := hT.len
      obtain ⟨A2, hsl, hP2⟩ := hP.tail (k := m) hm2
      rw [hDD, hN1, hN2] at hP2
      have hsl2 := hsl
      rw [hN1, hN2] at hsl2
      have s1 := fun W => slice_arr_l 77 128 Tryd.underlying77 g 88 f hf W
      have s2 := fun W => slice_arr_all 77 128 Tryd.underlying77 g 88 (by omega) W
      have c216 : wr.cell? ⟨g, 216, none⟩ = some (.int .i64 (f : Int)) := by rw [hb.cell, mc_f S f _ hBl]
      have kb2 : Blk (wr.drew.setRow g ((mc S Bu f (xl + n)).toList.take (88 + f) ++ Y.map bv ++ (mc S Bu f (xl + n)).toList.drop (88 + f + (Y.map bv).length)).toArray) g 79 (mc S (over Bu f Y) f (xl + n)) := by
        have := Blk.setRow_same (hb.drew) (((mc S Bu f (xl + n)).toList.take (88 + f) ++ Y.map bv ++ (mc S Bu f (xl + n)).toList.drop (88 + f + (Y.map bv).length)).toArray)
        rw [hover] at this ⊢
        exact this
      have hg2 := grown_trans (grown_drew hgr) (grown_setRow wr.drew g (((mc S Bu f (xl + n)).toList.take (88 + f) ++ Y.map bv ++ (mc S Bu f (xl + n)).toList.drop (88 + f + (Y.map bv).length)).toArray))
      have hfit : 88 + f + (Y.map bv).length ≤ (mc S Bu f (xl + n)).size := by
        have : (mc S Bu f (xl + n)).size = 218 := by unfold mc; rw [List.size_toArray]; exact mcL_len hBl
        rw [List.length_map, this]; omega
      have hYm : (Y.map bv).length = m := by rw [List.length_map, hYl]
      have hPg : ∀ W, wr.drew.grownBy W (some g) → PS W g A2 (n - (k + m)) (c - (k + m)) (l.drop (k + m)) := fun W hW => hP2.grown (World.grownBy.trans (grown_drew (World.grownBy.refl wr _)) hW)
      have hgw : w.grownBy wr (some g) := hgr
      have HB := Lib.hid hb
      have KB2 := Lib.hid kb2
      have HG2 := Lib.hid hg2
      have HYC := Lib.hid hYc
      have HFIT := Lib.hid hfit
      have HYM := Lib.hid hYm
      have HPG := Lib.hid hPg
      have HTL := Lib.hid hTl
      have HTW := Lib.hid hTw
      have HDK := Lib.hid hDK
      have HOL := Lib.hid hol
      have EM := Lib.hid em
      clear hb kb2 hg2 hYc hfit hYm hPg hTl hTw hDK hDD hol em eY hover hcells hP hP2 hT hgr hgw hld hN1 hN2 hYl
      go_wp2_with (fail)
      refine wp_region_held_drew (S := fun W => W.cell? ⟨g, 216, none⟩ = some (.int .i64 (f : Int))) (by kernel_rfl) ?_ (fun hHeld => ?_)
      · exact c216
      refine wpAnyH_take (i := 0) (v := ?_) rfl (by kernel_rfl) (by kernel_rfl) (by kernel_rfl) (fun _ _ _ h => h) (Or.inl ⟨by rfl, ?_⟩) hHeld ?_
      rotate_left
      · (intro W hSw; (try dsimp only at hSw); (try simp only [List.getElem_toArray, List.getElem_cons_succ, List.getElem_cons_zero]); go_simp; try with_reducible rfl)
      try simp only [Act.put, List.getElem_toArray, List.getElem_cons_succ, List.getElem_cons_zero, List.setIfInBounds_toArray, List.set_cons_zero, List.set_cons_succ]
      refine wpAnyH_take (i := 1) (v := ?_) rfl (by kernel_rfl) (by kernel_rfl) (by kernel_rfl) (fun _ _ _ h => h) (Or.inl ⟨by rfl, ?_⟩) hHeld ?_
      rotate_left
      · (intro W hSw; (try dsimp only at hSw); (try simp only [List.getElem_toArray, List.getElem_cons_succ, List.getElem_cons_zero]); go_simp; try with_reducible rfl)
      try simp only [Act.put, List.getElem_toArray, List.getElem_cons_succ, List.getElem_cons_zero, List.setIfInBounds_toArray, List.set_cons_zero, List.set_cons_succ]
      refine wpAnyH_take (i := 2) (v := ?_) rfl (by kernel_rfl) (by kernel_rfl) (by kernel_rfl) (fun _ _ _ h => h) (Or.inl ⟨by rfl, ?_⟩) hHeld ?_
      rotate_left
      · (intro W hSw; (try dsimp only at hSw); (try simp only [List.getElem_toArray, List.getElem_cons_succ, List.getElem_cons_zero]); go_simp; try with_reducible rfl)
      try simp only [Act.put, List.getElem_toArray, List.getElem_cons_succ, List.getElem_cons_zero, List.setIfInBounds_toArray, List.set_cons_zero, List.set_cons_succ]
      refine wpAnyH_take (i := 3) (v := ?_) rfl (by kernel_rfl) (by kernel_rfl) (by kernel_rfl) (fun _ _ _ h => h) (Or.inl ⟨by rfl, ?_⟩) hHeld ?_
      rotate_left
      · (intro W hSw; (try dsimp only at hSw); (try simp only [List.getElem_toArray, List.getElem_cons_succ, List.getElem_cons_zero]); go_simp; try with_reducible rfl)
      try simp only [Act.put, List.getElem_toArray, List.getElem_cons_succ, List.getElem_cons_zero, List.setIfInBounds_toArray, List.set_cons_zero, List.set_cons_succ]
      refine wpAnyH_take (i := 4) (v := ?_) rfl (by kernel_rfl) (by kernel_rfl) (by kernel_rfl) (fun _ _ _ h => h) (Or.inl ⟨by rfl, ?_⟩) hHeld ?_
      rotate_left
      · (intro W hSw; (try dsimp only at hSw); (try simp only [List.getElem_toArray, List.getElem_cons_succ, List.getElem_cons_zero]); go_simp; try with_reducible rfl)
      try simp only [Act.put, List.getElem_toArray, List.getElem_cons_succ, List.getElem_cons_zero, List.setIfInBounds_toArray, List.set_cons_zero, List.set_cons_succ]
      refine wpAnyH_take (i := 5) (v := ?_) rfl (by kernel_rfl) (by kernel_rfl) (by kernel_rfl) (fun _ _ _ h => h) (Or.inl ⟨by rfl, ?_⟩) hHeld ?_
      rotate_left
      · (intro W hSw; (try dsimp only at hSw); (try simp only [List.getElem_toArray, List.getElem_cons_succ, List.getElem_cons_zero]); go_simp; try with_reducible rfl)
      try simp only [Act.put, List.getElem_toArray, List.getElem_cons_succ, List.getElem_cons_zero, List.setIfInBounds_toArray, List.set_cons_zero, List.set_cons_succ]
      refine wpAnyH_take (i := 6) (v := ?_) rfl (by kernel_rfl) (by kernel_rfl) (by kernel_rfl) (fun _ _ _ h => h) (Or.inl ⟨by rfl, ?_⟩) hHeld ?_
      rotate_left
      · (intro W hSw; (try dsimp only at hSw); (try simp only [List.getElem_toArray, List.getElem_cons_succ, List.getElem_cons_zero]); go_simp; try with_reducible rfl)
      try simp only [Act.put, List.getElem_toArray, List.getElem_cons_succ, List.getElem_cons_zero, List.setIfInBounds_toArray, List.set_cons_zero, List.set_cons_succ]
      refine wpAnyH_take (i := 7) (v := ?_) rfl (by kernel_rfl) (by kernel_rfl) (by kernel_rfl) (fun _ _ _ h => h) (Or.inl ⟨by rfl, ?_⟩) hHeld ?_
      rotate_left
      · (intro W hSw; (try dsimp only at hSw); (try simp only [List.getElem_toArray, List.getElem_cons_succ, List.getElem_cons_zero]); go_simp; try with_reducible rfl)
      try simp only [Act.put, List.getElem_toArray, List.getElem_cons_succ, List.getElem_cons_zero, List.setIfInBounds_toArray, List.set_cons_zero, List.set_cons_succ]
      refine wpAnyH_take (i := 8) (v := ?_) rfl (by kernel_rfl) (by kernel_rfl) (by kernel_rfl) (fun _ _ _ h => h) (Or.inl ⟨by rfl, ?_⟩) hHeld ?_
      rotate_left
      · (intro W hSw; (try dsimp only at hSw); (try simp only [List.getElem_toArray, List.getElem_cons_succ, List.getElem_cons_zero]); go_simp; try with_reducible rfl)
      try simp only [Act.put, List.getElem_toArray, List.getElem_cons_succ, List.getElem_cons_zero, List.setIfInBounds_toArray, List.set_cons_zero, List.set_cons_succ]
      refine wpAnyH_ready (rs := [9]) (by kernel_rfl) (by simp) (AllReadyH.cons rfl (fun K hK => ?_) AllReadyH.nil)
      clear hHeld
      try simp only [List.getElem_toArray, List.getElem_cons_succ, List.getElem_cons_zero]
      rw [if_pos (by rfl)]
      refine step_copy_row (.tmp 25) (.tmp 26) 24 24 rfl 5 Tryd.underlying24 size_u8t (128 - f) (128 - f) (n - k) (c - k) g (88 + f) ⟨b, o, none⟩ rfl rfl (mc S Bu f (xl + n)) 79 HB.out.drew (Y.map bv) (HYM.out.trans EM.out) HYC.out HFIT.out (bv_ones Y) m HYM.out ?_
      have c2 : (wr.drew.setRow g ((mc S Bu f (xl + n)).toList.take (88 + f) ++ Y.map bv ++ (mc S Bu f (xl + n)).toList.drop (88 + f + (Y.map bv).length)).toArray).cell? ⟨g, 216, none⟩ = some (.int .i64 (f : Int)) := by rw [KB2.out.cell, mc_f S f _ HOL.out]
      refine hK.out _ _ c2 (fun hHeld => ?_)
      clear hK K
      try simp only [Act.put, List.getElem_toArray, List.getElem_cons_succ, List.getElem_cons_zero, List.setIfInBounds_toArray, List.set_cons_zero, List.set_cons_succ]
      obtain ⟨W2, eW2⟩ : ∃ W, W = wr.drew.setRow g ((mc S Bu f (xl + n)).toList.take (88 + f) ++ Y.map bv ++ (mc S Bu f (xl + n)).toList.drop (88 + f + (Y.map bv).length)).toArray := ⟨_, rfl⟩
      rw [← eW2] at hHeld c2 ⊢
      have kb3 := KB2.out
      have hg3 := HG2.out
      have hP3 := HPG.out W2 (by rw [eW2]; exact grown_setRow _ _ _)
      rw [← eW2] at kb3 hg3
      clear eW2 KB2 HG2 HPG HB HYC HFIT HYM EM
      refine wpAnyH_take (i := 10) (v := ?_) rfl (by kernel_rfl) (by kernel_rfl) (by kernel_rfl) (fun _ _ _ h => h) (Or.inl ⟨by rfl, ?_⟩) hHeld ?_
      rotate_left
      · (intro W hSw; (try dsimp only at hSw); (try simp only [List.getElem_toArray, List.getElem_cons_succ, List.getElem_cons_zero]); go_simp; try with_reducible rfl)
      try simp only [Act.put, List.getElem_toArray, List.getElem_cons_succ, List.getElem_cons_zero, List.setIfInBounds_toArray, List.set_cons_zero, List.set_cons_succ]
      refine wpAnyH_done (by kernel_rfl) ?_ _
      have z2 := kb3.frozen 216
      have kb4 := kb3.set_ 216 (.int .i64 ((f + m : Nat) : Int))
      rw [mc_setf S f _ (f + m) HOL.out] at kb4
      have hg4 := grown_trans hg3 (grown_set W2 g 216 (.int .i64 ((f + m : Nat) : Int)))
      have hP4 := hP3.grown (grown_set W2 g 216 (.int .i64 ((f + m : Nat) : Int)))
      rw [show ((f + m : Nat) : Int) = (f : Int) + (m : Int) by push_cast; rfl] at kb4 hg4 hP4
      have KB4 := Lib.hid kb4
      have HG4 := Lib.hid hg4
      have HP4 := Lib.hid hP4
      clear kb3 kb4 hg3 hg4 hP3 hP4
      have hwf : IntKind.i64.wrap ((f : Int) + (m : Int)) = (f : Int) + (m : Int) := by rw [IntKind.wrap_i64]; omega
      go_wp2_with (fail)
      refine wp_region_held_drew (S := fun W => True) (by kernel_rfl) ?_ (fun hHeld => ?_)
      · exact trivial
      refine wpAnyH_take (i := 0) (v := ?_) rfl (by kernel_rfl) (by kernel_rfl) (by kernel_rfl) (fun _ _ _ h => h) (Or.inl ⟨by rfl, ?_⟩) hHeld ?_
      rotate_left
      · (intro W hSw; (try dsimp only at hSw); (try simp only [List.getElem_toArray, List.getElem_cons_succ, List.getElem_cons_zero]); go_simp; try with_reducible rfl)
      try simp only [Act.put, List.getElem_toArray, List.getElem_cons_succ, List.getElem_cons_zero, List.setIfInBounds_toArray, List.set_cons_zero, List.set_cons_succ]
      refine wpAnyH_take (i := 1) (v := ?_) rfl (by kernel_rfl) (by kernel_rfl) (by kernel_rfl) (fun _ _ _ h => h) (Or.inl ⟨by rfl, ?_⟩) hHeld ?_
      rotate_left
      · (intro W hSw; (try dsimp only at hSw); (try simp only [List.getElem_toArray, List.getElem_cons_succ, List.getElem_cons_zero]); go_simp; try with_reducible rfl)
      try simp only [Act.put, List.getElem_toArray, List.getElem_cons_succ, List.getElem_cons_zero, List.setIfInBounds_toArray, List.set_cons_zero, List.set_cons_succ]
      refine wpAnyH_take (i := 2) (v := ?_) rfl (by kernel_rfl) (by kernel_rfl) (by kernel_rfl) (fun _ _ _ h => h) (Or.inl ⟨by rfl, ?_⟩) hHeld ?_
      rotate_left
      · (intro W hSw; (try dsimp only at hSw); (try simp only [List.getElem_toArray, List.getElem_cons_succ, List.getElem_cons_zero]); go_simp; try with_reducible rfl)
      try simp only [Act.put, List.getElem_toArray, List.getElem_cons_succ, List.getElem_cons_zero, List.setIfInBounds_toArray, List.set_cons_zero, List.set_cons_succ]
      refine wpAnyH_take (i := 3) (v := ?_) rfl (by kernel_rfl) (by kernel_rfl) (by kernel_rfl) (fun _ _ _ h => h) (Or.inl ⟨by rfl, ?_⟩) hHeld ?_
      rotate_left
      · (intro W hSw; (try dsimp only at hSw); (try simp only [List.getElem_toArray, List.getElem_cons_succ, List.getElem_cons_zero]); go_simp; try with_reducible rfl)
      try simp only [Act.put, List.getElem_toArray, List.getElem_cons_succ, List.getElem_cons_zero, List.setIfInBounds_toArray, List.set_cons_zero, List.set_cons_succ]
      refine wpAnyH_take (i := 5) (v := ?_) rfl (by kernel_rfl) (by kernel_rfl) (by kernel_rfl) (fun _ _ _ h => h) (Or.inl ⟨by rfl, ?_⟩) hHeld ?_
      rotate_left
      · (intro W hSw; (try dsimp only at hSw); (try simp only [List.getElem_toArray, List.getElem_cons_succ, List.getElem_cons_zero]); go_simp; try with_reducible rfl)
      try simp only [Act.put, List.getElem_toArray, List.getElem_cons_succ, List.getElem_cons_zero, List.setIfInBounds_toArray, List.set_cons_zero, List.set_cons_succ]
      refine wpAnyH_take (i := 7) (v := ?_) rfl (by kernel_rfl) (by kernel_rfl) (by kernel_rfl) (fun _ _ _ h => h) (Or.inl ⟨by rfl, ?_⟩) hHeld ?_
      rotate_left
      · (intro W hSw; (try dsimp only at hSw); (try simp only [List.getElem_toArray, List.getElem_cons_succ, List.getElem_cons_zero]); go_simp; try with_reducible rfl)
      try simp only [Act.put, List.getElem_toArray, List.getElem_cons_succ, List.getElem_cons_zero, List.setIfInBounds_toArray, List.set_cons_zero, List.set_cons_succ]
      refine wpAnyH_take (i := 8) (v := ?_) rfl (by kernel_rfl) (by kernel_rfl) (by kernel_rfl) (fun _ _ _ h => h) (Or.inl ⟨by rfl, ?_⟩) hHeld ?_
      rotate_left
      · (intro W hSw; (try dsimp only at hSw); (try simp only [List.getElem_toArray, List.getElem_cons_succ, List.getElem_cons_zero]); go_simp; try with_reducible rfl)
      try simp only [Act.put, List.getElem_toArray, List.getElem_cons_succ, List.getElem_cons_zero, List.setIfInBounds_toArray, List.set_cons_zero, List.set_cons_succ]
      refine wpAnyH_take (i := 9) (v := ?_) rfl (by kernel_rfl) (by kernel_rfl) (by kernel_rfl) (fun _ _ _ h => h) (Or.inl ⟨by rfl, ?_⟩) hHeld ?_
      rotate_left
      · (intro W hSw; (try dsimp only at hSw); (try simp only [List.getElem_toArray, List.getElem_cons_succ, List.getElem_cons_zero]); go_simp; try with_reducible rfl)
      try simp only [Act.put, List.getElem_toArray, List.getElem_cons_succ, List.getElem_cons_zero, List.setIfInBounds_toArray, List.set_cons_zero, List.set_cons_succ]
      refine wpAnyH_ready (rs := [4]) (by kernel_rfl) (by simp) (AllReadyH.cons rfl (fun K hK => ?_) AllReadyH.nil)
      have h0 := hHeld
      clear hHeld
      try simp only [List.getElem_toArray, List.getElem_cons_succ, List.getElem_cons_zero]
      go_simp
      refine hK.out _ _ (trivial) (fun hHeld => ?_)
      clear hK K h0
      try simp only [Act.put, List.getElem_toArray, List.getElem_cons_succ, List.getElem_cons_zero, List.setIfInBounds_toArray, List.set_cons_zero, List.set_cons_succ]
      refine wpAnyH_take (i := 6) (v := ?_) rfl (by kernel_rfl) (by kernel_rfl) (by kernel_rfl) (fun _ _ _ h => h) (Or.inl ⟨by rfl, ?_⟩) hHeld ?_
      rotate_left
      · (intro W hSw; (try dsimp only at hSw); (try simp only [List.getElem_toArray, List.getElem_cons_succ, List.getElem_cons_zero]); go_simp; try with_reducible rfl)
      try simp only [Act.put, List.getElem_toArray, List.getElem_cons_succ, List.getElem_cons_zero, List.setIfInBounds_toArray, List.set_cons_zero, List.set_cons_succ]
      refine wpAnyH_take (i := 10) (v := ?_) rfl (by kernel_rfl) (by kernel_rfl) (by kernel_rfl) (fun _ _ _ h => h) (Or.inl ⟨by rfl, ?_⟩) hHeld ?_
      rotate_left
      · (intro W hSw; (try dsimp only at hSw); (try simp only [List.getElem_toArray, List.getElem_cons_succ, List.getElem_cons_zero]); go_simp; try with_reducible rfl)
      try simp only [Act.put, List.getElem_toArray, List.getElem_cons_succ, List.getElem_cons_zero, List.setIfInBounds_toArray, List.set_cons_zero, List.set_cons_succ]
      refine wpAnyH_take (i := 11) (v := ?_) rfl (by kernel_rfl) (by kernel_rfl) (by kernel_rfl) (fun _ _ _ h => h) (Or.inl ⟨by rfl, ?_⟩) hHeld ?_
      rotate_left
      · (intro W hSw; (try dsimp only at hSw); (try simp only [List.getElem_toArray, List.getElem_cons_succ, List.getElem_cons_zero]); go_simp; try with_reducible rfl)
      try simp only [Act.put, List.getElem_toArray, List.getElem_cons_succ, List.getElem_cons_zero, List.setIfInBounds_toArray, List.set_cons_zero, List.set_cons_succ]
      refine wpAnyH_ready (rs := [12]) (by kernel_rfl) (by simp) (AllReadyH.cons rfl (fun K hK => ?_) AllReadyH.nil)
      have h0 := hHeld
      clear hHeld
      try simp only [List.getElem_toArray, List.getElem_cons_succ, List.getElem_cons_zero]
      go_simp
      refine hK.out _ _ (trivial) (fun hHeld => ?_)
      clear hK K h0
      try simp only [Act.put, List.getElem_toArray, List.getElem_cons_succ, List.getElem_cons_zero, List.setIfInBounds_toArray, List.set_cons_zero, List.set_cons_succ]
      refine wpAnyH_take (i := 13) (v := ?_) rfl (by kernel_rfl) (by kernel_rfl) (by kernel_rfl) (fun _ _ _ h => h) (Or.inl ⟨by rfl, ?_⟩) hHeld ?_
      rotate_left
      · (intro W hSw; (try dsimp only at hSw); (try simp only [List.getElem_toArray, List.getElem_cons_succ, List.getElem_cons_zero]); go_simp; try with_reducible rfl)
      try simp only [Act.put, List.getElem_toArray, List.getElem_cons_succ, List.getElem_cons_zero, List.setIfInBounds_toArray, List.set_cons_zero, List.set_cons_succ]
      refine wpAnyH_done (by kernel_rfl) ?_ _
      obtain ⟨W3, eW3⟩ : ∃ W, W = (W2.setCell ⟨g, 216, none⟩ (.int .i64 ((f : Int) + (m : Int)))).drew := ⟨_, rfl⟩
      rw [← eW3]
      have kb := KB4.out.drew
      have hg := grown_drew HG4.out
      have hP := HP4.out.grown (grown_drew (World.grownBy.refl _ (some g)))
      rw [← eW3] at kb hg hP
      clear eW3 KB4 HG4 HP4 c216 c2 hwf z2 hsl hsl2 s1
      have c3 := kb.cell 216
      rw [mc_f _ _ _ HOL.out, show ((f + m : Nat) : Int) = (f : Int) + (m : Int) by push_cast; rfl] at c3
      have hbl := HOL.out
      generalize over Bu f Y = B2 at *
      by_cases h128 : f + m = 128
      · have hbq : (((f : Int) + (m : Int)) == 128) = true := by simp; omega
        have hbs : BS W3.drew (g + 1) (some ⟨g, 88, none⟩) 128 128 B2 := ⟨hbl, Nat.le_refl _, (fun e => by cases e), fun _ => ⟨g, 88, rfl, Nat.lt_succ_self _, fun j x hx => by
          have hj : j < 128 := by have := (List.getElem?_eq_some_iff.1 hx).1; omega
          rw [kb.drew.cell, mc_B S _ _ hbl hj, hx]
          rfl⟩⟩
        have hKK : ∀ t, t < 80 → W3.drew.cell? ⟨g, 8 + t, none⟩ = some (.int .u64 ((HK.getD t 0 : Nat) : Int)) := fun t ht => by rw [kb.drew.cell]; exact mc_K S B2 _ _ ht
        have hpr := pressed_any S (some ⟨g, 88, none⟩) 128 (g + 1) B2 g 8 W3.drew hSo hbs (by have := kb.lt; exact this) kb.lt hKK
        have hTW := HTW.out h128
        obtain ⟨S', eS⟩ : ∃ q, q = press (bn B2) S := ⟨_, rfl⟩
        rw [← eS] at hpr hTW
        rw [List.append_assoc, ← HDK.out] at hTW
        have HPR := Lib.hid hpr
        have HT2 := Lib.hid hTW
        clear hpr hTW hbs hKK eS HTW HTL HDK
        have KB := Lib.hid kb
        have HG := Lib.hid hg
        have HPP := Lib.hid hP
        clear kb hg hP
        go_wp2_with (fail)
        refine wp_region_held_drew (S := fun W => True) (by kernel_rfl) ?_ (fun hHeld => ?_)
        · exact trivial
        refine wpAnyH_take (i := 0) (v := ?_) rfl (by kernel_rfl) (by kernel_rfl) (by kernel_rfl) (fun _ _ _ h => h) (Or.inl ⟨by rfl, ?_⟩) hHeld ?_
        rotate_left
        · (intro W hSw; (try dsimp only at hSw); (try simp only [List.getElem_toArray, List.getElem_cons_succ, List.getElem_cons_zero]); go_simp; try with_reducible rfl)
        try simp only [Act.put, List.getElem_toArray, List.getElem_cons_succ, List.getElem_cons_zero, List.setIfInBounds_toArray, List.set_cons_zero, List.set_cons_succ]
        refine wpAnyH_take (i := 1) (v := ?_) rfl (by kernel_rfl) (by kernel_rfl) (by kernel_rfl) (fun _ _ _ h => h) (Or.inl ⟨by rfl, ?_⟩) hHeld ?_
        rotate_left
        · (intro W hSw; (try dsimp only at hSw); (try simp only [List.getElem_toArray, List.getElem_cons_succ, List.getElem_cons_zero]); go_simp; try with_reducible rfl)
        try simp only [Act.put, List.getElem_toArray, List.getElem_cons_succ, List.getElem_cons_zero, List.setIfInBounds_toArray, List.set_cons_zero, List.set_cons_succ]
        refine wpAnyH_take (i := 2) (v := ?_) rfl (by kernel_rfl) (by kernel_rfl) (by kernel_rfl) (fun _ _ _ h => h) (Or.inl ⟨by rfl, ?_⟩) hHeld ?_
        rotate_left
        · (intro W hSw; (try dsimp only at hSw); (try simp only [List.getElem_toArray, List.getElem_cons_succ, List.getElem_cons_zero]); go_simp; try with_reducible rfl)
        try simp only [Act.put, List.getElem_toArray, List.getElem_cons_succ, List.getElem_cons_zero, List.setIfInBounds_toArray, List.set_cons_zero, List.set_cons_succ]
        refine wpAnyH_take (i := 3) (v := ?_) rfl (by kernel_rfl) (by kernel_rfl) (by kernel_rfl) (fun _ _ _ h => h) (Or.inl ⟨by rfl, ?_⟩) hHeld ?_
        rotate_left
        · (intro W hSw; (try dsimp only at hSw); (try simp only [List.getElem_toArray, List.getElem_cons_succ, List.getElem_cons_zero]); go_simp; try with_reducible rfl)
        try simp only [Act.put, List.getElem_toArray, List.getElem_cons_succ, List.getElem_cons_zero, List.setIfInBounds_toArray, List.set_cons_zero, List.set_cons_succ]
        refine wpAnyH_take (i := 4) (v := ?_) rfl (by kernel_rfl) (by kernel_rfl) (by kernel_rfl) (fun _ _ _ h => h) (Or.inl ⟨by rfl, ?_⟩) hHeld ?_
        rotate_left
        · (intro W hSw; (try dsimp only at hSw); (try simp only [List.getElem_toArray, List.getElem_cons_succ, List.getElem_cons_zero]); go_simp; try with_reducible rfl)
        try simp only [Act.put, List.getElem_toArray, List.getElem_cons_succ, List.getElem_cons_zero, List.setIfInBounds_toArray, List.set_cons_zero, List.set_cons_succ]
        refine wpAnyH_take (i := 6) (v := ?_) rfl (by kernel_rfl) (by kernel_rfl) (by kernel_rfl) (fun _ _ _ h => h) (Or.inl ⟨by rfl, ?_⟩) hHeld ?_
        rotate_left
        · (intro W hSw; (try dsimp only at hSw); (try simp only [List.getElem_toArray, List.getElem_cons_succ, List.getElem_cons_zero]); go_simp; try with_reducible rfl)
        try simp only [Act.put, List.getElem_toArray, List.getElem_cons_succ, List.getElem_cons_zero, List.setIfInBounds_toArray, List.set_cons_zero, List.set_cons_succ]
        refine wpAnyH_take (i := 7) (v := ?_) rfl (by kernel_rfl) (by kernel_rfl) (by kernel_rfl) (fun _ _ _ h => h) (Or.inl ⟨by rfl, ?_⟩) hHeld ?_
        rotate_left
        · (intro W hSw; (try dsimp only at hSw); (try simp only [List.getElem_toArray, List.getElem_cons_succ, List.getElem_cons_zero]); go_simp; try with_reducible rfl)
        try simp only [Act.put, List.getElem_toArray, List.getElem_cons_succ, List.getElem_cons_zero, List.setIfInBounds_toArray, List.set_cons_zero, List.set_cons_succ]
        refine wpAnyH_take (i := 8) (v := ?_) rfl (by kernel_rfl) (by kernel_rfl) (by kernel_rfl) (fun _ _ _ h => h) (Or.inl ⟨by rfl, ?_⟩) hHeld ?_
        rotate_left
        · (intro W hSw; (try dsimp only at hSw); (try simp only [List.getElem_toArray, List.getElem_cons_succ, List.getElem_cons_zero]); go_simp; try with_reducible rfl)
        try simp only [Act.put, List.getElem_toArray, List.getElem_cons_succ, List.getElem_cons_zero, List.setIfInBounds_toArray, List.set_cons_zero, List.set_cons_succ]
        refine wpAnyH_take (i := 9) (v := ?_) rfl (by kernel_rfl) (by kernel_rfl) (by kernel_rfl) (fun _ _ _ h => h) (Or.inl ⟨by rfl, ?_⟩) hHeld ?_
        rotate_left
        · (intro W hSw; (try dsimp only at hSw); (try simp only [List.getElem_toArray, List.getElem_cons_succ, List.getElem_cons_zero]); go_simp; try with_reducible rfl)
        try simp only [Act.put, List.getElem_toArray, List.getElem_cons_succ, List.getElem_cons_zero, List.setIfInBounds_toArray, List.set_cons_zero, List.set_cons_succ]
        refine wpAnyH_take (i := 10) (v := ?_) rfl (by kernel_rfl) (by kernel_rfl) (by kernel_rfl) (fun _ _ _ h => h) (Or.inl ⟨by rfl, ?_⟩) hHeld ?_
        rotate_left
        · (intro W hSw; (try dsimp only at hSw); (try simp only [List.getElem_toArray, List.getElem_cons_succ, List.getElem_cons_zero]); go_simp; try with_reducible rfl)
        try simp only [Act.put, List.getElem_toArray, List.getElem_cons_succ, List.getElem_cons_zero, List.setIfInBounds_toArray, List.set_cons_zero, List.set_cons_succ]
        refine wpAnyH_take (i := 11) (v := ?_) rfl (by kernel_rfl) (by kernel_rfl) (by kernel_rfl) (fun _ _ _ h => h) (Or.inl ⟨by rfl, ?_⟩) hHeld ?_
        rotate_left
        · (intro W hSw; (try dsimp only at hSw); (try simp only [List.getElem_toArray, List.getElem_cons_succ, List.getElem_cons_zero]); go_simp; try with_reducible rfl)
        try simp only [Act.put, List.getElem_toArray, List.getElem_cons_succ, List.getElem_cons_zero, List.setIfInBounds_toArray, List.set_cons_zero, List.set_cons_succ]
        refine wpAnyH_take (i := 12) (v := ?_) rfl (by kernel_rfl) (by kernel_rfl) (by kernel_rfl) (fun _ _ _ h => h) (Or.inl ⟨by rfl, ?_⟩) hHeld ?_
        rotate_left
        · (intro W hSw; (try dsimp only at hSw); (try simp only [List.getElem_toArray, List.getElem_cons_succ, List.getElem_cons_zero]); go_simp; try with_reducible rfl)
        try simp only [Act.put, List.getElem_toArray, List.getElem_cons_succ, List.getElem_cons_zero, List.setIfInBounds_toArray, List.set_cons_zero, List.set_cons_succ]
        refine wpAnyH_ready (rs := [5]) (by kernel_rfl) (by simp) (AllReadyH.cons rfl (fun K hK => ?_) AllReadyH.nil)
        clear hHeld
        try simp only [List.getElem_toArray, List.getElem_cons_succ, List.getElem_cons_zero]
        rw [if_pos (by rfl)]
        refine wp_load_st (.tmp 49) rfl g rfl KB.out.drew ?_
        refine hK.out _ _ trivial (fun hHeld => ?_)
        clear hK K
        try simp only [Act.put, List.getElem_toArray, List.getElem_cons_succ, List.getElem_cons_zero, List.setIfInBounds_toArray, List.set_cons_zero, List.set_cons_succ]
        refine wpAnyH_ready (rs := [13]) (by kernel_rfl) (by simp) (AllReadyH.cons rfl (fun K hK => ?_) AllReadyH.nil)
        clear hHeld
        try simp only [List.getElem_toArray, List.getElem_cons_succ, List.getElem_cons_zero]
        go_simp
        go_at_call 69
        refine HPR.out.mono ?_
        rintro e v ⟨rfl, hb⟩
        have kb := KB.out.drew.below hb KB.out.drew.lt
        have hg := grown_trans (grown_drew HG.out) (grown_of_below hb (some g))
        have hP := (HPP.out.grown (grown_drew (World.grownBy.refl _ (some g)))).grown (grown_of_below hb (some g))
        clear hb KB HG HPP HPR
        have KB := Lib.hid kb
        have kb2 := Blk.setCells (us S'.l).toList 0 _ _ kb
        rw [mc_setS] at kb2
        have hg2 := grown_trans hg (grown_setCells g (us S'.l).toList 0 v)
        have hP2 := hP.grown (grown_setCells g (us S'.l).toList 0 v)
        have KB2 := Lib.hid kb2
        have HG2 := Lib.hid hg2
        have HP2 := Lib.hid hP2
        clear kb kb2 hg hg2 hP hP2
        go_wp2_with (fail)
        refine hK.out _ _ trivial (fun hHeld => ?_)
        clear hK K
        try simp only [Act.put, List.getElem_toArray, List.getElem_cons_succ, List.getElem_cons_zero, List.setIfInBounds_toArray, List.set_cons_zero, List.set_cons_succ]
        refine wpAnyH_take (i := 14) (v := ?_) rfl (by kernel_rfl) (by kernel_rfl) (by kernel_rfl) (fun _ _ _ h => h) (Or.inl ⟨by rfl, ?_⟩) hHeld ?_
        rotate_left
        · (intro W hSw; (try dsimp only at hSw); (try simp only [List.getElem_toArray, List.getElem_cons_succ, List.getElem_cons_zero]); go_simp; try with_reducible rfl)
        try simp only [Act.put, List.getElem_toArray, List.getElem_cons_succ, List.getElem_cons_zero, List.setIfInBounds_toArray, List.set_cons_zero, List.set_cons_succ]
        refine wpAnyH_take (i := 15) (v := ?_) rfl (by kernel_rfl) (by kernel_rfl) (by kernel_rfl) (fun _ _ _ h => h) (Or.inl ⟨by rfl, ?_⟩) hHeld ?_
        rotate_left
        · (intro W hSw; (try dsimp only at hSw); (try simp only [List.getElem_toArray, List.getElem_cons_succ, List.getElem_cons_zero]); go_simp; try with_reducible rfl)
        try simp only [Act.put, List.getElem_toArray, List.getElem_cons_succ, List.getElem_cons_zero, List.setIfInBounds_toArray, List.set_cons_zero, List.set_cons_succ]
        refine wpAnyH_ready (rs := [16]) (by kernel_rfl) (by simp) (AllReadyH.cons rfl (fun K hK => ?_) AllReadyH.nil)
        clear hHeld
        try simp only [List.getElem_toArray, List.getElem_cons_succ, List.getElem_cons_zero]
        rw [if_pos (by rfl)]
        refine wp_store_st (.tmp 60) (.tmp 58) rfl g rfl hbl rfl KB.out ?_
        refine hK.out _ _ trivial (fun hHeld => ?_)
        clear hK K KB
        try simp only [Act.put, List.getElem_toArray, List.getElem_cons_succ, List.getElem_cons_zero, List.setIfInBounds_toArray, List.set_cons_zero, List.set_cons_succ]
        obtain ⟨W4, eW4⟩ : ∃ W, W = v.setCells g 0 (us S'.l).toList := ⟨_, rfl⟩
        rw [← eW4]
        have kb := KB2.out
        have hg := HG2.out
        have hP := HP2.out
        rw [← eW4] at kb hg hP
        clear eW4 KB2 HG2 HP2
        have c4 := kb.cell 216
        rw [mc_f _ _ _ hbl] at c4
        have z4 := kb.frozen 216
        have kb5 := kb.set_ 216 (.int .i64 ((0 : Nat) : Int))
        rw [mc_setf S' _ _ 0 hbl] at kb5
        have hg5 := grown_trans hg (grown_set W4 g 216 (.int .i64 ((0 : Nat) : Int)))
        have hP5 := hP.grown (grown_set W4 g 216 (.int .i64 ((0 : Nat) : Int)))
        rw [show ((0 : Nat) : Int) = 0 from rfl] at kb5 hg5 hP5
        have HREL : Hid (PS _ g A2 (n - (k + m)) (c - (k + m)) (l.drop (k + m)) ∧ ∃ S Bu f, Tk (X ++ l.take (k + m)) S Bu f ∧ Blk _ g 79 (mc S Bu f (xl + n)) ∧ w.grownBy _ (some g)) := Lib.hid ⟨hP5, S', B2, 0, HT2.out, kb5, hg5⟩
        clear kb kb5 hg hg5 hP hP5
        refine wpAnyH_take (i := 17) (v := ?_) rfl (by kernel_rfl) (by kernel_rfl) (by kernel_rfl) (fun _ _ _ h => h) (Or.inl ⟨by rfl, ?_⟩) hHeld ?_
        rotate_left
        · (intro W hSw; (try dsimp only at hSw); (try simp only [List.getElem_toArray, List.getElem_cons_succ, List.getElem_cons_zero]); go_simp; try with_reducible rfl)
        try simp only [Act.put, List.getElem_toArray, List.getElem_cons_succ, List.getElem_cons_zero, List.setIfInBounds_toArray, List.set_cons_zero, List.set_cons_succ]
        refine wpAnyH_take (i := 18) (v := ?_) rfl (by kernel_rfl) (by kernel_rfl) (by kernel_rfl) (fun _ _ _ h => h) (Or.inl ⟨by rfl, ?_⟩) hHeld ?_
        rotate_left
        · (intro W hSw; (try dsimp only at hSw); (try simp only [List.getElem_toArray, List.getElem_cons_succ, List.getElem_cons_zero]); go_simp; try with_reducible rfl)
        try simp only [Act.put, List.getElem_toArray, List.getElem_cons_succ, List.getElem_cons_zero, List.setIfInBounds_toArray, List.set_cons_zero, List.set_cons_succ]
        refine wpAnyH_ready (rs := [19]) (by kernel_rfl) (by simp) (AllReadyH.cons rfl (fun K hK => ?_) AllReadyH.nil)
        have h0 := hHeld
        clear hHeld
        try simp only [List.getElem_toArray, List.getElem_cons_succ, List.getElem_cons_zero]
        go_simp
        refine hK.out _ _ (trivial) (fun hHeld => ?_)
        clear hK K h0
        try simp only [Act.put, List.getElem_toArray, List.getElem_cons_succ, List.getElem_cons_zero, List.setIfInBounds_toArray, List.set_cons_zero, List.set_cons_succ]
        refine wpAnyH_done (by kernel_rfl) ?_ _
        go_wp2_with (fail)
        go_round
        case rel => exact ⟨k + m, A2, by omega, by rw [Nat.sub_sub, Nat.sub_sub], HREL.out.1, HREL.out.2⟩
        case measure => simp [lenV]; omega
      · have HREL : Hid (PS W3 g A2 (n - (k + m)) (c - (k + m)) (l.drop (k + m)) ∧ ∃ S Bu f, Tk (X ++ l.take (k + m)) S Bu f ∧ Blk W3 g 79 (mc S Bu f (xl + n)) ∧ w.grownBy W3 (some g)) := Lib.hid ⟨hP, S, B2, f + m, by rw [HDK.out, ← List.append_assoc]; exact HTL.out (by omega), kb, hg⟩
        have hbq : (((f : Int) + (m : Int)) == 128) = false := by simp; omega
        clear kb hg hP HTL HTW HDK HOL
        go_wp2_with (fail)
        go_round
        case rel => exact ⟨k + m, A2, by omega, by rw [Nat.sub_sub, Nat.sub_sub], HREL.out.1, HREL.out.2⟩
        case measure => simp [lenV]; omega
    · have hfi := hfin (by omega)
      rw [hfi] at hT
      have hxn : (X ++ l).length = xl + n := by rw [List.length_append, hXl, HLN.out]
      have hq0 : ¬ 0 < n - k := by omega
      have HR : Hid (∃ S Bu f, Tk (X ++ l) S Bu f ∧ Blk wr g 79 (mc S Bu f (X ++ l).length) ∧ w.grownBy wr (some g)) := Lib.hid ⟨S, Bu, f, hT, by rw [hxn]; exact hb, hgr⟩
      clear hfi hT hb hgr hfin hxn hdk hdd hn1 hn2
      go_wp2_with (fail)
      go_end0
      exact ⟨rfl, HR.out⟩
end Go.Proofs.YtpagiffbjofihaaDoor.Sha
namespace Go.Proofs.YtpagiffbjofihaaDoor.Sha
set_option linter.unusedVariables false
set_option linter.unusedSimpArgs false
open Go Go.RowKit
def zm : Array Value := (List.replicate 88 (Value.int .u64 0) ++ (List.replicate 128 (Value.int .u8 0) ++ [Value.int .i64 0, Value.int .u64 0])).toArray
theorem zm_size : zm.size = 218 := by kernel_rfl
theorem zero_msg (w : World) : (zeroValue 79).run Tryd.prog w = .ok (.agg zm) w := by kernel_rfl
theorem build_msg (w : World) : (Instr.build 79 #[(0, .agg (us HS)), (1, .agg (us HK))]).run Tryd.prog w = .ok (.agg (mc H0 (List.replicate 128 0) 0 0)) w := by kernel_rfl
theorem size_msg : (Tryd.prog.info? 79).map (·.size) = some 218 := by kernel_rfl
theorem mc_size {S : S8} {Bu : List UInt8} {f n : Nat} (h : Bu.length = 128) : (mc S Bu f n).size = 218 := by unfold mc; rw [List.size_toArray]; exact mcL_len h
theorem Tk.start : Tk [] H0 (List.replicate 128 0) 0 := ⟨by simp, rfl, rfl, rfl⟩
theorem PS.ofBlk {W : World} {g gp : Nat} {t : TypeId} {P : List Nat} (h : Blk W gp t (ncs .u8 P)) (hne : gp ≠ g) (hP : ∀ x ∈ P, x < 256) : PS W g (some ⟨gp, 0, none⟩) P.length P.length (P.map UInt8.ofNat) :=
  ⟨by simp, Nat.le_refl _, (fun e => by cases e), fun hn => ⟨gp, 0, rfl, hne, h.lt, fun j x hx => by
    rw [List.getElem?_map] at hx
    cases hy : P[j]? with
    | none => rw [hy] at hx; cases hx
    | some y =>
      rw [hy] at hx
      injection hx with hx
      have hy8 := hP y (List.mem_of_getElem? hy)
      rw [h.cell, Nat.zero_add, ncs_get, hy, ← hx, UInt8.toNat_ofNat', Nat.mod_eq_of_lt hy8]
      rfl⟩⟩
theorem bn_ofNat {P : List Nat} (h : ∀ x ∈ P, x < 256) : bn (P.map UInt8.ofNat) = P := by
  unfold bn
  rw [List.map_map]
  calc _ = P.map id := List.map_congr_left fun x hx => by
        simp only [Function.comp_def, UInt8.toNat_ofNat', id]
        exact Nat.mod_eq_of_lt (h x hx)
    _ = P := List.map_id _
theorem b8_lt (x : Nat) : ∀ y ∈ b8 x, y < 256 := by
  intro y hy
  simp only [b8, List.mem_cons, List.not_mem_nil, or_false] at hy
  rcases hy with rfl | rfl | rfl | rfl | rfl | rfl | rfl | rfl <;> exact Nat.mod_lt _ (by omega)
theorem pad_lt (n : Nat) : ∀ y ∈ pad n, y < 256 := by
  intro y hy
  simp only [pad, List.mem_cons, List.mem_append] at hy
  rcases hy with rfl | hy | hy | hy
  · omega
  · rw [(List.mem_replicate.1 hy).2]; omega
  · exact b8_lt _ _ hy
  · exact b8_lt _ _ hy
/-- A message behind its padding. -/
theorem Tk.end_ {X : List UInt8} {S : S8} {Bu : List UInt8} {f : Nat} (h : Tk (X ++ (pad X.length).map UInt8.ofNat) S Bu f) : S = hashS (bn X) := by
  have h3 := h.st
  rw [bn_append, bn_ofNat (pad_lt _), List.length_append, List.length_map] at h3
  rw [h3, hashS, full, bn_len, List.length_append, bn_len]
theorem mc_load {W : World} {g : Nat} {t : TypeId} {S : S8} {Bu : List UInt8} {f n : Nat} (hb : Blk W g t (mc S Bu f n)) : W.rangeAt g 0 (us S.l).toList := fun j v hv => by
  rw [hb.cell, Nat.zero_add, mc_at, mcL, List.getElem?_append_left (by have := (List.getElem?_eq_some_iff.1 hv).1; rw [sl_len]; exact this)]
  exact hv
theorem wpList_load_st {ops : Array Oper} {rest : List Oper} {op : Oper} {a : Act} {w : World} {Q : Exit → Act → World → Prop} (hgd : op.guard = none) (x : Operand) (ho : op.op = .load 73 x) (g : Nat) (hx : a.eval x = .pointer (some ⟨g, 0, none⟩)) {t : TypeId} {S : S8} {Bu : List UInt8} {f n : Nat}
    (hb : Blk w g t (mc S Bu f n)) (h : wpList Tryd.prog ops Q rest (a.put op.dst (.agg (us S.l))) w) : wpList Tryd.prog ops Q (op :: rest) a w :=
  wpList_load_mid hgd 73 x ho g 0 hx (us S.l).toList _ (mc_load hb) Tryd.underlying73 rfl size_hst h
theorem hash_def (X : List Nat) : hashN X = outS (hashS X) := rfl
theorem outS_len (S : S8) : (outS S).length = 64 := rfl
theorem wpList_run {P : Program} {ops : Array Oper} {rest : List Oper} {op : Oper} {a : Act} {w : World} {Q : Exit → Act → World → Prop} (hgd : op.guard = none) (v : Value) (h : (execOp a.eval op).run P w = .ok (.value v) w)
    (k : wpList P ops Q rest (a.put op.dst v) w) : wpList P ops Q (op :: rest) a w :=
  wpList_plain hgd fun _ hK => by
    unfold Oper.wp
    rw [h]
    exact hK _ _ k
theorem build_step {a : Act} {op : Oper} {x y : Operand} (ho : op.op = .build 79 #[(0, x), (1, y)]) (hx : a.eval x = .agg (us HS)) (hy : a.eval y = .agg (us HK)) (w : World) : (execOp a.eval op).run Tryd.prog w = .ok (.value (.agg (mc H0 (List.replicate 128 0) 0 0))) w := by
  simp [execOp, ho, hx, hy, build_msg, Result.andThen]
attribute [local irreducible] mc mcL over press blocks HK HS be outS pad hashS hashN zm H0
set_option maxRecDepth 100000 in
set_option maxHeartbeats 4000000 in
theorem sum_any (A : Option Addr) (n c B : Nat) (L : List (List UInt8)) (w : World) (hp : PM w) (hl : RS w B A n c L) (hBw : B ≤ w.heap.size) (hX : L.flatten.length < 1000000000) (hnn : n < 1000000) :
    Calls Tryd.prog 21 #[.slice A n c] w (BytesRow (hashN (bn L.flatten)) w) := by
  have hz64 : ∀ W : World, (zeroValue 27).run Tryd.prog W = .ok (.agg (ncs .u8 z64)) W := zero_long
  have hzm : ∀ W : World, (zeroValue 79).run Tryd.prog W = .ok (.agg zm) W := zero_msg
  have f0 := (Fr.start w).any (ncs .u8 z64) 27 64 (by rw [ncs_size, z64_len]) (g := w.heap.size) rfl
  have F0 := Lib.hid f0
  have HP := Lib.hid hp
  have HL := Lib.hid hl
  rw [hash_def]
  obtain ⟨R, hR⟩ : ∃ R, R = outS (hashS (bn L.flatten)) := ⟨_, rfl⟩
  rw [← hR]
  have HR := Lib.hid hR
  have hln := hl.len
  have HLN := Lib.hid hln
  clear f0 hp hl hR hln
  obtain ⟨Z, hZ⟩ : ∃ Z : List UInt8, Z = List.replicate 128 0 := ⟨_, rfl⟩
  have hZl : Z.length = 128 := by rw [hZ]; simp
  have HT0 := Lib.hid (show Tk [] H0 Z 0 by rw [hZ]; exact Tk.start)
  have HZZ := Lib.hid hZ
  clear hZ
  go_enter Tryd.func21, Tryd.ntmps21
  go_wp2_with (fail)
  refine (starts_any _ (F0.out.pm HP.out)).mono ?_
  rintro e v1 ⟨rfl, hb⟩
  have F1 := Lib.hid (F0.out.ext hb)
  clear hb F0
  go_wp2_with (fail)
  refine (constants_any _ (F1.out.pm HP.out)).mono ?_
  rintro e v2 ⟨rfl, hb⟩
  have f2 := F1.out.ext hb
  have hv : w.heap.size < v2.heap.size := by
    obtain ⟨_, _, k⟩ := f2.old (g := w.heap.size) (t := 27) (n := 64) (by simp)
    exact k.lt
  have f3 := f2.row zm 79 rfl
  generalize hgm : v2.heap.size = gm at *
  have km := f3.get (g := gm) (t := 79) (cs := zm) (by simp)
  have f4 := f3.setRowHead (by simp) (by simp <;> omega) (mc H0 Z 0 0) (by omega)
  have F4 := Lib.hid f4
  have HI := Lib.hid (show (Tryd.prog.info? 79).map (·.size) = some (mc H0 Z 0 0).size by rw [mc_size hZl]; exact size_msg)
  have HZ := Lib.hid (show zm.size = (mc H0 Z 0 0).size by rw [mc_size hZl, zm_size])
  clear hb F1 f2 f3 f4
  go_wp2_with (first | (refine wpList_run rfl (.agg (mc H0 Z 0 0)) (by rw [HZZ.out]; exact build_step rfl rfl rfl _) ?_) | (refine wpList_store_row rfl 79 (.tmp 3) (.tmp 8) rfl gm (mc H0 Z 0 0) rfl rfl 79 _ km HI.out HZ.out (mc_one _ _ _ _) ?_))
  clear km HI HZ hzm hz64
  go_loopw [11] (fun i wr => ∃ k : Nat, k ≤ n ∧ i = .int .i64 k ∧ ∃ S Bu f, Tk (flat L k) S Bu f ∧ Fr w wr [(gm, 79, mc S Bu f (flat L k).length)] [(w.heap.size, 27, 64)]) (fun i _ => n - (intOf i).toNat)
  case atStart => exact ⟨0, by omega, rfl, H0, Z, 0, HT0.out, F4.out⟩
  case round =>
    clear F4 HT0 HZZ
    obtain ⟨k, hk, rfl, S, Bu, f, hT, hF⟩ := hrel
    have HT := Lib.hid hT
    have HF := Lib.hid hF
    have hfl := flat_le L k
    have HFL := Lib.hid hfl
    clear hT hF hfl
    by_cases hlt : k < n
    · obtain ⟨b, o, l, Aj, nj, cj, rfl, hbB, hx, hc, hbs⟩ := (HL.out.below (HF.out.below.mono hBw)).at' hlt
      have hst := flat_step hx
      have hfl2 := flat_le L (k + 1)
      rw [hst, List.length_append] at hfl2
      have km := HF.out.get (g := gm) (t := 79) (cs := mc S Bu f (flat L k).length) (by simp)
      have htk := take_any (flat L k) l S Bu f gm Aj nj cj wr HT.out km (PS.ofBS hbs (by omega) (by have := HF.out.size; omega)) (by omega)
      rw [← hst] at htk
      have HTK := Lib.hid htk
      clear hst hfl2 km htk hbs hx
      go_wp2_with (fail)
      refine HTK.out.mono ?_
      rintro e v ⟨rfl, S', Bu', f', hT', hb', hg'⟩
      have f2 := HF.out.grownHead hg' hb' (by omega) (by simp) (by simp <;> omega)
      have F2 := Lib.hid f2
      have HT2 := Lib.hid hT'
      clear f2 hT' hb' hg' HF HT HTK
      go_wp2_with (fail)
      go_round
      case rel => exact ⟨k + 1, by omega, by go_num, S', Bu', f', HT2.out, F2.out⟩
      case measure => simp [intOf]; omega
    · obtain rfl : k = n := by omega
      have hfa := flat_all HLN.out
      have hT := HT.out
      have hF := HF.out
      rw [hfa] at hT hF
      have hF0 := hF
      have km := hF.get (g := gm) (t := 79) (cs := mc S Bu f L.flatten.length) (by simp)
      have c217 : wr.cell? ⟨gm, 217, none⟩ = some (.int .u64 (L.flatten.length : Int)) := by rw [km.cell, mc_n S f _ hT.len]
      have HT := Lib.hid hT
      have HF := Lib.hid hF0
      clear hfa hT hF hF0 km HFL
      generalize hXl : L.flatten.length = xl at *
      have HXL := Lib.hid hXl
      clear hXl
      go_wp2_with (fail)
      refine (padding_any xl _ (by omega)).mono ?_
      rintro e v1 ⟨rfl, kp, hb⟩
      have f1 := HF.out.ext hb
      have hgr : gm < wr.heap.size := (HF.out.get (g := gm) (t := 79) (cs := mc S Bu f xl) (by simp)).lt
      have k1 := f1.get (g := gm) (t := 79) (cs := mc S Bu f xl) (by simp)
      have hpl := pad_len xl
      have hpp : padL xl ≤ 300 := by rcases padL_cases xl with h | h <;> omega
      have hps := PS.ofBlk (g := gm) kp (by omega) (pad_lt xl)
      rw [← HXL.out] at k1
      have htk := take_any L.flatten _ S Bu f gm _ _ _ v1 HT.out k1 hps (by rw [List.length_map, HXL.out]; omega)
      have HTK := Lib.hid htk
      have F1 := Lib.hid f1
      clear htk hps k1 f1 hb kp hpl hpp c217 HF HT
      go_wp2_with (fail)
      refine HTK.out.mono ?_
      rintro e v2 ⟨rfl, S', Bu', f', hT', hb', hg'⟩
      have f2 := F1.out.grownHead hg' hb' (by omega) (by simp) (by simp <;> omega)
      have km := hb'
      rw [← HXL.out] at hT'
      have hS := hT'.end_
      have hR2 := HR.out
      rw [← hS] at hR2
      have hSo := hT'.ok
      have HR2 := Lib.hid hR2
      have F2 := Lib.hid f2
      clear f2 hT' hb' hg' hS hR2 F1 HTK HR
      go_wp2_with (first | (refine wpList_load_st rfl (.tmp 22) rfl gm rfl km ?_))
      refine (hash_any S' _ hSo).mono ?_
      rintro e v3 ⟨rfl, hb⟩
      rw [← HR2.out]
      have f3 := F2.out.ext hb
      have hRl : R.length = 64 := by rw [HR2.out]; exact outS_len S'
      obtain ⟨old, ho, k0⟩ := f3.old (g := w.heap.size) (t := 27) (n := 64) (by simp)
      have kS := k0.setRow_same (ncs .u8 R)
      have hB := below_setRow f3.below (Nat.le_refl _) (ncs .u8 R)
      have KS := Lib.hid kS
      have HB := Lib.hid hB
      have HO := Lib.hid (show old.size = (ncs .u8 R).size by rw [ho, ncs_size, hRl])
      have HI := Lib.hid (show (Tryd.prog.info? 27).map (·.size) = some (ncs .u8 R).size by rw [ncs_size, hRl]; exact size_long)
      clear f3 kS hB ho hb km F2 HR2
      go_wp2_with (first | (refine wpList_store_row rfl 27 (.tmp 2) (.tmp 24) rfl (w.heap.size) (ncs .u8 R) rfl rfl 27 old k0 HI.out HO.out (ncs_one _ _) ?_))
      exact bodyPost_ret (results_cell_row rfl _ _ (w.heap.size) 27 (ncs .u8 R) (0, 0) _ rfl KS.out Tryd.underlying27 rfl HI.out) rfl ⟨rfl, HB.out⟩
end Go.Proofs.YtpagiffbjofihaaDoor.Sha
namespace Go.Proofs.YtpagiffbjofihaaDoor
set_option linter.unusedVariables false
set_option linter.unusedSimpArgs false
open Go Go.RowKit
abbrev Env := List (Nat × Value)
abbrev Hep := List (Nat × TypeId × Array Value)
/-- In a, of n slots, the slots of e hold these values; in w, that came of w0, the blocks of h hold these rows. -/
structure St (n : Nat) (w0 : World) (a : Act) (w : World) (e : Env) (h : Hep) : Prop where
  size : a.tmps.size = n
  defers : a.defers = []
  env : ∀ p ∈ e, a.tmps[p.1]? = some p.2
  below : Below w0.heap.size w0 w
  heap : ∀ p ∈ h, Blk w p.1 p.2.1 p.2.2
  own : ∀ p ∈ h, w0.heap.size ≤ p.1
  apart : h.Pairwise (fun p q => p.1 ≠ q.1)
/-- An operand's value, by the slots that are known. -/
def look : Env → Nat → Option Value
  | [], _ => none
  | p :: r, k => bif Nat.beq p.1 k then some p.2 else look r k
def sev (e : Env) : Operand → Option Value
  | .tmp k => look e k
  | .const v => some v
  | .global g => some (.pointer (some ⟨g, 0, none⟩))
  | .func f => some (.func (.func f) #[] #[])
def sevs (e : Env) : List Operand → Option (List Value)
  | [] => some []
  | x :: r => match sev e x, sevs e r with
    | some v, some vs => some (v :: vs)
    | _, _ => none
theorem look_mem {e : Env} {k : Nat} {v : Value} (h : look e k = some v) : (k, v) ∈ e := by
  induction e with
  | nil => cases h
  | cons p r ih =>
    unfold look at h
    cases hb : Nat.beq p.1 k with
    | true =>
      rw [hb] at h
      have hk := Nat.eq_of_beq_eq_true hb
      injection h with h
      subst h
      subst hk
      exact List.mem_cons_self
    | false =>
      rw [hb] at h
      exact List.mem_cons_of_mem _ (ih h)
section
variable {P : Program} {n : Nat} {w0 w w' : World} {a : Act} {e : Env} {h : Hep} {Q : Exit → Act → World → Prop} {ops : Array Oper} {rest : List Oper} {o : Oper}
theorem St.slot (H : St n w0 a w e h) {k : Nat} {v : Value} (hv : look e k = some v) : a.tmps[k]? = some v := H.env _ (look_mem hv)
theorem St.ev (H : St n w0 a w e h) {x : Operand} {v : Value} (hv : sev e x = some v) : a.eval x = v := by
  cases x with
  | tmp k =>
    have := H.slot hv
    simp [Act.eval, this]
  | const u => exact Option.some.inj hv
  | global g => exact Option.some.inj hv
  | func f => exact Option.some.inj hv
theorem St.evs (H : St n w0 a w e h) : ∀ {xs : List Operand} {vs : List Value}, sevs e xs = some vs → xs.map a.eval = vs
  | [], vs, hv => Option.some.inj hv
  | x :: r, vs, hv => by
    unfold sevs at hv
    cases h1 : sev e x with
    | none => rw [h1] at hv; cases hv
    | some v =>
      cases h2 : sevs e r with
      | none => rw [h1, h2] at hv; cases hv
      | some us =>
        rw [h1, h2] at hv
        injection hv with hv
        rw [List.map_cons, H.ev h1, H.evs h2, hv]
/-- Beginning: the arguments' slots. -/
def fills : Nat → List Value → Env
  | _, [] => []
  | k, v :: r => (k, v) :: fills (k + 1) r
theorem fills_get {k : Nat} {vs : List Value} {p : Nat × Value} (hp : p ∈ fills k vs) : ∃ j, p.1 = k + j ∧ vs[j]? = some p.2 := by
  induction vs generalizing k with
  | nil => cases hp
  | cons v r ih =>
    rcases List.mem_cons.1 hp with rfl | hp
    · exact ⟨0, rfl, rfl⟩
    · obtain ⟨j, h1, h2⟩ := ih hp
      exact ⟨j + 1, by omega, h2⟩
theorem St.start (vs : List Value) (n : Nat) (w : World) (hn : vs.length ≤ n) : St n w { tmps := vs.toArray ++ Array.replicate (n - vs.toArray.size) undef, defers := [] } w (fills 0 vs) [] := by
  refine ⟨?_, rfl, fun p hp => ?_, Below.refl _ _, (fun p hp => by cases hp), (fun p hp => by cases hp), List.Pairwise.nil⟩
  · simp
    omega
  · obtain ⟨j, h1, h2⟩ := fills_get hp
    have hj : j < vs.length := (List.getElem?_eq_some_iff.1 h2).1
    rw [h1, Nat.zero_add]
    dsimp only
    rw [Array.getElem?_append_left (by simpa using hj)]
    simpa using h2
/-- A function's body. -/
theorem calls_st {f : FuncId} {fn : Func} {c : Code} {vs : List Value} {R : Ending → World → Prop} (n : Nat) (hf : P.funcs[f]? = some fn) (hb : fn.body = some c) (hn : fn.ntmps = n) (hl : Nat.ble vs.length n = true)
    (hc : ∀ a W, St n w a W (fills 0 vs) [] → c.wp P (bodyPost P fn R) a W) : Calls P f vs.toArray w R := by
  subst hn
  exact calls_of_wp hf hb (hc _ _ (St.start vs _ w (Nat.le_of_ble_eq_true hl)))
theorem St.put (H : St n w0 a w e h) {d : Nat} (v : Value) (hd : Nat.blt d n = true) (hf : e.all (fun p => !Nat.beq p.1 d) = true) : St n w0 (a.put (some d) v) w ((d, v) :: e) h := by
  have hd' : d < a.tmps.size := by rw [H.size]; simpa [Nat.blt_eq] using hd
  refine ⟨by simp [Act.put, H.size], H.defers, fun p hp => ?_, H.below, H.heap, H.own, H.apart⟩
  rcases List.mem_cons.1 hp with rfl | hp
  · show (a.tmps.setIfInBounds d v)[d]? = some v
    simp [hd']
  · have hne : d ≠ p.1 := by
      have := List.all_eq_true.1 hf p hp
      intro e1
      rw [e1, Nat.beq_refl] at this
      cases this
    show (a.tmps.setIfInBounds d v)[p.1]? = some p.2
    rw [Array.getElem?_setIfInBounds_ne hne]
    exact H.env p hp
theorem St.call (H : St n w0 a w e h) (hb : Below w.heap.size w w') : St n w0 a w' e h :=
  ⟨H.size, H.defers, H.env, H.below.trans (hb.mono H.below.size), fun p hp => (H.heap p hp).below hb (H.heap p hp).lt, H.own, H.apart⟩
theorem St.drew (H : St n w0 a w e h) : St n w0 a w.drew e h := ⟨H.size, H.defers, H.env, H.below.drew, H.heap, H.own, H.apart⟩
theorem St.alloc (H : St n w0 a w e h) (cs : Array Value) (t : TypeId) : St n w0 a (w.alloc (.cells cs t)) e ((w.heap.size, t, cs) :: h) := by
  refine ⟨H.size, H.defers, H.env, H.below.alloc H.below.size _, fun p hp => ?_, fun p hp => ?_, List.pairwise_cons.2 ⟨fun p hp => ?_, H.apart⟩⟩
  · rcases List.mem_cons.1 hp with rfl | hp
    · exact Blk.new _ _ _
    · exact (H.heap p hp).alloc _
  · rcases List.mem_cons.1 hp with rfl | hp
    · exact H.below.size
    · exact H.own p hp
  · exact Nat.ne_of_gt (H.heap p hp).lt
theorem setAt_mem {h : Hep} {k : Nat} {x : Nat × TypeId × Array Value} {p : Nat × TypeId × Array Value} (hp : p ∈ h.set k x) : p = x ∨ ∃ j, j ≠ k ∧ h[j]? = some p := by
  obtain ⟨j, hj⟩ := List.mem_iff_getElem?.1 hp
  by_cases e : j = k
  · subst e
    left
    have hl : j < h.length := by
      have := (List.getElem?_eq_some_iff.1 hj).1
      simpa using this
    rw [List.getElem?_set_self hl] at hj
    exact (Option.some.inj hj).symm
  · right
    exact ⟨j, e, by rw [List.getElem?_set_ne (Ne.symm e)] at hj; exact hj⟩
theorem pw_ne {h : Hep} (hp : h.Pairwise (fun p q => p.1 ≠ q.1)) {i j : Nat} (hij : i ≠ j) {x y : Nat × TypeId × Array Value} (hx : h[i]? = some x) (hy : h[j]? = some y) : x.1 ≠ y.1 := by
  obtain ⟨hi, rfl⟩ := List.getElem?_eq_some_iff.1 hx
  obtain ⟨hj, rfl⟩ := List.getElem?_eq_some_iff.1 hy
  rcases Nat.lt_or_ge i j with hl | hl
  · exact List.pairwise_iff_getElem.1 hp i j hi hj hl
  · exact Ne.symm (List.pairwise_iff_getElem.1 hp j i hj hi (by omega))
theorem pw_of {h : Hep} (hp : ∀ (i j : Nat) (x y : Nat × TypeId × Array Value), i < j → h[i]? = some x → h[j]? = some y → x.1 ≠ y.1) : h.Pairwise (fun p q => p.1 ≠ q.1) :=
  List.pairwise_iff_getElem.2 fun i j hi hj hl => hp i j _ _ hl (List.getElem?_eq_getElem hi) (List.getElem?_eq_getElem hj)
/-- A block's row is written, whatever of it: f is what becomes of a world, c what the row becomes. -/
theorem St.write (H : St n w0 a w e h) {k g : Nat} {t : TypeId} {cs c : Array Value} (hk : h[k]? = some (g, t, cs)) (hs : Blk w' g t c) (hb : Below w0.heap.size w0 w') (ho : ∀ (b : Nat) (t' : TypeId) (d : Array Value), b ≠ g → Blk w b t' d → Blk w' b t' d) :
    St n w0 a w' e (h.set k (g, t, c)) := by
  refine ⟨H.size, H.defers, H.env, hb, fun p hp => ?_, fun p hp => ?_, pw_of fun i j x y hl hx hy => ?_⟩
  · rcases setAt_mem hp with rfl | ⟨j, hj, hp⟩
    · exact hs
    · exact ho _ _ _ (pw_ne H.apart hj hp hk) (H.heap p (List.mem_iff_getElem?.2 ⟨j, hp⟩))
  · rcases setAt_mem hp with rfl | ⟨j, hj, hp⟩
    · exact H.own (g, t, cs) (List.mem_iff_getElem?.2 ⟨k, hk⟩)
    · exact H.own p (List.mem_iff_getElem?.2 ⟨j, hp⟩)
  · have fst : ∀ (m : Nat) (z : Nat × TypeId × Array Value), (h.set k (g, t, c))[m]? = some z → ∃ u : Nat × TypeId × Array Value, h[m]? = some u ∧ u.1 = z.1 := by
      intro m z hz
      by_cases e1 : m = k
      · subst e1
        have hl : m < h.length := (List.getElem?_eq_some_iff.1 hk).1
        rw [List.getElem?_set_self hl] at hz
        exact ⟨_, hk, by rw [← Option.some.inj hz]⟩
      · rw [List.getElem?_set_ne (Ne.symm e1)] at hz
        exact ⟨_, hz, rfl⟩
    obtain ⟨u, hu, eu⟩ := fst i x hx
    obtain ⟨v, hv, ev⟩ := fst j y hy
    rw [← eu, ← ev]
    exact pw_ne H.apart (by omega) hu hv
theorem St.setRow (H : St n w0 a w e h) {k g : Nat} {t : TypeId} {cs : Array Value} (hk : h[k]? = some (g, t, cs)) (c : Array Value) : St n w0 a (w.setRow g c) e (h.set k (g, t, c)) := by
  have hm : (g, t, cs) ∈ h := List.mem_iff_getElem?.2 ⟨k, hk⟩
  exact H.write hk ((H.heap _ hm).setRow_same c) (below_setRow H.below (H.own _ hm) c) (fun b t' d hne hb => hb.setRow_other hne c)
/-- Cells that are written one after another. -/
def setV (cs : Array Value) (o : Nat) : List Value → Array Value
  | [] => cs
  | v :: r => setV (cs.setIfInBounds o v) (o + 1) r
theorem Blk.setV {g : Nat} {t : TypeId} : ∀ (vs : List Value) (o : Nat) (cs : Array Value) (W : World), Blk W g t cs → Blk (W.setCells g o vs) g t (setV cs o vs)
  | [], _, _, _, h => h
  | v :: r, o, cs, W, h => Blk.setV r (o + 1) _ _ (h.set_ o v)
theorem Blk.setCells_other {g b : Nat} {t : TypeId} {d : Array Value} (hne : b ≠ g) : ∀ (vs : List Value) (o : Nat) (W : World), Blk W b t d → Blk (W.setCells g o vs) b t d
  | [], _, _, h => h
  | v :: r, o, W, h => Blk.setCells_other hne r (o + 1) _ (h.far hne v)
theorem below_setCells {B g : Nat} {w0 : World} (hg : B ≤ g) : ∀ (vs : List Value) (o : Nat) (W : World), Below B w0 W → Below B w0 (W.setCells g o vs)
  | [], _, _, h => h
  | v :: r, o, W, h => below_setCells hg r (o + 1) _ (h.setCell hg v)
theorem St.setCells (H : St n w0 a w e h) {k g : Nat} {t : TypeId} {cs c : Array Value} (hk : h[k]? = some (g, t, cs)) (o : Nat) (vs : List Value) (hc : setV cs o vs = c) : St n w0 a (w.setCells g o vs) e (h.set k (g, t, c)) := by
  have hm : (g, t, cs) ∈ h := List.mem_iff_getElem?.2 ⟨k, hk⟩
  subst hc
  exact H.write hk (Blk.setV vs o cs w (H.heap _ hm)) (below_setCells (H.own _ hm) vs o w H.below) (fun b t' d hne hb => Blk.setCells_other hne vs o w hb)
/-- What is known may be told otherwise, or in part. -/
theorem St.sub (H : St n w0 a w e h) {e' : Env} {h' : Hep} (he : ∀ p ∈ e', p ∈ e) (hh : ∀ p ∈ h', p ∈ h) (hp : h'.Pairwise (fun p q => p.1 ≠ q.1)) : St n w0 a w e' h' :=
  ⟨H.size, H.defers, fun p hp => H.env p (he p hp), H.below, fun p hp => H.heap p (hh p hp), fun p hp => H.own p (hh p hp), hp⟩
def picks {α : Type} (l : List α) : List Nat → List α
  | [] => []
  | k :: r => match l[k]? with
    | some x => x :: picks l r
    | none => picks l r
theorem picks_get {α : Type} {l : List α} {ks : List Nat} {x : α} (hx : x ∈ picks l ks) : ∃ k ∈ ks, l[k]? = some x := by
  induction ks with
  | nil => cases hx
  | cons k r ih =>
    unfold picks at hx
    cases hk : l[k]? with
    | none =>
      rw [hk] at hx
      obtain ⟨j, hj, e⟩ := ih hx
      exact ⟨j, List.mem_cons_of_mem _ hj, e⟩
    | some y =>
      rw [hk] at hx
      rcases List.mem_cons.1 hx with rfl | hx
      · exact ⟨k, List.mem_cons_self, hk⟩
      · obtain ⟨j, hj, e⟩ := ih hx
        exact ⟨j, List.mem_cons_of_mem _ hj, e⟩
def rises : List Nat → Bool
  | [] => true
  | k :: r => r.all (fun j => Nat.blt k j) && rises r
theorem picks_pw {l : Hep} (hl : l.Pairwise (fun p q => p.1 ≠ q.1)) : ∀ {ks : List Nat}, rises ks = true → (picks l ks).Pairwise (fun p q => p.1 ≠ q.1)
  | [], _ => List.Pairwise.nil
  | k :: r, hr => by
    unfold rises at hr
    rw [Bool.and_eq_true] at hr
    unfold picks
    cases hk : l[k]? with
    | none => exact picks_pw hl hr.2
    | some y =>
      refine List.pairwise_cons.2 ⟨fun p hp => ?_, picks_pw hl hr.2⟩
      obtain ⟨j, hj, e⟩ := picks_get hp
      have := List.all_eq_true.1 hr.1 j hj
      rw [Nat.blt_eq] at this
      exact pw_ne hl (by omega) hk e
theorem St.pick (H : St n w0 a w e h) (es hs : List Nat) (hr : rises hs = true) : St n w0 a w (picks e es) (picks h hs) := by
  refine H.sub (fun p hp => ?_) (fun p hp => ?_) (picks_pw H.apart hr)
  · obtain ⟨k, _, hk⟩ := picks_get hp
    exact List.mem_iff_getElem?.2 ⟨k, hk⟩
  · obtain ⟨k, _, hk⟩ := picks_get hp
    exact List.mem_iff_getElem?.2 ⟨k, hk⟩
/-- It comes to the value v, and leaves what was there. -/
def Does (P : Program) (Q : Exit → Act → World → Prop) (n : Nat) (w0 : World) (e : Env) (h : Hep) (o : Oper) (v : Value) : Prop :=
  ∀ a w, St n w0 a w e h → o.wp P a w (fun a' w' => a' = a.put o.dst v ∧ Below w.heap.size w w') Q
/-- It comes to the value v, and to nothing else. -/
def Runs (P : Program) (n : Nat) (e : Env) (h : Hep) (o : Oper) (v : Value) : Prop := ∀ w0 a w, St n w0 a w e h → (execOp a.eval o).run P w = .ok (.value v) w
theorem Runs.does {v : Value} (hr : Runs P n e h o v) : Does P Q n w0 e h o v := fun a w H => by
  unfold Oper.wp
  rw [hr w0 a w H]
  exact ⟨rfl, Below.refl _ _⟩
theorem does_run {v : Value} (hv : ∀ a w, St n w0 a w e h → (execOp a.eval o).run P w = .ok (.value v) w) : Does P Q n w0 e h o v := fun a w H => by
  unfold Oper.wp
  rw [hv a w H]
  exact ⟨rfl, Below.refl _ _⟩
theorem runs_move {x : Operand} {v : Value} (ho : o.op = .move x) (hx : sev e x = some v) : Runs P n e h o v := fun w0 a w H => by
  unfold execOp
  simp only [ho, H.ev hx, Sem.run_pure]
theorem does_move {x : Operand} {v : Value} (ho : o.op = .move x) (hx : sev e x = some v) : Does P Q n w0 e h o v := (runs_move ho hx).does
theorem runs_assign {x : Operand} {v : Value} (ho : o.op = .assign x) (hx : sev e x = some v) : Runs P n e h o v := fun w0 a w H => by
  unfold execOp
  simp only [ho, H.ev hx, Sem.run_pure]
theorem does_assign {x : Operand} {v : Value} (ho : o.op = .assign x) (hx : sev e x = some v) : Does P Q n w0 e h o v := (runs_assign ho hx).does
theorem runs_pick {c x y : Operand} {b : Bool} {v : Value} (ho : o.op = .pick c x y) (hc : sev e c = some (.bool b)) (hx : b = true → sev e x = some v) (hy : b = false → sev e y = some v) : Runs P n e h o v := fun w0 a w H => by
  unfold execOp
  cases b with
  | true => simp [ho, H.ev hc, H.ev (hx rfl), asBool]
  | false => simp [ho, H.ev hc, H.ev (hy rfl), asBool]
theorem does_pick {c x y : Operand} {b : Bool} {v : Value} (ho : o.op = .pick c x y) (hc : sev e c = some (.bool b)) (hx : b = true → sev e x = some v) (hy : b = false → sev e y = some v) : Does P Q n w0 e h o v := (runs_pick ho hc hx hy).does
theorem runs_extract {x : Operand} {k : Nat} {vs : Array Value} {v : Value} (ho : o.op = .extract x k) (hx : sev e x = some (.tuple vs)) (hv : ∀ W, (Instr.extract (.tuple vs) k).run P W = .ok v W) : Runs P n e h o v := fun w0 a w H => by
  unfold execOp
  simp only [ho, H.ev hx, Sem.run_bind, hv, Result.andThen_ok, Sem.run_pure]
theorem does_extract {x : Operand} {k : Nat} {vs : Array Value} {v : Value} (ho : o.op = .extract x k) (hx : sev e x = some (.tuple vs)) (hv : ∀ W, (Instr.extract (.tuple vs) k).run P W = .ok v W) : Does P Q n w0 e h o v := (runs_extract ho hx hv).does
theorem runs_unOp {op : UnOp} {t : TypeId} {x : Operand} {u v : Value} (ho : o.op = .unOp op t x) (hx : sev e x = some u) (hv : ∀ W, (Op.unary op u).run P W = .ok v W) : Runs P n e h o v := fun w0 a w H => by
  unfold execOp
  simp only [ho, H.ev hx, Sem.run_bind, hv, Result.andThen_ok, Sem.run_pure]
theorem does_unOp {op : UnOp} {t : TypeId} {x : Operand} {u v : Value} (ho : o.op = .unOp op t x) (hx : sev e x = some u) (hv : ∀ W, (Op.unary op u).run P W = .ok v W) : Does P Q n w0 e h o v := (runs_unOp ho hx hv).does
theorem does_binOp {op : BinOp} {t t2 : TypeId} {x y : Operand} {u1 u2 v : Value} (ho : o.op = .binOp op t x y t2) (hx : sev e x = some u1) (hy : sev e y = some u2)
    (hv : ∀ W, (do eqGuard op t x y u1 u2; binOp op t u1 u2 : Sem Value).run P W = .ok v W) : Does P Q n w0 e h o v := does_run fun a w H => by
  unfold execOp
  simp only [ho, H.ev hx, H.ev hy]
  rw [Sem.run_bind, hv w]
  rfl
theorem does_fieldAddr {t : TypeId} {x : Operand} {k : Nat} {u v : Value} (ho : o.op = .fieldAddr t x k) (hx : sev e x = some u) (hv : ∀ W, (Instr.fieldAt t u k).run P W = .ok v W) : Does P Q n w0 e h o v := does_run fun a w H => by
  unfold execOp
  simp only [ho, H.ev hx, Sem.run_bind, hv, Result.andThen_ok, Sem.run_pure]
theorem does_indexAddr {t : TypeId} {x y : Operand} {u1 u2 v : Value} (ho : o.op = .indexAddr t x y) (hx : sev e x = some u1) (hy : sev e y = some u2) (hv : ∀ W, (Instr.indexAt t u1 u2).run P W = .ok v W) : Does P Q n w0 e h o v := does_run fun a w H => by
  unfold execOp
  simp only [ho, H.ev hx, H.ev hy, Sem.run_bind, hv, Result.andThen_ok, Sem.run_pure]
/-- The parts of what is built. -/
def sevp (e : Env) : List (Nat × Operand) → Option (List (Nat × Value))
  | [] => some []
  | p :: r => match sev e p.2, sevp e r with
    | some v, some vs => some ((p.1, v) :: vs)
    | _, _ => none
theorem St.evp (H : St n w0 a w e h) : ∀ {ps : List (Nat × Operand)} {vs : List (Nat × Value)}, sevp e ps = some vs → ps.map (fun p => (p.1, a.eval p.2)) = vs
  | [], vs, hv => Option.some.inj hv
  | p :: r, vs, hv => by
    unfold sevp at hv
    cases h1 : sev e p.2 with
    | none => rw [h1] at hv; cases hv
    | some v =>
      cases h2 : sevp e r with
      | none => rw [h1, h2] at hv; cases hv
      | some us =>
        rw [h1, h2] at hv
        injection hv with hv
        rw [List.map_cons, H.ev h1, H.evp h2, hv]
theorem does_build {t : TypeId} {ps : List (Nat × Operand)} {vs : List (Nat × Value)} {v : Value} (ho : o.op = .build t ps.toArray) (hx : sevp e ps = some vs) (hv : ∀ W, (Instr.build t vs.toArray).run P W = .ok v W) : Does P Q n w0 e h o v := does_run fun a w H => by
  unfold execOp
  have e1 : ps.toArray.map (fun (p : Nat × Operand) => (p.1, a.eval p.2)) = vs.toArray := by rw [List.map_toArray, H.evp hx]
  simp only [ho]
  show (do let x ← Instr.build t (ps.toArray.map (fun (p : Nat × Operand) => (p.1, a.eval p.2))); pure (Next.value x) : Sem Next).run P w = _
  rw [e1, Sem.run_bind, hv]
  rfl
/-- A load of a whole block. -/
theorem does_load {t : TypeId} {x : Operand} {g k : Nat} {t' : TypeId} {cs : Array Value} {d : TypeDesc} (ho : o.op = .load t x) (hx : sev e x = some (.pointer (some ⟨g, 0, none⟩))) (hk : h[k]? = some (g, t', cs))
    (hu : P.underlying t = some d) (hd : (match d with | .struct _ | .array _ _ => true | _ => false) = true) (hi : (P.info? t).map (·.size) = some cs.size) : Does P Q n w0 e h o (.agg cs) := fun a w H =>
  wp_load_row t x ho g (H.ev hx) t' cs (0, 0) d (H.heap _ (List.mem_iff_getElem?.2 ⟨k, hk⟩)) hu hd hi ⟨rfl, Below.refl _ _⟩
/-- A load of a part of a block: what it yields is said of whatever world has that block. -/
theorem does_loadAt {t : TypeId} {x : Operand} {g f k : Nat} {t' : TypeId} {cs : Array Value} {v : Value} (ho : o.op = .load t x) (hx : sev e x = some (.pointer (some ⟨g, f, none⟩))) (hk : h[k]? = some (g, t', cs))
    (hv : ∀ W, Blk W g t' cs → (Instr.loadAt t (.pointer (some ⟨g, f, none⟩))).run P W = .ok v W) : Does P Q n w0 e h o v := does_run fun a w H => by
  unfold execOp
  simp only [ho, H.ev hx, Sem.run_bind, hv w (H.heap _ (List.mem_iff_getElem?.2 ⟨k, hk⟩)), Result.andThen_ok, Sem.run_pure]
/-- A function of the program's own, that has a body. -/
def Ours (P : Program) (f : FuncId) : Prop := ∃ fn, P.funcs[f]? = some fn ∧ (fn.name == "runtime.NumGoroutine" || fn.body.isNone) = false
theorem run_callFunc {f : FuncId} (hf : Ours P f) (args : Array Value) (W : World) : (callFunc f args).run P W = .ok (.enter f args) W := by
  obtain ⟨fn, h1, h2⟩ := hf
  rw [Bool.or_eq_false_iff] at h2
  unfold callFunc
  have n1 : fn.name ≠ "runtime.NumGoroutine" := by simpa using h2.1
  have n2 : fn.body ≠ none := by
    intro e
    have := h2.2
    rw [e] at this
    cases this
  simp [Sem.run_bind, h1, n1, n2]
theorem run_call {ρ : Operand → Value} {f : FuncId} {args : List Operand} {tys : Array TypeId} (ho : o.op = .call { callee := .value (.func f), args := args.toArray, argTypes := tys }) (hf : Ours P f) (hρ : ρ (.func f) = .func (.func f) #[] #[]) (W : World) :
    (execOp ρ o).run P W = .ok (.enter f (args.map ρ).toArray) W := by
  unfold execOp
  simp only [ho, resolve, hρ, Deferred.ofValue, List.map_toArray]
  simp [Sem.run_bind, Sem.run_pure, invoke, run_callFunc hf]
theorem does_call {f : FuncId} {args : List Operand} {tys : Array TypeId} {vs : List Value} {v : Value} (ho : o.op = .call { callee := .value (.func f), args := args.toArray, argTypes := tys }) (hf : Ours P f) (hx : sevs e args = some vs)
    (hc : ∀ W, Below w0.heap.size w0 W → Calls P f vs.toArray W (fun r W' => r = .returned v ∧ Below W.heap.size W W')) : Does P Q n w0 e h o v := fun a w H => by
  unfold Oper.wp
  rw [run_call ho hf rfl, H.evs hx, Oper.upon_enter]
  refine (hc w H.below).mono ?_
  rintro r W' ⟨rfl, hb⟩
  exact ⟨rfl, hb⟩
theorem pl_does {d : Nat} {v : Value} (hd : Does P Q n w0 e h o v) (hg : o.guard = none) (hdst : o.dst = some d) (hl : Nat.blt d n = true) (hf : e.all (fun p => !Nat.beq p.1 d) = true)
    (H : St n w0 a w e h) (next : ∀ a w, St n w0 a w ((d, v) :: e) h → wpList P ops Q rest a w) : wpList P ops Q (o :: rest) a w :=
  wpList_plain hg fun K hK => Oper.wp_mono (fun a' w' hw => by
    obtain ⟨rfl, hb⟩ := hw
    refine hK _ _ (next _ _ ?_)
    rw [hdst]
    exact (H.call hb).put v hl hf) (hd a w H)
theorem pl_skip {d : Nat} (hw : ∀ a w, St n w0 a w e h → Region.wanted o (yielded ops a.tmps) = false) (hdst : o.dst = some d) (hl : Nat.blt d n = true) (hf : e.all (fun p => !Nat.beq p.1 d) = true)
    (H : St n w0 a w e h) (next : ∀ a w, St n w0 a w ((d, undef) :: e) h → wpList P ops Q rest a w) : wpList P ops Q (o :: rest) a w :=
  wpList_step fun K hK => by
    rw [hw a w H]
    refine hK _ _ (next _ _ ?_)
    rw [hdst]
    exact H.put _ hl hf
theorem pl_does_g {d : Nat} {v : Value} (hd : Does P Q n w0 e h o v) (hw : ∀ a w, St n w0 a w e h → Region.wanted o (yielded ops a.tmps) = true) (hdst : o.dst = some d) (hl : Nat.blt d n = true) (hf : e.all (fun p => !Nat.beq p.1 d) = true)
    (H : St n w0 a w e h) (next : ∀ a w, St n w0 a w ((d, v) :: e) h → wpList P ops Q rest a w) : wpList P ops Q (o :: rest) a w :=
  wpList_step fun K hK => by
    rw [hw a w H, if_pos rfl]
    exact Oper.wp_mono (fun a' w' hw => by
      obtain ⟨rfl, hb⟩ := hw
      refine hK _ _ (next _ _ ?_)
      rw [hdst]
      exact (H.call hb).put v hl hf) (hd a w H)
/-- A new variable. -/
def News (P : Program) (o : Oper) (t : TypeId) (z : Array Value) : Prop := ∀ (a : Act) (w : World), (execOp a.eval o).run P w = .ok (.value (.pointer (some ⟨w.heap.size, 0, none⟩))) (w.alloc (.cells z t))
theorem pl_new {d : Nat} {t : TypeId} {z : Array Value} (hd : News P o t z) (hg : o.guard = none) (hdst : o.dst = some d) (hl : Nat.blt d n = true) (hf : e.all (fun p => !Nat.beq p.1 d) = true)
    (H : St n w0 a w e h) (next : ∀ (g : Nat) a w, St n w0 a w ((d, .pointer (some ⟨g, 0, none⟩)) :: e) ((g, t, z) :: h) → wpList P ops Q rest a w) : wpList P ops Q (o :: rest) a w :=
  wpList_plain hg fun K hK => by
    unfold Oper.wp
    rw [hd a w]
    refine hK _ _ (next w.heap.size _ _ ?_)
    rw [hdst]
    exact (H.alloc z t).put _ hl hf
/-- A variable for an argument. -/
theorem pl_box {d : Nat} {t : TypeId} {x : Operand} {v : Value} {z : Array Value} (ho : o.op = .box t x) (hx : sev e x = some v) (hr : ∀ W, (Instr.box t v).run P W = .ok (.pointer (some ⟨W.heap.size, 0, none⟩)) (W.alloc (.cells z t)))
    (hg : o.guard = none) (hdst : o.dst = some d) (hl : Nat.blt d n = true) (hf : e.all (fun p => !Nat.beq p.1 d) = true)
    (H : St n w0 a w e h) (next : ∀ (g : Nat) a w, St n w0 a w ((d, .pointer (some ⟨g, 0, none⟩)) :: e) ((g, t, z) :: h) → wpList P ops Q rest a w) : wpList P ops Q (o :: rest) a w :=
  wpList_plain hg fun K hK => by
    unfold Oper.wp execOp
    simp only [ho, H.ev hx, Sem.run_bind, hr, Result.andThen_ok, Sem.run_pure]
    refine hK _ _ (next w.heap.size _ _ ?_)
    rw [hdst]
    exact (H.alloc z t).put _ hl hf
/-- A store of a whole block. -/
theorem pl_store {t : TypeId} {x y : Operand} {g k : Nat} {t' : TypeId} {cs c : Array Value} (ho : o.op = .store t x y) (hx : sev e x = some (.pointer (some ⟨g, 0, none⟩))) (hy : sev e y = some (.agg c)) (hk : h[k]? = some (g, t', cs))
    (hi : (P.info? t).map (·.size) = some c.size) (hs : cs.size = c.size) (h1 : c.all (·.oneCell') = true) (hg : o.guard = none) (hdst : o.dst = none)
    (H : St n w0 a w e h) (next : ∀ a w, St n w0 a w e (h.set k (g, t', c)) → wpList P ops Q rest a w) : wpList P ops Q (o :: rest) a w :=
  wpList_plain hg fun K hK => wp_store_row t x y ho g c (H.ev hx) (H.ev hy) t' cs (H.heap _ (List.mem_iff_getElem?.2 ⟨k, hk⟩)) hi hs h1 (hK _ _ (next _ _ (by
    rw [hdst]
    exact H.setRow hk c)))
/-- A store of a part of a block. -/
theorem pl_storeAt {t : TypeId} {x y : Operand} {g f k : Nat} {t' : TypeId} {cs c : Array Value} {v : Value} {vs : List Value} (ho : o.op = .store t x y) (hx : sev e x = some (.pointer (some ⟨g, f, none⟩))) (hy : sev e y = some v) (hk : h[k]? = some (g, t', cs))
    (hr : ∀ W, Blk W g t' cs → (Instr.storeAt t (.pointer (some ⟨g, f, none⟩)) v).run P W = .ok () (W.setCells g f vs)) (hc : setV cs f vs = c) (hg : o.guard = none) (hdst : o.dst = none)
    (H : St n w0 a w e h) (next : ∀ a w, St n w0 a w e (h.set k (g, t', c)) → wpList P ops Q rest a w) : wpList P ops Q (o :: rest) a w :=
  wpList_plain hg fun K hK => by
    unfold Oper.wp execOp
    simp only [ho, H.ev hx, H.ev hy, Sem.run_bind, hr w (H.heap _ (List.mem_iff_getElem?.2 ⟨k, hk⟩)), Result.andThen_ok, Sem.run_pure]
    refine hK _ _ (next _ _ ?_)
    rw [hdst]
    exact H.setCells hk f vs hc
theorem pl_end (next : Q .normal a w) : wpList P ops Q [] a w := next
theorem rg_plain {id : Nat} {l : List Oper} (h : wpList P l.toArray Q l a w) : (Code.region id l.toArray false).wp P Q a w := wp_region_lit h
end
inductive Item where
  /-- It comes to v in slot d; it hangs on the values of the operations ps. -/
  | val (d : Nat) (v : Value) (ps : List Nat)
  /-- It comes to v in slot d, whatever the blocks hold: it may come behind some of the rest. -/
  | pur (d : Nat) (v : Value) (ps : List Nat)
  /-- It is not wanted. -/
  | off (d : Nat) (ps : List Nat)
  | new (d : Nat) (t : TypeId) (z : Array Value)
def Item.d : Item → Nat
  | .val d _ _ => d
  | .pur d _ _ => d
  | .off d _ => d
  | .new d _ _ => d
def Item.out (g : Nat) : Item → Value
  | .val _ v _ => v
  | .pur _ v _ => v
  | .off _ _ => undef
  | .new _ _ _ => .pointer (some ⟨g, 0, none⟩)
def outs (G : Nat → Nat) : Nat → List Item → Env
  | _, [] => []
  | k, it :: r => (it.d, it.out (G k)) :: outs G (k + 1) r
def newHep (G : Nat → Nat) : Nat → List Item → Hep
  | _, [] => []
  | k, .new d t z :: r => (G k, t, z) :: newHep G (k + 1) r
  | k, _ :: r => newHep G (k + 1) r
/-- The values of some operations. -/
def depE (plan : List Item) : List Nat → Env
  | [] => []
  | p :: r => match plan[p]? with
    | some (.val d v _) => (d, v) :: depE plan r
    | some (.pur d v _) => (d, v) :: depE plan r
    | some (.off d _) => (d, undef) :: depE plan r
    | _ => depE plan r
def Item.ps : Item → List Nat
  | .val _ _ ps => ps
  | .pur _ _ ps => ps
  | .off _ ps => ps
  | .new _ _ _ => []
/-- What is to be shown of each. -/
def Item.ob (P : Program) (ops : Array Oper) (Q : Exit → Act → World → Prop) (n : Nat) (w0 : World) (e : Env) (h : Hep) (plan : List Item) (o : Oper) : Item → Prop
  | .val d v ps => Does P Q n w0 (depE plan ps ++ e) h o v ∧ ∀ a w, St n w0 a w (depE plan ps ++ e) h → Region.wanted o (yielded ops a.tmps) = true
  | .pur d v ps => Runs P n (depE plan ps ++ e) [] o v ∧ o.guard = none
  | .off d ps => ∀ a w, St n w0 a w (depE plan ps ++ e) h → Region.wanted o (yielded ops a.tmps) = false
  | .new d t z => News P o t z ∧ o.guard = none
/-- The operations that one waits for. -/
def waits (o : Oper) : List Nat := (o.after.toList.filter (fun x => Region.binds .any x)).map (·.on)
def maskOf : List Nat → Nat
  | [] => 0
  | k :: r => Nat.lor (Nat.shiftLeft 1 k) (maskOf r)
def masks (ops : Array Oper) : List Nat := ops.toList.map (fun o => maskOf (waits o))
/-- All that they wait for, and what those wait for. -/
def closeM (ms : List Nat) : Nat → Nat → Nat
  | 0, S => S
  | i + 1, S => closeM ms i (bif Nat.testBit S i then Nat.lor S (ms.getD i 0) else S)
def distinct : List Nat → Bool
  | [] => true
  | k :: r => r.all (fun j => !Nat.beq j k) && distinct r
/-- One after another, from m on: each waits for all from m to before it. -/
def lineUp (ms : List Nat) (m : Nat) : Nat → List Nat → Bool
  | _, [] => true
  | k, x :: r => Nat.beq (Nat.land (closeM ms k x) (Nat.shiftLeft 1 k - Nat.shiftLeft 1 m)) (Nat.shiftLeft 1 k - Nat.shiftLeft 1 m) && lineUp ms m (k + 1) r
def sub2 (a b : Nat) : Bool := Nat.beq (Nat.land a b) a
def downs : Nat → List Nat → Bool
  | _, [] => true
  | k, m :: r => Nat.blt m (Nat.shiftLeft 1 k) && downs (k + 1) r
end Go.Proofs.YtpagiffbjofihaaDoor
namespace Go.Proofs.YtpagiffbjofihaaDoor
set_option linter.unusedVariables false
set_option linter.unusedSimpArgs false
open Go Go.RowKit
theorem maskOf_bit {ks : List Nat} {j : Nat} : (maskOf ks).testBit j = true ↔ j ∈ ks := by
  induction ks with
  | nil => simp [maskOf]
  | cons k r ih =>
    show (Nat.lor (Nat.shiftLeft 1 k) (maskOf r)).testBit j = true ↔ _
    have e1 : Nat.lor (Nat.shiftLeft 1 k) (maskOf r) = (1 <<< k) ||| maskOf r := rfl
    rw [e1, Nat.testBit_or, Bool.or_eq_true, ih, List.mem_cons]
    have : ((1 <<< k).testBit j = true) ↔ j = k := by
      rw [Nat.shiftLeft_eq, Nat.one_mul, Nat.testBit_two_pow]
      simp only [decide_eq_true_eq]
      exact eq_comm
    rw [this]
theorem low_bit {k j : Nat} : (Nat.shiftLeft 1 k - 1).testBit j = decide (j < k) := by
  have e1 : Nat.shiftLeft 1 k = 2 ^ k := by
    show 1 <<< k = _
    rw [Nat.shiftLeft_eq, Nat.one_mul]
  rw [e1, Nat.testBit_two_pow_sub_one]
section
variable {P : Program} {n : Nat} {w0 w w' : World} {a : Act} {e : Env} {h : Hep} {Q : Exit → Act → World → Prop} {ops : Array Oper} {plan : List Item} {ms : List Nat}
theorem masks_get {i : Nat} {o : Oper} (hm : masks ops = ms) (ho : ops[i]? = some o) : ms[i]? = some (maskOf (waits o)) := by
  subst hm
  unfold masks
  simp [ho]
theorem mem_waits {o : Oper} {j : Nat} : j ∈ waits o ↔ ∃ x ∈ o.after, Region.binds .any x = true ∧ x.on = j := by
  unfold waits
  simp only [List.mem_map, List.mem_filter, Array.mem_toList_iff]
  constructor
  · rintro ⟨x, ⟨h1, h2⟩, rfl⟩
    exact ⟨x, h1, h2, rfl⟩
  · rintro ⟨x, h1, h2, rfl⟩
    exact ⟨x, ⟨h1, h2⟩, rfl⟩
/-- What one waits for has come before it. -/
def Down (ops : Array Oper) (l : Array Bool) : Prop := ∀ i o, ops[i]? = some o → l.getD i false = true → ∀ x ∈ o.after, Region.binds .any x = true → l.getD x.on false = true
theorem size_of_listed {l : Array Bool} {i : Nat} (h : l.getD i false = true) : i < l.size := by
  apply Nat.lt_of_not_le
  intro hl
  simp [Array.getElem?_eq_none hl] at h
theorem close_listed {l : Array Bool} (hm : masks ops = ms) (hd : Down ops l) (hs : l.size = ops.size) : ∀ (k S : Nat), (∀ j, S.testBit j = true → l.getD j false = true) → ∀ j, (closeM ms k S).testBit j = true → l.getD j false = true
  | 0, S, h, j, hj => h j hj
  | k + 1, S, h, j, hj => by
    unfold closeM at hj
    cases hb : Nat.testBit S k with
    | false =>
      rw [hb] at hj
      exact close_listed hm hd hs k S h j hj
    | true =>
      rw [hb] at hj
      refine close_listed hm hd hs k _ (fun i hi => ?_) j hj
      have hi : (S ||| ms.getD k 0).testBit i = true := hi
      rw [Nat.testBit_or, Bool.or_eq_true] at hi
      rcases hi with hi | hi
      · exact h i hi
      · have hk := h k hb
        have hlt := size_of_listed hk
        rw [hs] at hlt
        have ho : ops[k]? = some ops[k] := Array.getElem?_eq_getElem hlt
        have hg := masks_get hm ho
        have e2 : ms.getD k 0 = maskOf (waits ops[k]) := by simp [hg]
        rw [e2, maskOf_bit, mem_waits] at hi
        obtain ⟨x, hx, hb2, rfl⟩ := hi
        exact hd k _ ho hk x hx hb2
theorem ready_waits {l : Array Bool} {i : Nat} (hm : masks ops = ms) (hr : i ∈ Region.ready .any ops l) : ∀ j, (ms.getD i 0).testBit j = true → l.getD j false = true := by
  obtain ⟨_, o, ho, hall⟩ := mem_ready.1 hr
  intro j hj
  have hg := masks_get hm ho
  have e2 : ms.getD i 0 = maskOf (waits o) := by simp [hg]
  rw [e2, maskOf_bit, mem_waits] at hj
  obtain ⟨x, hx, hb, rfl⟩ := hj
  exact hall x hx hb
theorem low_bits {k m j : Nat} (hm : m ≤ k) : (Nat.shiftLeft 1 k - Nat.shiftLeft 1 m).testBit j = (decide (m ≤ j) && decide (j < k)) := by
  have e1 : ∀ i, Nat.shiftLeft 1 i = 2 ^ i := fun i => by
    show 1 <<< i = _
    rw [Nat.shiftLeft_eq, Nat.one_mul]
  have e2 : 2 ^ k - 2 ^ m = 2 ^ m * (2 ^ (k - m) - 1) := by
    rw [Nat.mul_sub, ← Nat.pow_add, show m + (k - m) = k by omega, Nat.mul_one]
  rw [e1, e1, e2, Nat.testBit_two_pow_mul, Nat.testBit_two_pow_sub_one, Bool.eq_iff_iff]
  simp only [Bool.and_eq_true, decide_eq_true_eq, ge_iff_le]
  omega
theorem lineUp_get {m k : Nat} {l : List Nat} (hmk : m ≤ k) (hl : lineUp ms m k l = true) : ∀ j x, l[j]? = some x → ∀ i, m ≤ i → i < k + j → (closeM ms (k + j) x).testBit i = true := by
  induction l generalizing k with
  | nil => intro j x hj; cases hj
  | cons x0 r ih =>
    intro j x hj i hmi hi
    unfold lineUp at hl
    rw [Bool.and_eq_true] at hl
    cases j with
    | zero =>
      injection hj with hj
      subst hj
      have e1 := Nat.eq_of_beq_eq_true hl.1
      have e2 : (Nat.land (closeM ms k x0) (Nat.shiftLeft 1 k - Nat.shiftLeft 1 m)).testBit i = true := by
        rw [e1, low_bits hmk, decide_eq_true hmi, decide_eq_true (by omega)]
        rfl
      have e3 : Nat.land (closeM ms k x0) (Nat.shiftLeft 1 k - Nat.shiftLeft 1 m) = closeM ms k x0 &&& (Nat.shiftLeft 1 k - Nat.shiftLeft 1 m) := rfl
      rw [e3, Nat.testBit_and, Bool.and_eq_true] at e2
      exact e2.1
    | succ j =>
      have := ih (by omega) hl.2 j x hj i hmi (by omega)
      rw [show k + (j + 1) = k + 1 + j by omega]
      exact this
theorem sub2_get {a b j : Nat} (h : sub2 a b = true) (hj : a.testBit j = true) : b.testBit j = true := by
  have e1 := Nat.eq_of_beq_eq_true h
  have e2 : (Nat.land a b).testBit j = true := by rw [e1]; exact hj
  have e3 : Nat.land a b = a &&& b := rfl
  rw [e3, Nat.testBit_and, Bool.and_eq_true] at e2
  exact e2.2
theorem downs_get {k : Nat} {l : List Nat} (hl : downs k l = true) : ∀ j m, l[j]? = some m → ∀ i, m.testBit i = true → i < k + j := by
  induction l generalizing k with
  | nil => intro j m hj; cases hj
  | cons m0 r ih =>
    intro j m hj i hi
    unfold downs at hl
    rw [Bool.and_eq_true] at hl
    cases j with
    | zero =>
      injection hj with hj
      subst hj
      have h1 : m0 < 2 ^ k := by
        have := hl.1
        rw [Nat.blt_eq] at this
        have e1 : Nat.shiftLeft 1 k = 2 ^ k := by
          show 1 <<< k = _
          rw [Nat.shiftLeft_eq, Nat.one_mul]
        rwa [e1] at this
      apply Nat.lt_of_not_le
      intro hk
      have h2 : m0 < 2 ^ i := Nat.lt_of_lt_of_le h1 (Nat.pow_le_pow_right (by omega) hk)
      rw [Nat.testBit_lt_two_pow h2] at hi
      cases hi
    | succ j =>
      have := ih hl.2 j m hj i hi
      omega
/-- The rest, one after another. -/
theorem any_tail (hm : masks ops = ms) (hdn : downs 0 ms = true) {m : Nat} (hl : lineUp ms m m (ms.drop m) = true) : ∀ (fuel k : Nat) (l : Array Bool) (a : Act) (w : World), m ≤ k → k ≤ ops.size → ops.size - k ≤ fuel → l.size = ops.size → (∀ i, i < ops.size → (l.getD i false = true ↔ i < k)) → wpList P ops Q (ops.toList.drop k) a w → wpAny P .any ops Q fuel l a w := by
  have hmsl : ms.length = ops.size := by rw [← hm]; simp [masks]
  have rdy : ∀ (k : Nat) (l : Array Bool), m ≤ k → l.size = ops.size → (∀ i, i < ops.size → (l.getD i false = true ↔ i < k)) → ∀ i ∈ Region.ready .any ops l, i = k ∧ i < ops.size := by
    intro k l hk hs hli i hi
    obtain ⟨h0, o, ho, hall⟩ := mem_ready.1 hi
    have hlt : i < ops.size := (Array.getElem?_eq_some_iff.1 ho).1
    refine ⟨?_, hlt⟩
    have hge : k ≤ i := by
      apply Nat.le_of_not_lt
      intro hik
      have := (hli i hlt).2 hik
      have hl2 : i < l.size := by omega
      simp [Array.getElem?_eq_getElem hl2] at h0 this
      rw [h0] at this
      cases this
    have hd : Down ops l := by
      intro j o' ho' hj x hx hb
      have hjl : j < ops.size := (Array.getElem?_eq_some_iff.1 ho').1
      have hjk := (hli j hjl).1 hj
      have hg := masks_get hm ho'
      have hx2 : (maskOf (waits o')).testBit x.on = true := maskOf_bit.2 (mem_waits.2 ⟨x, hx, hb, rfl⟩)
      have hxl := downs_get hdn j _ hg x.on hx2
      exact (hli x.on (by omega)).2 (by omega)
    apply Nat.le_antisymm _ hge
    apply Nat.le_of_not_lt
    intro hki
    have hg := masks_get hm ho
    have hg2 : (ms.drop m)[i - m]? = some (maskOf (waits o)) := by
      rw [List.getElem?_drop, show m + (i - m) = i by omega]
      exact hg
    have hc := lineUp_get (Nat.le_refl _) hl (i - m) _ hg2 k hk (by omega)
    rw [show m + (i - m) = i by omega] at hc
    have e2 : ms.getD i 0 = maskOf (waits o) := by simp [hg]
    have hc2 := close_listed hm hd hs i (maskOf (waits o)) (fun j hj => ready_waits hm hi j (by rw [e2]; exact hj)) k hc
    have := (hli k (by omega)).1 hc2
    omega
  intro fuel
  induction fuel with
  | zero =>
    intro k l a w hk hk2 hf hs hli hw
    have e : k = ops.size := by omega
    refine ⟨?_, ?_⟩
    · apply List.eq_nil_iff_forall_not_mem.2
      intro i hi
      have := rdy k l hk hs hli i hi
      omega
    · rw [e, List.drop_of_length_le (by simp)] at hw
      exact hw
  | succ fuel ih =>
    intro k l a w hk hk2 hf hs hli hw
    by_cases e : k = ops.size
    · refine ⟨fun _ => ?_, fun i hi => ?_⟩
      · rw [e, List.drop_of_length_le (by simp)] at hw
        exact hw
      · have := rdy k l hk hs hli i hi
        omega
    · have hlt : k < ops.size := by omega
      have hin : k ∈ Region.ready .any ops l := by
        refine mem_ready.2 ⟨?_, ops[k], Array.getElem?_eq_getElem hlt, fun x hx hb => ?_⟩
        · have hn : ¬ l.getD k false = true := fun h => by have := (hli k hlt).1 h; omega
          have hl2 : k < l.size := by omega
          simp [Array.getElem?_eq_getElem hl2] at hn ⊢
          exact hn
        · have hg := masks_get hm (Array.getElem?_eq_getElem hlt)
          have hx2 : (maskOf (waits ops[k])).testBit x.on = true := maskOf_bit.2 (mem_waits.2 ⟨x, hx, hb, rfl⟩)
          have hxl := downs_get hdn k _ hg x.on hx2
          exact (hli x.on (by omega)).2 (by omega)
      refine ⟨(fun h => by rw [h] at hin; cases hin), fun i hi => ?_⟩
      obtain ⟨rfl, _⟩ := rdy k l hk hs hli i hi
      have hgo : ∀ a w, wpList P ops Q (ops.toList.drop (i + 1)) a w → wpAny P .any ops Q fuel (l.setIfInBounds i true) a w := fun a w hw2 => by
        refine ih (i + 1) _ a w (by omega) (by omega) (by omega) (by simpa using hs) (fun j hj => ?_) hw2
        by_cases hij : i = j
        · subst hij
          have : i < l.size := by omega
          simp [this]
        · rw [getD_set_ne false hij, hli j hj]
          omega
      have hdrop : ops.toList.drop i = ops[i] :: ops.toList.drop (i + 1) := by
        rw [List.drop_eq_getElem_cons (by simpa using hlt)]
        simp
      rw [hdrop] at hw
      unfold wpList at hw
      unfold wpOp
      rw [Array.getElem?_eq_getElem hlt]
      dsimp only
      split at hw
      · next hwn =>
        rw [if_pos hwn]
        exact hw.imp (Oper.wp_mono hgo) id
      · next hwn =>
        rw [if_neg hwn]
        exact hgo _ _ hw
/-- What is known in the midst. -/
structure Mid (plan : List Item) (n : Nat) (w0 : World) (e : Env) (h : Hep) (l : Array Bool) (G : Nat → Nat) (a : Act) (w : World) : Prop where
  base : St n w0 a w e h
  vals : ∀ j it, plan[j]? = some it → l.getD j false = true → a.tmps[it.d]? = some (it.out (G j))
  news : ∀ j d t z, plan[j]? = some (.new d t z) → l.getD j false = true → Blk w (G j) t z ∧ w0.heap.size ≤ G j ∧ ∀ p ∈ h, p.1 ≠ G j
  dist : ∀ j k d t z d' t' z', plan[j]? = some (.new d t z) → plan[k]? = some (.new d' t' z') → l.getD j false = true → l.getD k false = true → j ≠ k → G j ≠ G k
theorem outs_mem {G : Nat → Nat} {k : Nat} {r : List Item} {p : Nat × Value} (hp : p ∈ outs G k r) : ∃ (j : Nat) (it : Item), r[j]? = some it ∧ p = (it.d, it.out (G (k + j))) := by
  induction r generalizing k with
  | nil => cases hp
  | cons it r ih =>
    rcases List.mem_cons.1 hp with rfl | hp
    · exact ⟨0, it, rfl, rfl⟩
    · obtain ⟨j, it', h1, rfl⟩ := ih hp
      exact ⟨j + 1, it', h1, by rw [show k + (j + 1) = k + 1 + j by omega]⟩
theorem newHep_mem {G : Nat → Nat} {k : Nat} {r : List Item} {p : Nat × TypeId × Array Value} (hp : p ∈ newHep G k r) : ∃ (j d : Nat) (t : TypeId) (z : Array Value), r[j]? = some (.new d t z) ∧ p = (G (k + j), t, z) := by
  induction r generalizing k with
  | nil => cases hp
  | cons it r ih =>
    have go : p ∈ newHep G (k + 1) r → ∃ (j d : Nat) (t : TypeId) (z : Array Value), (it :: r)[j]? = some (.new d t z) ∧ p = (G (k + j), t, z) := fun hp => by
      obtain ⟨j, d, t, z, h1, rfl⟩ := ih hp
      exact ⟨j + 1, d, t, z, h1, by rw [show k + (j + 1) = k + 1 + j by omega]⟩
    cases it with
    | val d v ps => exact go hp
    | pur d v ps => exact go hp
    | off d ps => exact go hp
    | new d t z =>
      rcases List.mem_cons.1 hp with rfl | hp
      · exact ⟨0, d, t, z, rfl, rfl⟩
      · exact go hp
theorem newHep_pw {G : Nat → Nat} {k : Nat} {r : List Item} (hd : ∀ (i j d : Nat) (t : TypeId) (z : Array Value) (d' : Nat) (t' : TypeId) (z' : Array Value), r[i]? = some (.new d t z) → r[j]? = some (.new d' t' z') → i ≠ j → G (k + i) ≠ G (k + j)) : (newHep G k r).Pairwise (fun p q => p.1 ≠ q.1) := by
  induction r generalizing k with
  | nil => exact List.Pairwise.nil
  | cons it r ih =>
    have go : (newHep G (k + 1) r).Pairwise (fun p q => p.1 ≠ q.1) := ih fun i j d t z d' t' z' h1 h2 hne => by
      have := hd (i + 1) (j + 1) d t z d' t' z' h1 h2 (by omega)
      rw [show k + 1 + i = k + (i + 1) by omega, show k + 1 + j = k + (j + 1) by omega]
      exact this
    cases it with
    | val d v ps => exact go
    | pur d v ps => exact go
    | off d ps => exact go
    | new d t z =>
      refine List.pairwise_cons.2 ⟨fun p hp => ?_, go⟩
      obtain ⟨j, d', t', z', h1, rfl⟩ := newHep_mem hp
      have := hd 0 (j + 1) d t z d' t' z' rfl h1 (by omega)
      rw [show k + 1 + j = k + (j + 1) by omega]
      exact this
theorem Mid.all {l : Array Bool} {G : Nat → Nat} (H : Mid plan n w0 e h l G a w) (hl : ∀ i, i < plan.length → l.getD i false = true) : St n w0 a w (outs G 0 plan ++ e) (newHep G 0 plan ++ h) := by
  have lt : ∀ {j : Nat} {it : Item}, plan[j]? = some it → l.getD j false = true := fun hj => hl _ (List.getElem?_eq_some_iff.1 hj).1
  refine ⟨H.base.size, H.base.defers, fun p hp => ?_, H.base.below, fun p hp => ?_, fun p hp => ?_, List.pairwise_append.2 ⟨newHep_pw fun i j d t z d' t' z' h1 h2 hne => ?_, H.base.apart, fun p hp q hq => ?_⟩⟩
  · rcases List.mem_append.1 hp with hp | hp
    · obtain ⟨j, it, h1, rfl⟩ := outs_mem hp
      rw [Nat.zero_add]
      exact H.vals j it h1 (lt h1)
    · exact H.base.env p hp
  · rcases List.mem_append.1 hp with hp | hp
    · obtain ⟨j, d, t, z, h1, rfl⟩ := newHep_mem hp
      rw [Nat.zero_add]
      exact (H.news j d t z h1 (lt h1)).1
    · exact H.base.heap p hp
  · rcases List.mem_append.1 hp with hp | hp
    · obtain ⟨j, d, t, z, h1, rfl⟩ := newHep_mem hp
      rw [Nat.zero_add]
      exact (H.news j d t z h1 (lt h1)).2.1
    · exact H.base.own p hp
  · rw [Nat.zero_add, Nat.zero_add]
    exact H.dist i j d t z d' t' z' h1 h2 (lt h1) (lt h2) hne
  · obtain ⟨j, d, t, z, h1, rfl⟩ := newHep_mem hp
    rw [Nat.zero_add]
    exact Ne.symm ((H.news j d t z h1 (lt h1)).2.2 q hq)
theorem distinct_get {l : List Nat} (hd : distinct l = true) : ∀ (i j x y : Nat), l[i]? = some x → l[j]? = some y → i ≠ j → x ≠ y := by
  have key : ∀ (l : List Nat), distinct l = true → ∀ (i j x y : Nat), l[i]? = some x → l[j]? = some y → i < j → x ≠ y := by
    intro l
    induction l with
    | nil => intro _ i j x y h1; cases h1
    | cons k r ih =>
      intro hd i j x y h1 h2 hij
      unfold distinct at hd
      rw [Bool.and_eq_true] at hd
      obtain ⟨j, rfl⟩ : ∃ j', j = j' + 1 := ⟨j - 1, by omega⟩
      cases i with
      | zero =>
        injection h1 with h1
        subst h1
        have hy : y ∈ r := List.mem_iff_getElem?.2 ⟨j, h2⟩
        have := List.all_eq_true.1 hd.1 y hy
        intro e
        rw [e, Nat.beq_refl] at this
        cases this
      | succ i => exact ih hd.2 i j x y h1 h2 (by omega)
  intro i j x y h1 h2 hne
  rcases Nat.lt_or_ge i j with hl | hl
  · exact key l hd i j x y h1 h2 hl
  · exact Ne.symm (key l hd j i y x h2 h1 (by omega))
theorem listed_set {l : Array Bool} {i j : Nat} (h : (l.setIfInBounds i true).getD j false = true) (hne : j ≠ i) : l.getD j false = true := by
  rw [getD_set_ne false (Ne.symm hne)] at h
  exact h
/-- One more has come to its value. -/
theorem Mid.put {l : Array Bool} {G : Nat → Nat} (H : Mid plan n w0 e h l G a w) {i : Nat} {it : Item} {v : Value} (hi : plan[i]? = some it) (hv : ∀ g, it.out g = v) (hnew : ∀ d t z, it ≠ .new d t z) (hlt : it.d < n) (he : ∀ p ∈ e, p.1 ≠ it.d)
    (hd : ∀ j jt, plan[j]? = some jt → j ≠ i → jt.d ≠ it.d) (hb : Below w.heap.size w w') : Mid plan n w0 e h (l.setIfInBounds i true) G (a.put (some it.d) v) w' := by
  have hlt' : it.d < a.tmps.size := by rw [H.base.size]; exact hlt
  have keep : ∀ k x, k ≠ it.d → a.tmps[k]? = some x → (a.put (some it.d) v).tmps[k]? = some x := fun k x hne hx => by
    show (a.tmps.setIfInBounds it.d v)[k]? = some x
    rw [Array.getElem?_setIfInBounds_ne (Ne.symm hne)]
    exact hx
  refine ⟨⟨by simp [Act.put, H.base.size], H.base.defers, fun p hp => keep _ _ (he p hp) (H.base.env p hp), H.base.below.trans (hb.mono H.base.below.size), fun p hp => (H.base.heap p hp).below hb (H.base.heap p hp).lt, H.base.own, H.base.apart⟩, fun j jt hj hl => ?_, fun j d t z hj hl => ?_, fun j k d t z d' t' z' hj hk hlj hlk hne => ?_⟩
  · by_cases hji : j = i
    · subst hji
      rw [hi] at hj
      injection hj with hj
      subst hj
      rw [hv]
      show (a.tmps.setIfInBounds it.d v)[it.d]? = some v
      simp [hlt']
    · exact keep _ _ (hd j jt hj hji) (H.vals j jt hj (listed_set hl hji))
  · have hji : j ≠ i := fun e1 => by
      subst e1
      rw [hi] at hj
      injection hj with hj
      exact hnew d t z hj
    obtain ⟨h1, h2, h3⟩ := H.news j d t z hj (listed_set hl hji)
    exact ⟨h1.below hb h1.lt, h2, h3⟩
  · have nj : ∀ k d t z, plan[k]? = some (.new d t z) → k ≠ i := fun k d t z hk e1 => by
      subst e1
      rw [hi] at hk
      injection hk with hk
      exact hnew d t z hk
    exact H.dist j k d t z d' t' z' hj hk (listed_set hlj (nj j d t z hj)) (listed_set hlk (nj k d' t' z' hk)) hne
/-- One more variable. -/
theorem Mid.more {l : Array Bool} {G : Nat → Nat} (H : Mid plan n w0 e h l G a w) {i d : Nat} {t : TypeId} {z : Array Value} (hi : plan[i]? = some (.new d t z)) (hlt : d < n) (he : ∀ p ∈ e, p.1 ≠ d)
    (hd : ∀ j jt, plan[j]? = some jt → j ≠ i → jt.d ≠ d) : Mid plan n w0 e h (l.setIfInBounds i true) (fun j => if j = i then w.heap.size else G j) (a.put (some d) (.pointer (some ⟨w.heap.size, 0, none⟩))) (w.alloc (.cells z t)) := by
  have hlt' : d < a.tmps.size := by rw [H.base.size]; exact hlt
  have keep : ∀ k x, k ≠ d → a.tmps[k]? = some x → (a.put (some d) (.pointer (some ⟨w.heap.size, 0, none⟩))).tmps[k]? = some x := fun k x hne hx => by
    show (a.tmps.setIfInBounds d _)[k]? = some x
    rw [Array.getElem?_setIfInBounds_ne (Ne.symm hne)]
    exact hx
  refine ⟨⟨by simp [Act.put, H.base.size], H.base.defers, fun p hp => keep _ _ (he p hp) (H.base.env p hp), H.base.below.alloc H.base.below.size _, fun p hp => (H.base.heap p hp).alloc _, H.base.own, H.base.apart⟩, fun j jt hj hl => ?_, fun j d' t' z' hj hl => ?_, fun j k d1 t1 z1 d2 t2 z2 hj hk hlj hlk hne => ?_⟩
  · by_cases hji : j = i
    · subst hji
      rw [hi] at hj
      injection hj with hj
      subst hj
      rw [if_pos rfl]
      show (a.tmps.setIfInBounds d _)[d]? = some _
      simp [hlt', Item.out]
    · rw [if_neg hji]
      exact keep _ _ (hd j jt hj hji) (H.vals j jt hj (listed_set hl hji))
  · by_cases hji : j = i
    · subst hji
      rw [hi] at hj
      injection hj with hj
      injection hj with h1 h2 h3
      subst h1 h2 h3
      rw [if_pos rfl]
      exact ⟨Blk.new _ _ _, H.base.below.size, fun p hp => Nat.ne_of_lt (H.base.heap p hp).lt⟩
    · rw [if_neg hji]
      obtain ⟨h1, h2, h3⟩ := H.news j d' t' z' hj (listed_set hl hji)
      exact ⟨h1.alloc _, h2, h3⟩
  · by_cases hji : j = i
    · by_cases hki : k = i
      · omega
      · rw [if_pos hji, if_neg hki]
        have := (H.news k d2 t2 z2 hk (listed_set hlk hki)).1.lt
        omega
    · by_cases hki : k = i
      · rw [if_neg hji, if_pos hki]
        have := (H.news j d1 t1 z1 hj (listed_set hlj hji)).1.lt
        omega
      · rw [if_neg hji, if_neg hki]
        exact H.dist j k d1 t1 z1 d2 t2 z2 hj hk (listed_set hlj hji) (listed_set hlk hki) hne
/-- How many of the first m have not come. -/
def left (l : Array Bool) : Nat → Nat
  | 0 => 0
  | m + 1 => left l m + (if l.getD m false = true then 0 else 1)
theorem left_le (l : Array Bool) : ∀ m, left l m ≤ m
  | 0 => Nat.le_refl _
  | m + 1 => by
    have := left_le l m
    unfold left
    split <;> omega
theorem left_zero {l : Array Bool} : ∀ {m : Nat}, left l m = 0 → ∀ i, i < m → l.getD i false = true
  | 0, _, i, hi => absurd hi (by omega)
  | m + 1, h, i, hi => by
    unfold left at h
    by_cases hm : l.getD m false = true
    · rw [if_pos hm] at h
      by_cases e1 : i = m
      · rw [e1]; exact hm
      · exact left_zero (m := m) (by omega) i (by omega)
    · rw [if_neg hm] at h
      omega
theorem left_mono {l : Array Bool} {i : Nat} : ∀ m, left (l.setIfInBounds i true) m ≤ left l m
  | 0 => Nat.le_refl _
  | m + 1 => by
    have := left_mono (l := l) (i := i) m
    unfold left
    by_cases hm : l.getD m false = true
    · rw [if_pos hm, if_pos (getD_set_true hm)]
      omega
    · rw [if_neg hm]
      split <;> omega
theorem left_set {l : Array Bool} {i : Nat} (hs : i < l.size) (hu : ¬ l.getD i false = true) : ∀ m, i < m → left (l.setIfInBounds i true) m + 1 ≤ left l m
  | 0, h => absurd h (by omega)
  | m + 1, h => by
    unfold left
    by_cases e1 : i = m
    · subst e1
      have := left_mono (l := l) (i := i) i
      rw [if_neg hu, if_pos (by simp [hs])]
      omega
    · have := left_set hs hu m (by omega)
      rw [getD_set_ne false e1]
      omega
theorem first_left {l : Array Bool} : ∀ m, (∃ i, i < m ∧ ¬ l.getD i false = true) → ∃ i, i < m ∧ ¬ l.getD i false = true ∧ ∀ j, j < i → l.getD j false = true
  | 0, ⟨i, hi, _⟩ => absurd hi (by omega)
  | m + 1, ⟨i, hi, hu⟩ => by
    by_cases h : ∃ i, i < m ∧ ¬ l.getD i false = true
    · obtain ⟨j, h1, h2, h3⟩ := first_left m h
      exact ⟨j, by omega, h2, h3⟩
    · have hall : ∀ j, j < m → l.getD j false = true := fun j hj => Classical.byContradiction fun hn => h ⟨j, hj, hn⟩
      have e1 : i = m := by
        apply Nat.le_antisymm (by omega)
        apply Nat.le_of_not_lt
        intro hlt
        exact hu (hall i hlt)
      subst e1
      exact ⟨i, hi, hu, hall⟩
theorem down_set {l : Array Bool} {i : Nat} (hd : Down ops l) (hr : i ∈ Region.ready .any ops l) : Down ops (l.setIfInBounds i true) := by
  intro j o ho hj x hx hb
  by_cases e1 : j = i
  · subst e1
    obtain ⟨_, o', ho', hall⟩ := mem_ready.1 hr
    rw [ho] at ho'
    injection ho' with ho'
    subst ho'
    exact getD_set_true (hall x hx hb)
  · exact getD_set_true (hd j o ho (listed_set hj e1) x hx hb)
theorem not_listed {l : Array Bool} {i : Nat} (hr : i ∈ Region.ready .any ops l) : ¬ l.getD i false = true := by
  intro hl
  have h0 := (mem_ready.1 hr).1
  have := size_of_listed hl
  simp [Array.getElem?_eq_getElem this] at h0 hl
  rw [h0] at hl
  cases hl
end
end Go.Proofs.YtpagiffbjofihaaDoor
namespace Go.Proofs.YtpagiffbjofihaaDoor
set_option linter.unusedVariables false
set_option linter.unusedSimpArgs false
open Go Go.RowKit
section
variable {P : Program} {n : Nat} {w0 w w' : World} {a : Act} {e : Env} {h : Hep} {Q : Exit → Act → World → Prop} {ops : Array Oper} {rest : List Oper} {o : Oper}
theorem news_of {t : TypeId} {z : Array Value} (ho : o.op = .alloc t) (hz : ∀ W, (Instr.alloc t true (.tuple #[])).run P W = .ok (.pointer (some ⟨W.heap.size, 0, none⟩)) (W.alloc (.cells z t))) : News P o t z := fun a w => by
  unfold execOp
  simp only [ho, Sem.run_bind, hz, Result.andThen_ok, Sem.run_pure]
theorem wanted_none (hg : o.guard = none) : ∀ a w, St n w0 a w e h → Region.wanted o (yielded ops a.tmps) = true := fun a w _ => by simp [Region.wanted, hg]
theorem wanted_some {j d : Nat} {b c : Bool} {oj : Oper} (hg : o.guard = some (j, b)) (hj : ops[j]? = some oj) (hd : oj.dst = some d) (hv : look e d = some (.bool c)) {r : Bool} (hr : (c == b) = r) : ∀ a w, St n w0 a w e h → Region.wanted o (yielded ops a.tmps) = r := fun a w H => by
  have := H.slot hv
  subst hr
  simp [Region.wanted, hg, yielded, hj, hd, this]
theorem wanted_off {j d : Nat} {b : Bool} {oj : Oper} (hg : o.guard = some (j, b)) (hj : ops[j]? = some oj) (hd : oj.dst = some d) (hv : look e d = some undef) : ∀ a w, St n w0 a w e h → Region.wanted o (yielded ops a.tmps) = false := fun a w H => by
  have := H.slot hv
  simp [Region.wanted, hg, yielded, hj, hd, this, undef]
theorem end_cell {fn : Func} {R : Ending → World → Prop} {p : Tmp} {t t' : TypeId} {g k : Nat} {cs : Array Value} {d : TypeDesc} (hr : fn.results = #[.cell p t]) (hp : look e p = some (.pointer (some ⟨g, 0, none⟩))) (hk : h[k]? = some (g, t', cs))
    (hu : P.underlying t = some d) (hd : (match d with | .struct _ | .array _ _ => true | _ => false) = true) (hi : (P.info? t).map (·.size) = some cs.size) (H : St n w0 a w e h) (hR : Below w0.heap.size w0 w → R (.returned (.agg cs)) w) : bodyPost P fn R .ret a w :=
  bodyPost_ret (results_cell_row hr _ _ g t' cs (0, 0) d (H.ev (x := .tmp p) hp) (H.heap _ (List.mem_iff_getElem?.2 ⟨k, hk⟩)) hu hd hi) H.defers (hR H.below)
theorem end_tmp {fn : Func} {R : Ending → World → Prop} {p : Tmp} {v : Value} (hr : fn.results = #[.tmp p]) (hp : look e p = some v) (H : St n w0 a w e h) (hR : Below w0.heap.size w0 w → R (.returned v) w) : bodyPost P fn R .ret a w := by
  refine bodyPost_ret (v := v) ?_ H.defers (hR H.below)
  rw [results_tmp hr]
  have := H.ev (x := .tmp p) hp
  exact congrArg (Result.ok · w) this
theorem end_cell_tmp {fn : Func} {R : Ending → World → Prop} {p q : Tmp} {t t' : TypeId} {g k : Nat} {cs : Array Value} {v : Value} {d : TypeDesc} (hr : fn.results = #[.cell p t, .tmp q]) (hp : look e p = some (.pointer (some ⟨g, 0, none⟩))) (hq : look e q = some v) (hk : h[k]? = some (g, t', cs))
    (hu : P.underlying t = some d) (hd : (match d with | .struct _ | .array _ _ => true | _ => false) = true) (hi : (P.info? t).map (·.size) = some cs.size) (H : St n w0 a w e h) (hR : Below w0.heap.size w0 w → R (.returned (.tuple #[.agg cs, v])) w) : bodyPost P fn R .ret a w :=
  bodyPost_ret (results_row_tmp hr (H.ev (x := .tmp p) hp) (H.ev (x := .tmp q) hq) (H.heap _ (List.mem_iff_getElem?.2 ⟨k, hk⟩)) hu hd hi) H.defers (hR H.below)
/-- A row that a result's variable holds. -/
theorem run_cell {p : Tmp} {t t' : TypeId} {g k : Nat} {cs : Array Value} {d : TypeDesc} (hp : look e p = some (.pointer (some ⟨g, 0, none⟩))) (hk : h[k]? = some (g, t', cs))
    (hu : P.underlying t = some d) (hd : (match d with | .struct _ | .array _ _ => true | _ => false) = true) (hi : (P.info? t).map (·.size) = some cs.size) (H : St n w0 a w e h) : a.tmps[p]?.getD undef = .pointer (some ⟨g, 0, none⟩) ∧ (loadVar t ⟨g, 0, none⟩).run P w = .ok (.agg cs) w := by
  refine ⟨?_, run_loadVar_row w g t' t cs (0, 0) d (H.heap _ (List.mem_iff_getElem?.2 ⟨k, hk⟩)) hu hd hi⟩
  rw [H.slot hp]
  rfl
theorem end_cells {fn : Func} {R : Ending → World → Prop} {p q : Tmp} {t t' s s' : TypeId} {g k g2 k2 : Nat} {cs ds : Array Value} {d d2 : TypeDesc} (hr : fn.results = #[.cell p t, .cell q s]) (hp : look e p = some (.pointer (some ⟨g, 0, none⟩))) (hk : h[k]? = some (g, t', cs))
    (hu : P.underlying t = some d) (hd : (match d with | .struct _ | .array _ _ => true | _ => false) = true) (hi : (P.info? t).map (·.size) = some cs.size) (hq : look e q = some (.pointer (some ⟨g2, 0, none⟩))) (hk2 : h[k2]? = some (g2, s', ds))
    (hu2 : P.underlying s = some d2) (hd2 : (match d2 with | .struct _ | .array _ _ => true | _ => false) = true) (hi2 : (P.info? s).map (·.size) = some ds.size) (H : St n w0 a w e h) (hR : Below w0.heap.size w0 w → R (.returned (.tuple #[.agg cs, .agg ds])) w) : bodyPost P fn R .ret a w := by
  refine bodyPost_ret ?_ H.defers (hR H.below)
  obtain ⟨h1, h2⟩ := run_cell hp hk hu hd hi H
  obtain ⟨h3, h4⟩ := run_cell hq hk2 hu2 hd2 hi2 H
  simp [results, hr, h1, h3, asAddr, h2, h4]
theorem least {p : Nat → Prop} : ∀ m, p m → ∃ m, p m ∧ ∀ j, p j → m ≤ j := by
  intro m
  induction m using Nat.strongRecOn with
  | _ m ih =>
    intro hm
    by_cases h : ∃ j, j < m ∧ p j
    · obtain ⟨j, hj, hpj⟩ := h
      exact ih j hj hpj
    · exact ⟨m, hm, fun j hj => Nat.le_of_not_lt fun hl => h ⟨j, hl, hj⟩⟩
/-- A loop of at most N rounds: I k is what holds behind k of them. -/
theorem wp_rounds {c : Code} (N : Nat) (I : Nat → Act → World → Prop) {k0 : Nat} (h0 : I k0 a w) (hk : k0 ≤ N)
    (round : ∀ k a w, k ≤ N → I k a w → c.wp P (Exit.then (fun a' w' => ∃ k', k < k' ∧ k' ≤ N ∧ I k' a' w') Q) a w) : (Code.loop c).wp P Q a w := by
  have hex : ∀ (q : Act × World), ∃ m : Nat, (∃ k, k ≤ N ∧ I k q.1 q.2) → (∃ k, k ≤ N ∧ I k q.1 q.2 ∧ N - k = m) ∧ ∀ k, k ≤ N → I k q.1 q.2 → m ≤ N - k := by
    intro q
    by_cases hq : ∃ k, k ≤ N ∧ I k q.1 q.2
    · obtain ⟨k, h1, h2⟩ := hq
      obtain ⟨m, ⟨j, hj1, hj2, hj3⟩, hmin⟩ := least (p := fun m => ∃ k, k ≤ N ∧ I k q.1 q.2 ∧ N - k = m) (N - k) ⟨k, h1, h2, rfl⟩
      exact ⟨m, fun _ => ⟨⟨j, hj1, hj2, hj3⟩, fun i hi1 hi2 => hmin _ ⟨i, hi1, hi2, rfl⟩⟩⟩
    · exact ⟨0, fun h => absurd h hq⟩
  obtain ⟨μ, hμ⟩ := Classical.axiomOfChoice hex
  refine wp_loop (fun a w => ∃ k, k ≤ N ∧ I k a w) (fun a w => μ (a, w)) ⟨k0, hk, h0⟩ (fun a w hI => ?_)
  obtain ⟨⟨k, hk1, hk2, hk3⟩, _⟩ := hμ (a, w) hI
  refine Code.wp_mono ?_ (round k a w hk1 hk2)
  intro e a' w' hq
  cases e with
  | normal =>
    obtain ⟨k', h1, h2, h3⟩ := hq
    have hI' : ∃ k, k ≤ N ∧ I k a' w' := ⟨k', h2, h3⟩
    have := (hμ (a', w') hI').2 k' h2 h3
    exact ⟨hI', by show μ (a', w') < μ (a, w); omega⟩
  | _ => exact hq
end
section
variable {P : Program} {t : TypeId}
theorem i_lss (k m : Int) (x y : Operand) (W : World) : (do eqGuard .lss t x y (.int .i64 k) (.int .i64 m); binOp .lss t (.int .i64 k) (.int .i64 m) : Sem Value).run P W = .ok (.bool (decide (k < m))) W := by go_simp
theorem i_lss_yes {k m : Nat} (h : k < m) (x y : Operand) (W : World) : (do eqGuard .lss t x y (.int .i64 (k : Int)) (.int .i64 (m : Int)); binOp .lss t (.int .i64 (k : Int)) (.int .i64 (m : Int)) : Sem Value).run P W = .ok (.bool true) W := by
  rw [i_lss, decide_eq_true (by omega)]
theorem i_lss_no {k m : Nat} (h : ¬ k < m) (x y : Operand) (W : World) : (do eqGuard .lss t x y (.int .i64 (k : Int)) (.int .i64 (m : Int)); binOp .lss t (.int .i64 (k : Int)) (.int .i64 (m : Int)) : Sem Value).run P W = .ok (.bool false) W := by
  rw [i_lss, decide_eq_false (by omega)]
theorem i_add (k m : Int) (hl : -9223372036854775808 ≤ k + m ∧ k + m ≤ 9223372036854775807) (x y : Operand) (W : World) : (do eqGuard .add t x y (.int .i64 k) (.int .i64 m); binOp .add t (.int .i64 k) (.int .i64 m) : Sem Value).run P W = .ok (.int .i64 (k + m)) W := by
  go_simp
  exact IntWalk.i64_in _ hl
theorem i_sub (k m : Int) (hl : -9223372036854775808 ≤ k - m ∧ k - m ≤ 9223372036854775807) (x y : Operand) (W : World) : (do eqGuard .sub t x y (.int .i64 k) (.int .i64 m); binOp .sub t (.int .i64 k) (.int .i64 m) : Sem Value).run P W = .ok (.int .i64 (k - m)) W := by
  go_simp
  exact IntWalk.i64_in _ hl
theorem i_inc {k : Nat} (h : k < 9223372036854775807) (x y : Operand) (W : World) : (do eqGuard .add t x y (.int .i64 (k : Int)) (.int .i64 1); binOp .add t (.int .i64 (k : Int)) (.int .i64 1) : Sem Value).run P W = .ok (.int .i64 ((k + 1 : Nat) : Int)) W := by
  rw [i_add _ _ (by omega)]
  rfl
theorem i_from {k m : Nat} (h : k ≤ m) (hm : m < 9223372036854775807) (x y : Operand) (W : World) : (do eqGuard .sub t x y (.int .i64 (m : Int)) (.int .i64 (k : Int)); binOp .sub t (.int .i64 (m : Int)) (.int .i64 (k : Int)) : Sem Value).run P W = .ok (.int .i64 ((m - k : Nat) : Int)) W := by
  rw [i_sub _ _ (by omega), show (m : Int) - (k : Int) = ((m - k : Nat) : Int) by omega]
end
section
variable {P : Program} {w : World} {a : Act} {Q : Exit → Act → World → Prop} {K : Act → World → Prop}
theorem then_ret (h : Q .ret a w) : Exit.then K Q .ret a w := h
theorem blk_ret {id : Nat} (h : Q .ret a w) : Exit.inBlock id Q .ret a w := h
theorem blk_normal {id : Nat} (h : Q .normal a w) : Exit.inBlock id Q .normal a w := h
theorem then_exit {id : Nat} (h : Q (.exit id) a w) : Exit.then K Q (.exit id) a w := h
theorem blk_exit {id : Nat} (h : Q .normal a w) : Exit.inBlock id Q (.exit id) a w := by
  show (if id = id then Q .normal a w else Q (.exit id) a w)
  rw [if_pos rfl]
  exact h
end
end Go.Proofs.YtpagiffbjofihaaDoor
namespace Go.Proofs.YtpagiffbjofihaaDoor
set_option linter.unusedVariables false
set_option linter.unusedSimpArgs false
open Go Go.RowKit
inductive It where
  /-- It comes to v in slot d; it hangs on the values of the operations ps and on the rows hs, as they were. -/
  | val (d : Nat) (v : Value) (ps hs : List Nat)
  | off (d : Nat) (ps : List Nat)
  | new (d : Nat) (t : TypeId) (z : Array Value)
  /-- The row k, which held cs in block g, holds c. -/
  | sto (k g : Nat) (t : TypeId) (cs c : Array Value) (ps : List Nat)
  /-- The row of the new variable j holds c. -/
  | ston (j d : Nat) (t : TypeId) (z c : Array Value) (ps : List Nat)
def It.dst : It → Option Nat
  | .val d _ _ _ => some d
  | .off d _ => some d
  | .new d _ _ => some d
  | _ => none
def It.out (g : Nat) : It → Value
  | .val _ v _ _ => v
  | .new _ _ _ => .pointer (some ⟨g, 0, none⟩)
  | _ => undef
def It.ps : It → List Nat
  | .val _ _ ps _ => ps
  | .off _ ps => ps
  | .new _ _ _ => []
  | .sto _ _ _ _ _ ps => ps
  | .ston _ _ _ _ _ ps => ps
def It.hs : It → List Nat
  | .val _ _ _ hs => hs
  | _ => []
def outS (G : Nat → Nat) : Nat → List It → Env
  | _, [] => []
  | k, it :: r => match it.dst with
    | some d => (d, it.out (G k)) :: outS G (k + 1) r
    | none => outS G (k + 1) r
/-- What a row, or a new variable's row, is at the end. -/
def endB : List It → Nat → Array Value → Array Value
  | [], _, cs => cs
  | .sto k _ _ _ c _ :: r, j, cs => bif Nat.beq k j then c else endB r j cs
  | _ :: r, j, cs => endB r j cs
def endN : List It → Nat → Array Value → Array Value
  | [], _, cs => cs
  | .ston k _ _ _ c _ :: r, j, cs => bif Nat.beq k j then c else endN r j cs
  | _ :: r, j, cs => endN r j cs
def heapS (plan : List It) : Nat → Hep → Hep
  | _, [] => []
  | k, p :: r => (p.1, p.2.1, endB plan k p.2.2) :: heapS plan (k + 1) r
def newS (plan : List It) (G : Nat → Nat) : Nat → List It → Hep
  | _, [] => []
  | k, .new _ t z :: r => (G k, t, endN plan k z) :: newS plan G (k + 1) r
  | k, _ :: r => newS plan G (k + 1) r
def depS (plan : List It) : List Nat → Env
  | [] => []
  | p :: r => match plan[p]? with
    | some (.val d v _ _) => (d, v) :: depS plan r
    | some (.off d _) => (d, undef) :: depS plan r
    | _ => depS plan r
/-- A store. -/
def Stores (w w' : World) (g : Nat) (t : TypeId) (c : Array Value) : Prop :=
  Blk w' g t c ∧ (∀ (b : Nat) (t' : TypeId) (d : Array Value), b ≠ g → Blk w b t' d → Blk w' b t' d) ∧ (∀ (B : Nat) (w0 : World), B ≤ g → Below B w0 w → Below B w0 w') ∧ w.heap.size ≤ w'.heap.size
section
variable {P : Program} {n : Nat} {w0 w w' : World} {a : Act} {e : Env} {h : Hep} {Q : Exit → Act → World → Prop} {ops : Array Oper} {o : Oper}
theorem stores_row {g : Nat} {t : TypeId} {cs : Array Value} (hb : Blk w g t cs) (c : Array Value) : Stores w (w.setRow g c) g t c :=
  ⟨hb.setRow_same c, fun b t' d hne h => h.setRow_other hne c, fun B w0 hB h => below_setRow h hB c, by have := (below_setRow (Below.refl 0 w) (Nat.zero_le g) c).size; exact this⟩
/-- What a store does. -/
def Sto (P : Program) (Q : Exit → Act → World → Prop) (n : Nat) (w0 : World) (e : Env) (o : Oper) (g : Nat) (t : TypeId) (cs c : Array Value) : Prop :=
  ∀ a w, St n w0 a w e [(g, t, cs)] → o.wp P a w (fun a' w' => a' = a.put o.dst undef ∧ Stores w w' g t c) Q
theorem sto_row {ty : TypeId} {x y : Operand} {g : Nat} {t : TypeId} {cs c : Array Value} (ho : o.op = .store ty x y) (hx : sev e x = some (.pointer (some ⟨g, 0, none⟩))) (hy : sev e y = some (.agg c))
    (hi : (P.info? ty).map (·.size) = some c.size) (hs : cs.size = c.size) (h1 : c.all (·.oneCell') = true) : Sto P Q n w0 e o g t cs c := fun a w H => by
  have hb : Blk w g t cs := H.heap _ List.mem_cons_self
  exact wp_store_row ty x y ho g c (H.ev hx) (H.ev hy) t cs hb hi hs h1 ⟨rfl, stores_row hb c⟩
def It.ob (P : Program) (ops : Array Oper) (Q : Exit → Act → World → Prop) (n : Nat) (w0 : World) (e : Env) (h : Hep) (plan : List It) (o : Oper) : It → Prop
  | .val d v ps hs => Does P Q n w0 (depS plan ps ++ e) (picks h hs) o v ∧ ∀ a w, St n w0 a w (depS plan ps ++ e) [] → Region.wanted o (yielded ops a.tmps) = true
  | .off d ps => ∀ a w, St n w0 a w (depS plan ps ++ e) [] → Region.wanted o (yielded ops a.tmps) = false
  | .new d t z => News P o t z ∧ o.guard = none
  | .sto k g t cs c ps => h[k]? = some (g, t, cs) ∧ o.guard = none ∧ Sto P Q n w0 (depS plan ps ++ e) o g t cs c
  | .ston j d t z c ps => plan[j]? = some (.new d t z) ∧ o.guard = none ∧ ∀ g, Sto P Q n w0 ((d, .pointer (some ⟨g, 0, none⟩)) :: (depS plan ps ++ e)) o g t z c
def ObsS (P : Program) (ops : Array Oper) (Q : Exit → Act → World → Prop) (n : Nat) (w0 : World) (e : Env) (h : Hep) (plan : List It) : List Oper → List It → Prop
  | o :: os, it :: r => it.ob P ops Q n w0 e h plan o ∧ ObsS P ops Q n w0 e h plan os r
  | _, _ => True
end
def ends : List It → List Nat
  | [] => []
  | it :: r => match it.dst with
    | some d => d :: ends r
    | none => ends r
def tgtB : List It → List Nat
  | [] => []
  | .sto k _ _ _ _ _ :: r => k :: tgtB r
  | _ :: r => tgtB r
def tgtN : List It → List Nat
  | [] => []
  | .ston k _ _ _ _ _ :: r => k :: tgtN r
  | _ :: r => tgtN r
def psOkS : List Nat → List It → Bool
  | m :: ms, it :: r => it.ps.all (fun j => Nat.testBit m j) && (match it with | .ston j _ _ _ _ _ => Nat.testBit m j | _ => true) && rises it.hs && psOkS ms r
  | _, [] => true
  | [], _ :: _ => false
def dstOkS : List Oper → List It → Bool
  | o :: os, it :: r => (match o.dst, it.dst with | some d, some d' => Nat.beq d d' | none, none => true | _, _ => false) && dstOkS os r
  | _, [] => true
  | [], _ :: _ => false
/-- Who reads a row that is written comes before that. -/
def readOk (ms : List Nat) (plan : List It) : Bool :=
  (List.range plan.length).all fun j => match plan[j]? with
    | some (.sto k _ _ _ _ _) => (List.range plan.length).all fun i => match plan[i]? with
      | some (.val _ _ _ hs) => !hs.contains k || Nat.testBit (closeM ms j (ms.getD j 0)) i
      | _ => true
    | _ => true
def planOkS (ops : Array Oper) (n : Nat) (e : Env) (plan : List It) (ms : List Nat) : Bool :=
  Nat.beq plan.length ops.size && downs 0 ms && psOkS ms plan && dstOkS ops.toList plan && distinct (ends plan) && (ends plan).all (fun d => Nat.blt d n && e.all (fun p => !Nat.beq p.1 d)) && distinct (tgtB plan) && distinct (tgtN plan) && readOk ms plan
end Go.Proofs.YtpagiffbjofihaaDoor
namespace Go.Proofs.YtpagiffbjofihaaDoor
set_option linter.unusedVariables false
set_option linter.unusedSimpArgs false
open Go Go.RowKit
section
variable {P : Program} {n : Nat} {w0 w w' : World} {a : Act} {e : Env} {h : Hep} {Q : Exit → Act → World → Prop} {ops : Array Oper} {plan : List It} {ms : List Nat}
structure MidS (plan : List It) (n : Nat) (w0 : World) (e : Env) (h : Hep) (l : Array Bool) (G : Nat → Nat) (a : Act) (w : World) : Prop where
  size : a.tmps.size = n
  defers : a.defers = []
  below : Below w0.heap.size w0 w
  env : ∀ p ∈ e, a.tmps[p.1]? = some p.2
  vals : ∀ (j : Nat) (it : It) (d : Nat), plan[j]? = some it → it.dst = some d → l.getD j false = true → a.tmps[d]? = some (it.out (G j))
  own : ∀ x ∈ h, w0.heap.size ≤ x.1 ∧ x.1 < w.heap.size
  apart : h.Pairwise (fun p q => p.1 ≠ q.1)
  baseA : ∀ (k : Nat) (x : Nat × TypeId × Array Value), h[k]? = some x → (∀ j g t cs c ps, plan[j]? = some (.sto k g t cs c ps) → ¬ l.getD j false = true) → Blk w x.1 x.2.1 x.2.2
  baseB : ∀ (k : Nat) (x : Nat × TypeId × Array Value) (j g : Nat) (t : TypeId) (cs c : Array Value) (ps : List Nat), h[k]? = some x → plan[j]? = some (.sto k g t cs c ps) → l.getD j false = true → Blk w x.1 x.2.1 c
  news : ∀ (j d : Nat) (t : TypeId) (z : Array Value), plan[j]? = some (.new d t z) → l.getD j false = true → w0.heap.size ≤ G j ∧ G j < w.heap.size ∧ ∀ x ∈ h, x.1 ≠ G j
  newA : ∀ (j d : Nat) (t : TypeId) (z : Array Value), plan[j]? = some (.new d t z) → l.getD j false = true → (∀ i d' t' z' c ps, plan[i]? = some (.ston j d' t' z' c ps) → ¬ l.getD i false = true) → Blk w (G j) t z
  newB : ∀ (j d : Nat) (t : TypeId) (z : Array Value) (i d' : Nat) (t' : TypeId) (z' c : Array Value) (ps : List Nat), plan[j]? = some (.new d t z) → l.getD j false = true → plan[i]? = some (.ston j d' t' z' c ps) → l.getD i false = true → Blk w (G j) t c
  dist : ∀ (j k d : Nat) (t : TypeId) (z : Array Value) (d' : Nat) (t' : TypeId) (z' : Array Value), plan[j]? = some (.new d t z) → plan[k]? = some (.new d' t' z') → l.getD j false = true → l.getD k false = true → j ≠ k → G j ≠ G k
theorem set_other {l : Array Bool} {i j : Nat} (hne : j ≠ i) : (l.setIfInBounds i true).getD j false = l.getD j false := getD_set_ne false (Ne.symm hne)
theorem put_keep {a : Act} {d k : Nat} {v x : Value} (hne : k ≠ d) (hx : a.tmps[k]? = some x) : (a.put (some d) v).tmps[k]? = some x := by
  show (a.tmps.setIfInBounds d v)[k]? = some x
  rw [Array.getElem?_setIfInBounds_ne (Ne.symm hne)]
  exact hx
theorem MidS.put {l : Array Bool} {G : Nat → Nat} (H : MidS plan n w0 e h l G a w) {i d : Nat} {it : It} {v : Value} (hi : plan[i]? = some it) (hdst : it.dst = some d) (hv : ∀ g, it.out g = v) (hnew : ∀ d t z, it ≠ .new d t z) (hlt : d < n) (he : ∀ p ∈ e, p.1 ≠ d)
    (hd : ∀ (j : Nat) (jt : It) (x : Nat), plan[j]? = some jt → j ≠ i → jt.dst = some x → x ≠ d) (hb : Below w.heap.size w w') : MidS plan n w0 e h (l.setIfInBounds i true) G (a.put (some d) v) w' := by
  have hlt' : d < a.tmps.size := by rw [H.size]; exact hlt
  have ni : ∀ (j : Nat) (jt : It), plan[j]? = some jt → jt ≠ it → j ≠ i := fun j jt hj hne e1 => by
    subst e1
    rw [hi] at hj
    exact hne (Option.some.inj hj).symm
  have nsto : ∀ k g t cs c ps, It.sto k g t cs c ps ≠ it := fun k g t cs c ps e1 => by rw [← e1] at hdst; cases hdst
  have nston : ∀ j d t z c ps, It.ston j d t z c ps ≠ it := fun k g t cs c ps e1 => by rw [← e1] at hdst; cases hdst
  have nnew : ∀ d t z, It.new d t z ≠ it := fun d t z e1 => hnew d t z e1.symm
  refine ⟨by simp [Act.put, H.size], H.defers, H.below.trans (hb.mono H.below.size), fun p hp => put_keep (he p hp) (H.env p hp), fun j jt x hj hx hl => ?_, fun x hx => ⟨(H.own x hx).1, Nat.lt_of_lt_of_le (H.own x hx).2 hb.size⟩, H.apart, fun k x hx hno => ?_, fun k x j g t cs c ps hx hj hl => ?_, fun j d t z hj hl => ?_, fun j d t z hj hl hno => ?_, fun j d t z i' d' t' z' c ps hj hl hi' hl' => ?_, fun j k d t z d' t' z' hj hk hlj hlk hne => ?_⟩
  · by_cases hji : j = i
    · subst hji
      rw [hi] at hj
      injection hj with hj
      subst hj
      rw [hdst] at hx
      injection hx with hx
      subst hx
      rw [hv]
      show (a.tmps.setIfInBounds d v)[d]? = some v
      simp [hlt']
    · rw [set_other hji] at hl
      exact put_keep (hd j jt x hj hji hx) (H.vals j jt x hj hx hl)
  · have hB := H.baseA k x hx fun j g t cs c ps hj hl => hno j g t cs c ps hj (by rw [set_other (ni j _ hj (nsto _ _ _ _ _ _))]; exact hl)
    exact hB.below hb hB.lt
  · rw [set_other (ni j _ hj (nsto _ _ _ _ _ _))] at hl
    have hB := H.baseB k x j g t cs c ps hx hj hl
    exact hB.below hb hB.lt
  · rw [set_other (ni j _ hj (nnew _ _ _))] at hl
    obtain ⟨h1, h2, h3⟩ := H.news j d t z hj hl
    exact ⟨h1, Nat.lt_of_lt_of_le h2 hb.size, h3⟩
  · rw [set_other (ni j _ hj (nnew _ _ _))] at hl
    have hB := H.newA j d t z hj hl fun i' d' t' z' c ps hi' hl' => hno i' d' t' z' c ps hi' (by rw [set_other (ni i' _ hi' (nston _ _ _ _ _ _))]; exact hl')
    exact hB.below hb hB.lt
  · rw [set_other (ni j _ hj (nnew _ _ _))] at hl
    rw [set_other (ni i' _ hi' (nston _ _ _ _ _ _))] at hl'
    have hB := H.newB j d t z i' d' t' z' c ps hj hl hi' hl'
    exact hB.below hb hB.lt
  · rw [set_other (ni j _ hj (nnew _ _ _))] at hlj
    rw [set_other (ni k _ hk (nnew _ _ _))] at hlk
    exact H.dist j k d t z d' t' z' hj hk hlj hlk hne
theorem MidS.more {l : Array Bool} {G : Nat → Nat} (H : MidS plan n w0 e h l G a w) {i d : Nat} {t : TypeId} {z : Array Value} (hi : plan[i]? = some (.new d t z)) (hu : ∀ i' d' t' z' c ps, plan[i']? = some (.ston i d' t' z' c ps) → ¬ l.getD i' false = true) (hlt : d < n) (he : ∀ p ∈ e, p.1 ≠ d)
    (hd : ∀ (j : Nat) (jt : It) (x : Nat), plan[j]? = some jt → j ≠ i → jt.dst = some x → x ≠ d) : MidS plan n w0 e h (l.setIfInBounds i true) (fun j => if j = i then w.heap.size else G j) (a.put (some d) (.pointer (some ⟨w.heap.size, 0, none⟩))) (w.alloc (.cells z t)) := by
  have hlt' : d < a.tmps.size := by rw [H.size]; exact hlt
  have hsz : w.heap.size < (w.alloc (.cells z t)).heap.size := (Blk.new w t z).lt
  have nsto : ∀ (j k g : Nat) (t' : TypeId) (cs c : Array Value) (ps : List Nat), plan[j]? = some (.sto k g t' cs c ps) → j ≠ i := fun j k g t' cs c ps hj e1 => by subst e1; rw [hi] at hj; cases hj
  have nston : ∀ (j k g : Nat) (t' : TypeId) (cs c : Array Value) (ps : List Nat), plan[j]? = some (.ston k g t' cs c ps) → j ≠ i := fun j k g t' cs c ps hj e1 => by subst e1; rw [hi] at hj; cases hj
  refine ⟨by simp [Act.put, H.size], H.defers, H.below.alloc H.below.size _, fun p hp => put_keep (he p hp) (H.env p hp), fun j jt x hj hx hl => ?_, fun x hx => ⟨(H.own x hx).1, Nat.lt_trans (H.own x hx).2 hsz⟩, H.apart, fun k x hx hno => ?_, fun k x j g t cs c ps hx hj hl => ?_, fun j d' t' z' hj hl => ?_, fun j d' t' z' hj hl hno => ?_, fun j d1 t1 z1 i' d' t' z' c ps hj hl hi' hl' => ?_, fun j k d1 t1 z1 d2 t2 z2 hj hk hlj hlk hne => ?_⟩
  · by_cases hji : j = i
    · subst hji
      rw [hi] at hj
      injection hj with hj
      subst hj
      injection hx with hx
      subst hx
      rw [if_pos rfl]
      show (a.tmps.setIfInBounds d _)[d]? = some _
      simp [hlt', It.out]
    · rw [set_other hji] at hl
      rw [if_neg hji]
      exact put_keep (hd j jt x hj hji hx) (H.vals j jt x hj hx hl)
  · exact (H.baseA k x hx fun j g t cs c ps hj hl => hno j g t cs c ps hj (by rw [set_other (nsto j k g t cs c ps hj)]; exact hl)).alloc _
  · rw [set_other (nsto j k g t cs c ps hj)] at hl
    exact (H.baseB k x j g t cs c ps hx hj hl).alloc _
  · by_cases hji : j = i
    · rw [if_pos hji]
      exact ⟨H.below.size, hsz, fun x hx => Nat.ne_of_lt (H.own x hx).2⟩
    · rw [set_other hji] at hl
      rw [if_neg hji]
      obtain ⟨h1, h2, h3⟩ := H.news j d' t' z' hj hl
      exact ⟨h1, Nat.lt_trans h2 hsz, h3⟩
  · by_cases hji : j = i
    · subst hji
      rw [hi] at hj
      injection hj with hj
      injection hj with h1 h2 h3
      subst h1 h2 h3
      rw [if_pos rfl]
      exact Blk.new _ _ _
    · rw [set_other hji] at hl
      rw [if_neg hji]
      exact (H.newA j d' t' z' hj hl fun i' d' t' z' c ps hi' hl' => hno i' d' t' z' c ps hi' (by rw [set_other (nston i' j d' t' z' c ps hi')]; exact hl')).alloc _
  · rw [set_other (nston i' j d' t' z' c ps hi')] at hl'
    by_cases hji : j = i
    · subst hji
      exact absurd hl' (hu i' d' t' z' c ps hi')
    · rw [set_other hji] at hl
      rw [if_neg hji]
      exact (H.newB j d1 t1 z1 i' d' t' z' c ps hj hl hi' hl').alloc _
  · by_cases hji : j = i
    · by_cases hki : k = i
      · omega
      · rw [set_other hki] at hlk
        rw [if_pos hji, if_neg hki]
        have := (H.news k d2 t2 z2 hk hlk).2.1
        omega
    · rw [set_other hji] at hlj
      by_cases hki : k = i
      · rw [if_neg hji, if_pos hki]
        have := (H.news j d1 t1 z1 hj hlj).2.1
        omega
      · rw [set_other hki] at hlk
        rw [if_neg hji, if_neg hki]
        exact H.dist j k d1 t1 z1 d2 t2 z2 hj hk hlj hlk hne
/-- A row is written. -/
theorem MidS.sto {l : Array Bool} {G : Nat → Nat} (H : MidS plan n w0 e h l G a w) {i k g : Nat} {t : TypeId} {cs c : Array Value} {ps : List Nat} (hi : plan[i]? = some (.sto k g t cs c ps)) (hk : h[k]? = some (g, t, cs))
    (hinj : ∀ (j : Nat) (g' : Nat) (t' : TypeId) (cs' c' : Array Value) (ps' : List Nat), plan[j]? = some (.sto k g' t' cs' c' ps') → j = i) (hil : i < l.size) (hs : Stores w w' g t c) : MidS plan n w0 e h (l.setIfInBounds i true) G a w' := by
  obtain ⟨hs1, hs2, hs3, hs4⟩ := hs
  have hm : (g, t, cs) ∈ h := List.mem_iff_getElem?.2 ⟨k, hk⟩
  have hg := H.own _ hm
  have ni : ∀ (j : Nat) (jt : It), plan[j]? = some jt → (∀ k g t cs c ps, jt ≠ .sto k g t cs c ps) → j ≠ i := fun j jt hj hne e1 => by
    subst e1
    rw [hi] at hj
    exact hne k g t cs c ps (Option.some.inj hj).symm
  refine ⟨H.size, H.defers, hs3 _ _ hg.1 H.below, H.env, fun j jt x hj hx hl => ?_, fun x hx => ⟨(H.own x hx).1, Nat.lt_of_lt_of_le (H.own x hx).2 hs4⟩, H.apart, fun k' x hx hno => ?_, fun k' x j g' t' cs' c' ps' hx hj hl => ?_, fun j d t z hj hl => ?_, fun j d t z hj hl hno => ?_, fun j d t z i' d' t' z' c ps hj hl hi' hl' => ?_, fun j k d t z d' t' z' hj hk hlj hlk hne => ?_⟩
  · have hji := ni j jt hj (fun k g t cs c ps e1 => by rw [e1] at hx; cases hx)
    rw [set_other hji] at hl
    exact H.vals j jt x hj hx hl
  · by_cases hkk : k' = k
    · subst hkk
      exact absurd (by simp [hil]) (hno i g t cs c ps hi)
    · exact hs2 _ _ _ (pw_ne H.apart hkk hx hk) (H.baseA k' x hx fun j g' t' cs' c' ps' hj hl => hno j g' t' cs' c' ps' hj (getD_set_true hl))
  · by_cases hji : j = i
    · subst hji
      rw [hi] at hj
      injection hj with hj
      injection hj with e1 e2 e3 e4 e5 e6
      subst e1 e5
      rw [hk] at hx
      injection hx with hx
      subst hx
      exact hs1
    · rw [set_other hji] at hl
      have hkk : k' ≠ k := fun e1 => hji (hinj j g' t' cs' c' ps' (by rw [← e1]; exact hj))
      exact hs2 _ _ _ (pw_ne H.apart hkk hx hk) (H.baseB k' x j g' t' cs' c' ps' hx hj hl)
  · rw [set_other (ni j _ hj (fun _ _ _ _ _ _ e1 => by cases e1))] at hl
    obtain ⟨h1, h2, h3⟩ := H.news j d t z hj hl
    exact ⟨h1, Nat.lt_of_lt_of_le h2 hs4, h3⟩
  · rw [set_other (ni j _ hj (fun _ _ _ _ _ _ e1 => by cases e1))] at hl
    have h3 := (H.news j d t z hj hl).2.2 _ hm
    exact hs2 _ _ _ (Ne.symm h3) (H.newA j d t z hj hl fun i' d' t' z' c ps hi' hl' => hno i' d' t' z' c ps hi' (getD_set_true hl'))
  · rw [set_other (ni j _ hj (fun _ _ _ _ _ _ e1 => by cases e1))] at hl
    rw [set_other (ni i' _ hi' (fun _ _ _ _ _ _ e1 => by cases e1))] at hl'
    have h3 := (H.news j d t z hj hl).2.2 _ hm
    exact hs2 _ _ _ (Ne.symm h3) (H.newB j d t z i' d' t' z' c ps hj hl hi' hl')
  · rw [set_other (ni j _ hj (fun _ _ _ _ _ _ e1 => by cases e1))] at hlj
    rw [set_other (ni k _ hk (fun _ _ _ _ _ _ e1 => by cases e1))] at hlk
    exact H.dist j k d t z d' t' z' hj hk hlj hlk hne
/-- A new variable's row is written. -/
theorem MidS.ston {l : Array Bool} {G : Nat → Nat} (H : MidS plan n w0 e h l G a w) {i j0 d0 : Nat} {t : TypeId} {z c : Array Value} {ps : List Nat} (hi : plan[i]? = some (.ston j0 d0 t z c ps)) (hj0 : plan[j0]? = some (.new d0 t z)) (hl0 : l.getD j0 false = true)
    (hinj : ∀ (j : Nat) (d' : Nat) (t' : TypeId) (z' c' : Array Value) (ps' : List Nat), plan[j]? = some (.ston j0 d' t' z' c' ps') → j = i) (hil : i < l.size) (hs : Stores w w' (G j0) t c) : MidS plan n w0 e h (l.setIfInBounds i true) G a w' := by
  obtain ⟨hs1, hs2, hs3, hs4⟩ := hs
  obtain ⟨hg1, hg2, hg3⟩ := H.news j0 d0 t z hj0 hl0
  have ni : ∀ (j : Nat) (jt : It), plan[j]? = some jt → (∀ k g t cs c ps, jt ≠ .ston k g t cs c ps) → j ≠ i := fun j jt hj hne e1 => by
    subst e1
    rw [hi] at hj
    exact hne j0 d0 t z c ps (Option.some.inj hj).symm
  refine ⟨H.size, H.defers, hs3 _ _ hg1 H.below, H.env, fun j jt x hj hx hl => ?_, fun x hx => ⟨(H.own x hx).1, Nat.lt_of_lt_of_le (H.own x hx).2 hs4⟩, H.apart, fun k' x hx hno => ?_, fun k' x j g' t' cs' c' ps' hx hj hl => ?_, fun j d t z hj hl => ?_, fun j d t z hj hl hno => ?_, fun j d1 t1 z1 i' d' t' z' c' ps' hj hl hi' hl' => ?_, fun j k d t z d' t' z' hj hk hlj hlk hne => ?_⟩
  · have hji := ni j jt hj (fun k g t cs c ps e1 => by rw [e1] at hx; cases hx)
    rw [set_other hji] at hl
    exact H.vals j jt x hj hx hl
  · exact hs2 _ _ _ (hg3 x (List.mem_iff_getElem?.2 ⟨k', hx⟩)) (H.baseA k' x hx fun j g' t' cs' c' ps' hj hl => hno j g' t' cs' c' ps' hj (getD_set_true hl))
  · rw [set_other (ni j _ hj (fun _ _ _ _ _ _ e1 => by cases e1))] at hl
    exact hs2 _ _ _ (hg3 x (List.mem_iff_getElem?.2 ⟨k', hx⟩)) (H.baseB k' x j g' t' cs' c' ps' hx hj hl)
  · rw [set_other (ni j _ hj (fun _ _ _ _ _ _ e1 => by cases e1))] at hl
    obtain ⟨h1, h2, h3⟩ := H.news j d t z hj hl
    exact ⟨h1, Nat.lt_of_lt_of_le h2 hs4, h3⟩
  · rw [set_other (ni j _ hj (fun _ _ _ _ _ _ e1 => by cases e1))] at hl
    by_cases hjj : j = j0
    · subst hjj
      exact absurd (by simp [hil]) (hno i d0 _ _ c ps hi)
    · exact hs2 _ _ _ (H.dist j j0 d t z d0 _ _ hj hj0 hl hl0 hjj) (H.newA j d t z hj hl fun i' d' t' z' c ps hi' hl' => hno i' d' t' z' c ps hi' (getD_set_true hl'))
  · rw [set_other (ni j _ hj (fun _ _ _ _ _ _ e1 => by cases e1))] at hl
    by_cases hii : i' = i
    · subst hii
      rw [hi] at hi'
      injection hi' with hi'
      injection hi' with e1 e2 e3 e4 e5 e6
      subst e1 e5
      rw [hj0] at hj
      injection hj with hj
      injection hj with f1 f2 f3
      subst f2
      exact hs1
    · rw [set_other hii] at hl'
      have hjj : j ≠ j0 := fun e1 => hii (hinj i' d' t' z' c' ps' (by rw [← e1]; exact hi'))
      exact hs2 _ _ _ (H.dist j j0 d1 t1 z1 d0 _ _ hj hj0 hl hl0 hjj) (H.newB j d1 t1 z1 i' d' t' z' c' ps' hj hl hi' hl')
  · rw [set_other (ni j _ hj (fun _ _ _ _ _ _ e1 => by cases e1))] at hlj
    rw [set_other (ni k _ hk (fun _ _ _ _ _ _ e1 => by cases e1))] at hlk
    exact H.dist j k d t z d' t' z' hj hk hlj hlk hne
theorem outS_mem {G : Nat → Nat} {k : Nat} {r : List It} {p : Nat × Value} (hp : p ∈ outS G k r) : ∃ (j : Nat) (it : It) (d : Nat), r[j]? = some it ∧ it.dst = some d ∧ p = (d, it.out (G (k + j))) := by
  induction r generalizing k with
  | nil => cases hp
  | cons it r ih =>
    have go : p ∈ outS G (k + 1) r → ∃ (j : Nat) (jt : It) (d : Nat), (it :: r)[j]? = some jt ∧ jt.dst = some d ∧ p = (d, jt.out (G (k + j))) := fun hp => by
      obtain ⟨j, it', d, h1, h2, rfl⟩ := ih hp
      exact ⟨j + 1, it', d, h1, h2, by rw [show k + (j + 1) = k + 1 + j by omega]⟩
    unfold outS at hp
    cases hd : it.dst with
    | none => rw [hd] at hp; exact go hp
    | some d =>
      rw [hd] at hp
      rcases List.mem_cons.1 hp with rfl | hp
      · exact ⟨0, it, d, rfl, hd, rfl⟩
      · exact go hp
theorem endB_spec {k : Nat} {cs : Array Value} (r : List It) : (∃ (j g : Nat) (t : TypeId) (cs' c : Array Value) (ps : List Nat), r[j]? = some (.sto k g t cs' c ps) ∧ endB r k cs = c) ∨ ((∀ (j g : Nat) (t : TypeId) (cs' c : Array Value) (ps : List Nat), r[j]? ≠ some (.sto k g t cs' c ps)) ∧ endB r k cs = cs) := by
  induction r with
  | nil => exact .inr ⟨(fun j g t cs' c ps hj => by cases hj), rfl⟩
  | cons it r ih =>
    have go : (∀ g t cs' c ps, it ≠ .sto k g t cs' c ps) → endB (it :: r) k cs = endB r k cs → (∃ (j g : Nat) (t : TypeId) (cs' c : Array Value) (ps : List Nat), (it :: r)[j]? = some (.sto k g t cs' c ps) ∧ endB (it :: r) k cs = c) ∨ ((∀ (j g : Nat) (t : TypeId) (cs' c : Array Value) (ps : List Nat), (it :: r)[j]? ≠ some (.sto k g t cs' c ps)) ∧ endB (it :: r) k cs = cs) := fun hne he => by
      rw [he]
      rcases ih with ⟨j, g, t, cs', c, ps, h1, h2⟩ | ⟨h1, h2⟩
      · exact .inl ⟨j + 1, g, t, cs', c, ps, h1, h2⟩
      · refine .inr ⟨fun j g t cs' c ps hj => ?_, h2⟩
        cases j with
        | zero => exact hne g t cs' c ps (Option.some.inj hj)
        | succ j => exact h1 j g t cs' c ps hj
    cases it with
    | val d v ps hs => exact go (fun _ _ _ _ _ e1 => by cases e1) rfl
    | off d ps => exact go (fun _ _ _ _ _ e1 => by cases e1) rfl
    | new d t z => exact go (fun _ _ _ _ _ e1 => by cases e1) rfl
    | ston j d t z c ps => exact go (fun _ _ _ _ _ e1 => by cases e1) rfl
    | sto k' g t cs' c ps =>
      cases hb : Nat.beq k' k with
      | true =>
        have hk := Nat.eq_of_beq_eq_true hb
        subst hk
        refine .inl ⟨0, g, t, cs', c, ps, rfl, ?_⟩
        unfold endB
        rw [hb]
        rfl
      | false =>
        refine go (fun _ _ _ _ _ e1 => ?_) ?_
        · injection e1 with e1
          rw [e1, Nat.beq_refl] at hb
          cases hb
        · show (bif Nat.beq k' k then c else endB r k cs) = _
          rw [hb]
          rfl
theorem endN_spec {k : Nat} {cs : Array Value} (r : List It) : (∃ (j g : Nat) (t : TypeId) (cs' c : Array Value) (ps : List Nat), r[j]? = some (.ston k g t cs' c ps) ∧ endN r k cs = c) ∨ ((∀ (j g : Nat) (t : TypeId) (cs' c : Array Value) (ps : List Nat), r[j]? ≠ some (.ston k g t cs' c ps)) ∧ endN r k cs = cs) := by
  induction r with
  | nil => exact .inr ⟨(fun j g t cs' c ps hj => by cases hj), rfl⟩
  | cons it r ih =>
    have go : (∀ g t cs' c ps, it ≠ .ston k g t cs' c ps) → endN (it :: r) k cs = endN r k cs → (∃ (j g : Nat) (t : TypeId) (cs' c : Array Value) (ps : List Nat), (it :: r)[j]? = some (.ston k g t cs' c ps) ∧ endN (it :: r) k cs = c) ∨ ((∀ (j g : Nat) (t : TypeId) (cs' c : Array Value) (ps : List Nat), (it :: r)[j]? ≠ some (.ston k g t cs' c ps)) ∧ endN (it :: r) k cs = cs) := fun hne he => by
      rw [he]
      rcases ih with ⟨j, g, t, cs', c, ps, h1, h2⟩ | ⟨h1, h2⟩
      · exact .inl ⟨j + 1, g, t, cs', c, ps, h1, h2⟩
      · refine .inr ⟨fun j g t cs' c ps hj => ?_, h2⟩
        cases j with
        | zero => exact hne g t cs' c ps (Option.some.inj hj)
        | succ j => exact h1 j g t cs' c ps hj
    cases it with
    | val d v ps hs => exact go (fun _ _ _ _ _ e1 => by cases e1) rfl
    | off d ps => exact go (fun _ _ _ _ _ e1 => by cases e1) rfl
    | new d t z => exact go (fun _ _ _ _ _ e1 => by cases e1) rfl
    | sto j d t z c ps => exact go (fun _ _ _ _ _ e1 => by cases e1) rfl
    | ston k' g t cs' c ps =>
      cases hb : Nat.beq k' k with
      | true =>
        have hk := Nat.eq_of_beq_eq_true hb
        subst hk
        refine .inl ⟨0, g, t, cs', c, ps, rfl, ?_⟩
        unfold endN
        rw [hb]
        rfl
      | false =>
        refine go (fun _ _ _ _ _ e1 => ?_) ?_
        · injection e1 with e1
          rw [e1, Nat.beq_refl] at hb
          cases hb
        · show (bif Nat.beq k' k then c else endN r k cs) = _
          rw [hb]
          rfl
theorem heapS_mem {k : Nat} {r : Hep} {p : Nat × TypeId × Array Value} (hp : p ∈ heapS plan k r) : ∃ (j : Nat) (x : Nat × TypeId × Array Value), r[j]? = some x ∧ p = (x.1, x.2.1, endB plan (k + j) x.2.2) := by
  induction r generalizing k with
  | nil => cases hp
  | cons x r ih =>
    rcases List.mem_cons.1 hp with rfl | hp
    · exact ⟨0, x, rfl, rfl⟩
    · obtain ⟨j, y, h1, rfl⟩ := ih hp
      exact ⟨j + 1, y, h1, by rw [show k + (j + 1) = k + 1 + j by omega]⟩
theorem heapS_pw {k : Nat} {r : Hep} (hp : r.Pairwise (fun p q => p.1 ≠ q.1)) : (heapS plan k r).Pairwise (fun p q => p.1 ≠ q.1) := by
  induction r generalizing k with
  | nil => exact List.Pairwise.nil
  | cons x r ih =>
    obtain ⟨h1, h2⟩ := List.pairwise_cons.1 hp
    refine List.pairwise_cons.2 ⟨fun p hp => ?_, ih h2⟩
    obtain ⟨j, y, hj, rfl⟩ := heapS_mem hp
    exact h1 y (List.mem_iff_getElem?.2 ⟨j, hj⟩)
theorem newS_mem {G : Nat → Nat} {k : Nat} {r : List It} {p : Nat × TypeId × Array Value} (hp : p ∈ newS plan G k r) : ∃ (j d : Nat) (t : TypeId) (z : Array Value), r[j]? = some (.new d t z) ∧ p = (G (k + j), t, endN plan (k + j) z) := by
  induction r generalizing k with
  | nil => cases hp
  | cons it r ih =>
    have go : p ∈ newS plan G (k + 1) r → ∃ (j d : Nat) (t : TypeId) (z : Array Value), (it :: r)[j]? = some (.new d t z) ∧ p = (G (k + j), t, endN plan (k + j) z) := fun hp => by
      obtain ⟨j, d, t, z, h1, rfl⟩ := ih hp
      exact ⟨j + 1, d, t, z, h1, by rw [show k + (j + 1) = k + 1 + j by omega]⟩
    cases it with
    | val d v ps hs => exact go hp
    | off d ps => exact go hp
    | sto k g t cs c ps => exact go hp
    | ston k g t cs c ps => exact go hp
    | new d t z =>
      rcases List.mem_cons.1 hp with rfl | hp
      · exact ⟨0, d, t, z, rfl, rfl⟩
      · exact go hp
theorem newS_pw {G : Nat → Nat} {k : Nat} {r : List It} (hd : ∀ (i j d : Nat) (t : TypeId) (z : Array Value) (d' : Nat) (t' : TypeId) (z' : Array Value), r[i]? = some (.new d t z) → r[j]? = some (.new d' t' z') → i ≠ j → G (k + i) ≠ G (k + j)) : (newS plan G k r).Pairwise (fun p q => p.1 ≠ q.1) := by
  induction r generalizing k with
  | nil => exact List.Pairwise.nil
  | cons it r ih =>
    have go : (newS plan G (k + 1) r).Pairwise (fun p q => p.1 ≠ q.1) := ih fun i j d t z d' t' z' h1 h2 hne => by
      have := hd (i + 1) (j + 1) d t z d' t' z' h1 h2 (by omega)
      rw [show k + 1 + i = k + (i + 1) by omega, show k + 1 + j = k + (j + 1) by omega]
      exact this
    cases it with
    | val d v ps hs => exact go
    | off d ps => exact go
    | sto k g t cs c ps => exact go
    | ston k g t cs c ps => exact go
    | new d t z =>
      refine List.pairwise_cons.2 ⟨fun p hp => ?_, go⟩
      obtain ⟨j, d', t', z', h1, rfl⟩ := newS_mem hp
      have := hd 0 (j + 1) d t z d' t' z' rfl h1 (by omega)
      rw [show k + 1 + j = k + (j + 1) by omega]
      exact this
theorem MidS.all {l : Array Bool} {G : Nat → Nat} (H : MidS plan n w0 e h l G a w) (hl : ∀ i, i < plan.length → l.getD i false = true) : St n w0 a w (outS G 0 plan ++ e) (newS plan G 0 plan ++ heapS plan 0 h) := by
  have lt : ∀ {j : Nat} {it : It}, plan[j]? = some it → l.getD j false = true := fun hj => hl _ (List.getElem?_eq_some_iff.1 hj).1
  refine ⟨H.size, H.defers, fun p hp => ?_, H.below, fun p hp => ?_, fun p hp => ?_, List.pairwise_append.2 ⟨newS_pw fun i j d t z d' t' z' h1 h2 hne => ?_, heapS_pw H.apart, fun p hp q hq => ?_⟩⟩
  · rcases List.mem_append.1 hp with hp | hp
    · obtain ⟨j, it, d, h1, h2, rfl⟩ := outS_mem hp
      rw [Nat.zero_add]
      exact H.vals j it d h1 h2 (lt h1)
    · exact H.env p hp
  · rcases List.mem_append.1 hp with hp | hp
    · obtain ⟨j, d, t, z, h1, rfl⟩ := newS_mem hp
      rw [Nat.zero_add]
      rcases endN_spec (k := j) (cs := z) plan with ⟨i, d', t', z', c, ps, h2, h3⟩ | ⟨h2, h3⟩
      · rw [h3]
        exact H.newB j d t z i d' t' z' c ps h1 (lt h1) h2 (lt h2)
      · rw [h3]
        exact H.newA j d t z h1 (lt h1) fun i d' t' z' c ps hi _ => h2 i d' t' z' c ps hi
    · obtain ⟨k, x, h1, rfl⟩ := heapS_mem hp
      rw [Nat.zero_add]
      rcases endB_spec (k := k) (cs := x.2.2) plan with ⟨i, g, t', cs', c, ps, h2, h3⟩ | ⟨h2, h3⟩
      · rw [h3]
        exact H.baseB k x i g t' cs' c ps h1 h2 (lt h2)
      · rw [h3]
        exact H.baseA k x h1 fun i g t' cs' c ps hi _ => h2 i g t' cs' c ps hi
  · rcases List.mem_append.1 hp with hp | hp
    · obtain ⟨j, d, t, z, h1, rfl⟩ := newS_mem hp
      rw [Nat.zero_add]
      exact (H.news j d t z h1 (lt h1)).1
    · obtain ⟨k, x, h1, rfl⟩ := heapS_mem hp
      exact (H.own x (List.mem_iff_getElem?.2 ⟨k, h1⟩)).1
  · rw [Nat.zero_add, Nat.zero_add]
    exact H.dist i j d t z d' t' z' h1 h2 (lt h1) (lt h2) hne
  · obtain ⟨j, d, t, z, h1, rfl⟩ := newS_mem hp
    obtain ⟨k, x, h2, rfl⟩ := heapS_mem hq
    rw [Nat.zero_add]
    exact Ne.symm ((H.news j d t z h1 (lt h1)).2.2 x (List.mem_iff_getElem?.2 ⟨k, h2⟩))
theorem depS_mem {ps : List Nat} {p : Nat × Value} (hp : p ∈ depS plan ps) : ∃ j ∈ ps, ∃ (it : It) (d : Nat), plan[j]? = some it ∧ it.dst = some d ∧ ∀ g, p = (d, it.out g) := by
  induction ps with
  | nil => cases hp
  | cons k r ih =>
    have go : p ∈ depS plan r → ∃ j ∈ k :: r, ∃ (it : It) (d : Nat), plan[j]? = some it ∧ it.dst = some d ∧ ∀ g, p = (d, it.out g) := fun hp => by
      obtain ⟨j, hj, it, d, h1, h2, h3⟩ := ih hp
      exact ⟨j, List.mem_cons_of_mem _ hj, it, d, h1, h2, h3⟩
    unfold depS at hp
    cases hk : plan[k]? with
    | none => rw [hk] at hp; exact go hp
    | some it =>
      rw [hk] at hp
      cases it with
      | val d v qs hs =>
        rcases List.mem_cons.1 hp with rfl | hp
        · exact ⟨k, List.mem_cons_self, _, d, hk, rfl, fun _ => rfl⟩
        · exact go hp
      | off d qs =>
        rcases List.mem_cons.1 hp with rfl | hp
        · exact ⟨k, List.mem_cons_self, _, d, hk, rfl, fun _ => rfl⟩
        · exact go hp
      | new d t z => exact go hp
      | sto a b c d e f => exact go hp
      | ston a b c d e f => exact go hp
/-- What one hangs on: slots, and rows that nobody has written yet. -/
theorem MidS.part {l : Array Bool} {G : Nat → Nat} (H : MidS plan n w0 e h l G a w) {ps hs : List Nat} (hp : ∀ j ∈ ps, l.getD j false = true) (hr : rises hs = true) (hno : ∀ k ∈ hs, ∀ j g t cs c qs, plan[j]? = some (.sto k g t cs c qs) → ¬ l.getD j false = true) : St n w0 a w (depS plan ps ++ e) (picks h hs) := by
  refine ⟨H.size, H.defers, fun p hq => ?_, H.below, fun p hq => ?_, fun p hq => ?_, picks_pw H.apart hr⟩
  · rcases List.mem_append.1 hq with hq | hq
    · obtain ⟨j, hj, it, d, h1, h2, h3⟩ := depS_mem hq
      rw [h3 (G j)]
      exact H.vals j it d h1 h2 (hp j hj)
    · exact H.env p hq
  · obtain ⟨k, hk, hx⟩ := picks_get hq
    exact H.baseA k p hx (hno k hk)
  · obtain ⟨k, hk, hx⟩ := picks_get hq
    exact (H.own p (List.mem_iff_getElem?.2 ⟨k, hx⟩)).1
theorem obS_get {os : List Oper} {r : List It} (ho : ObsS P ops Q n w0 e h plan os r) : ∀ (j : Nat) (o : Oper) (it : It), os[j]? = some o → r[j]? = some it → it.ob P ops Q n w0 e h plan o := by
  induction os generalizing r with
  | nil => intro j o it h1; cases h1
  | cons o0 os ih =>
    cases r with
    | nil => intro j o it _ h2; cases h2
    | cons it0 r =>
      intro j o it h1 h2
      obtain ⟨ho1, ho2⟩ := ho
      cases j with
      | zero =>
        injection h1 with h1
        injection h2 with h2
        subst h1 h2
        exact ho1
      | succ j => exact ih ho2 j o it h1 h2
theorem dstS_get {os : List Oper} {r : List It} (hd : dstOkS os r = true) : ∀ (j : Nat) (o : Oper) (it : It), os[j]? = some o → r[j]? = some it → o.dst = it.dst := by
  induction os generalizing r with
  | nil => intro j o it h1; cases h1
  | cons o0 os ih =>
    cases r with
    | nil => intro j o it _ h2; cases h2
    | cons it0 r =>
      intro j o it h1 h2
      unfold dstOkS at hd
      rw [Bool.and_eq_true] at hd
      cases j with
      | zero =>
        injection h1 with h1
        injection h2 with h2
        subst h1 h2
        have := hd.1
        cases ho : o0.dst with
        | none =>
          cases hi : it0.dst with
          | none => rfl
          | some d => rw [ho, hi] at this; cases this
        | some d =>
          cases hi : it0.dst with
          | none => rw [ho, hi] at this; cases this
          | some d' =>
            rw [ho, hi] at this
            rw [Nat.eq_of_beq_eq_true this]
      | succ j => exact ih hd.2 j o it h1 h2
theorem psS_get {l : List Nat} {r : List It} (hp : psOkS l r = true) : ∀ (j m : Nat) (it : It), l[j]? = some m → r[j]? = some it → (∀ k ∈ it.ps, m.testBit k = true) ∧ rises it.hs = true ∧ ∀ k d t z c ps, it = .ston k d t z c ps → m.testBit k = true := by
  induction l generalizing r with
  | nil => intro j m it h1; cases h1
  | cons m0 l ih =>
    cases r with
    | nil => intro j m it _ h2; cases h2
    | cons it0 r =>
      intro j m it h1 h2
      unfold psOkS at hp
      simp only [Bool.and_eq_true] at hp
      obtain ⟨⟨⟨p1, p2⟩, p3⟩, p4⟩ := hp
      cases j with
      | zero =>
        injection h1 with h1
        injection h2 with h2
        subst h1 h2
        refine ⟨List.all_eq_true.1 p1, p3, fun k d t z c ps e1 => ?_⟩
        subst e1
        exact p2
      | succ j => exact ih p4 j m it h1 h2
theorem ends_has {r : List It} {j d : Nat} {it : It} (hj : r[j]? = some it) (hd : it.dst = some d) : d ∈ ends r := by
  induction r generalizing j with
  | nil => cases hj
  | cons it0 r ih =>
    unfold ends
    cases j with
    | zero =>
      injection hj with hj
      subst hj
      rw [hd]
      exact List.mem_cons_self
    | succ j =>
      cases h0 : it0.dst with
      | none => exact ih hj
      | some d0 => exact List.mem_cons_of_mem _ (ih hj)
theorem ends_inj {r : List It} (hd : distinct (ends r) = true) : ∀ (i j : Nat) (it jt : It) (x y : Nat), r[i]? = some it → r[j]? = some jt → i ≠ j → it.dst = some x → jt.dst = some y → x ≠ y := by
  induction r with
  | nil => intro i j it jt x y h1; cases h1
  | cons it0 r ih =>
    intro i j it jt x y h1 h2 hne hx hy
    unfold ends at hd
    have tail : distinct (ends r) = true := by
      cases h0 : it0.dst with
      | none => rw [h0] at hd; exact hd
      | some d0 =>
        rw [h0] at hd
        unfold distinct at hd
        rw [Bool.and_eq_true] at hd
        exact hd.2
    have head : ∀ d0, it0.dst = some d0 → ∀ z ∈ ends r, z ≠ d0 := fun d0 h0 z hz e1 => by
      rw [h0] at hd
      unfold distinct at hd
      rw [Bool.and_eq_true] at hd
      have := List.all_eq_true.1 hd.1 z hz
      rw [e1, Nat.beq_refl] at this
      cases this
    cases i with
    | zero =>
      cases j with
      | zero => exact absurd rfl hne
      | succ j =>
        injection h1 with h1
        subst h1
        exact Ne.symm (head x hx y (ends_has h2 hy))
    | succ i =>
      cases j with
      | zero =>
        injection h2 with h2
        subst h2
        exact head y hy x (ends_has h1 hx)
      | succ j => exact ih tail i j it jt x y h1 h2 (by omega) hx hy
theorem tgtB_has {r : List It} {j k g : Nat} {t : TypeId} {cs c : Array Value} {ps : List Nat} (hj : r[j]? = some (.sto k g t cs c ps)) : k ∈ tgtB r := by
  induction r generalizing j with
  | nil => cases hj
  | cons it r ih =>
    cases j with
    | zero =>
      injection hj with hj
      subst hj
      exact List.mem_cons_self
    | succ j =>
      have := ih (j := j) hj
      cases it <;> first | exact this | exact List.mem_cons_of_mem _ this
theorem tgtB_inj {r : List It} (hd : distinct (tgtB r) = true) : ∀ (i j k g g' : Nat) (t t' : TypeId) (cs cs' c c' : Array Value) (ps ps' : List Nat), r[i]? = some (.sto k g t cs c ps) → r[j]? = some (.sto k g' t' cs' c' ps') → j = i := by
  induction r with
  | nil => intro i j k g g' t t' cs cs' c c' ps ps' h1; cases h1
  | cons it r ih =>
    intro i j k g g' t t' cs cs' c c' ps ps' h1 h2
    have tail : distinct (tgtB r) = true := by
      cases it <;> first | exact hd | (unfold tgtB distinct at hd; rw [Bool.and_eq_true] at hd; exact hd.2)
    have head : ∀ k g t cs c ps, it = .sto k g t cs c ps → k ∉ tgtB r := fun k g t cs c ps e1 hk => by
      subst e1
      unfold tgtB distinct at hd
      rw [Bool.and_eq_true] at hd
      have := List.all_eq_true.1 hd.1 k hk
      rw [Nat.beq_refl] at this
      cases this
    cases i with
    | zero =>
      cases j with
      | zero => rfl
      | succ j => exact absurd (tgtB_has (j := j) h2) (head _ _ _ _ _ _ (Option.some.inj h1))
    | succ i =>
      cases j with
      | zero => exact absurd (tgtB_has (j := i) h1) (head _ _ _ _ _ _ (Option.some.inj h2))
      | succ j => rw [ih tail i j k g g' t t' cs cs' c c' ps ps' h1 h2]
theorem tgtN_has {r : List It} {j k g : Nat} {t : TypeId} {cs c : Array Value} {ps : List Nat} (hj : r[j]? = some (.ston k g t cs c ps)) : k ∈ tgtN r := by
  induction r generalizing j with
  | nil => cases hj
  | cons it r ih =>
    cases j with
    | zero =>
      injection hj with hj
      subst hj
      exact List.mem_cons_self
    | succ j =>
      have := ih (j := j) hj
      cases it <;> first | exact this | exact List.mem_cons_of_mem _ this
theorem tgtN_inj {r : List It} (hd : distinct (tgtN r) = true) : ∀ (i j k g g' : Nat) (t t' : TypeId) (cs cs' c c' : Array Value) (ps ps' : List Nat), r[i]? = some (.ston k g t cs c ps) → r[j]? = some (.ston k g' t' cs' c' ps') → j = i := by
  induction r with
  | nil => intro i j k g g' t t' cs cs' c c' ps ps' h1; cases h1
  | cons it r ih =>
    intro i j k g g' t t' cs cs' c c' ps ps' h1 h2
    have tail : distinct (tgtN r) = true := by
      cases it <;> first | exact hd | (unfold tgtN distinct at hd; rw [Bool.and_eq_true] at hd; exact hd.2)
    have head : ∀ k g t cs c ps, it = .ston k g t cs c ps → k ∉ tgtN r := fun k g t cs c ps e1 hk => by
      subst e1
      unfold tgtN distinct at hd
      rw [Bool.and_eq_true] at hd
      have := List.all_eq_true.1 hd.1 k hk
      rw [Nat.beq_refl] at this
      cases this
    cases i with
    | zero =>
      cases j with
      | zero => rfl
      | succ j => exact absurd (tgtN_has (j := j) h2) (head _ _ _ _ _ _ (Option.some.inj h1))
    | succ i =>
      cases j with
      | zero => exact absurd (tgtN_has (j := i) h1) (head _ _ _ _ _ _ (Option.some.inj h2))
      | succ j => rw [ih tail i j k g g' t t' cs cs' c c' ps ps' h1 h2]
theorem readOk_get (hr : readOk ms plan = true) {i j k g d : Nat} {t : TypeId} {cs c : Array Value} {ps qs hs : List Nat} {v : Value} (hj : plan[j]? = some (.sto k g t cs c ps)) (hi : plan[i]? = some (.val d v qs hs)) (hk : k ∈ hs) : (closeM ms j (ms.getD j 0)).testBit i = true := by
  have h1 := List.all_eq_true.1 hr j (List.mem_range.2 (List.getElem?_eq_some_iff.1 hj).1)
  rw [hj] at h1
  have h2 := List.all_eq_true.1 h1 i (List.mem_range.2 (List.getElem?_eq_some_iff.1 hi).1)
  rw [hi] at h2
  have hc : hs.contains k = true := by simpa using hk
  simp only [hc] at h2
  simpa using h2
theorem any_planS (hm : masks ops = ms) (hk : planOkS ops n e plan ms = true) (ho : ObsS P ops Q n w0 e h plan ops.toList plan)
    (fin : ∀ (G : Nat → Nat) a w, St n w0 a w (outS G 0 plan ++ e) (newS plan G 0 plan ++ heapS plan 0 h) → Q .normal a w) :
    ∀ (fuel : Nat) (l : Array Bool) (a : Act) (w : World) (G : Nat → Nat), l.size = ops.size → Down ops l → left l plan.length ≤ fuel → MidS plan n w0 e h l G a w → wpAny P .any ops Q fuel l a w := by
  unfold planOkS at hk
  simp only [Bool.and_eq_true] at hk
  obtain ⟨⟨⟨⟨⟨⟨⟨⟨k1, k2⟩, k3⟩, k4⟩, k5⟩, k6⟩, k7⟩, k8⟩, k9⟩ := hk
  have hlen : plan.length = ops.size := Nat.eq_of_beq_eq_true k1
  have nothing : ∀ l : Array Bool, l.size = ops.size → (∀ j, j < plan.length → l.getD j false = true) → Region.ready .any ops l = [] := fun l hs hall => by
    apply List.eq_nil_iff_forall_not_mem.2
    intro i hi
    obtain ⟨_, o, hoo, _⟩ := mem_ready.1 hi
    exact not_listed hi (hall i (by have := (Array.getElem?_eq_some_iff.1 hoo).1; omega))
  intro fuel
  induction fuel with
  | zero =>
    intro l a w G hs hd hf H
    have hall := left_zero (l := l) (m := plan.length) (by omega)
    exact ⟨nothing l hs hall, fin G a w (H.all hall)⟩
  | succ fuel ih =>
    intro l a w G hs hd hf H
    by_cases hall : ∀ j, j < plan.length → l.getD j false = true
    · exact ⟨fun _ => fin G a w (H.all hall), fun i hi => by rw [nothing l hs hall] at hi; cases hi⟩
    · have hex : ∃ i, i < plan.length ∧ ¬ l.getD i false = true := Classical.byContradiction fun hn => hall fun j hj => Classical.byContradiction fun hu => hn ⟨j, hj, hu⟩
      obtain ⟨i0, hi0, hu0, hlow⟩ := first_left _ hex
      refine ⟨fun hnil => ?_, fun i hr => ?_⟩
      · exfalso
        have hlt : i0 < ops.size := by omega
        have hin : i0 ∈ Region.ready .any ops l := by
          refine mem_ready.2 ⟨?_, ops[i0], Array.getElem?_eq_getElem hlt, fun x hx hb => hlow _ ?_⟩
          · have hl2 : i0 < l.size := by omega
            simp [Array.getElem?_eq_getElem hl2] at hu0 ⊢
            exact hu0
          · have hg := masks_get hm (Array.getElem?_eq_getElem hlt)
            have hx2 : (maskOf (waits ops[i0])).testBit x.on = true := maskOf_bit.2 (mem_waits.2 ⟨x, hx, hb, rfl⟩)
            have := downs_get k2 i0 _ hg x.on hx2
            omega
        rw [hnil] at hin
        cases hin
      · have hu := not_listed hr
        have hios : i < ops.size := by
          obtain ⟨_, o, hoo, _⟩ := mem_ready.1 hr
          exact (Array.getElem?_eq_some_iff.1 hoo).1
        have hilt : i < plan.length := by omega
        have hil : i < l.size := by omega
        have hit : plan[i]? = some plan[i] := List.getElem?_eq_getElem hilt
        have hoi : ops[i]? = some ops[i] := Array.getElem?_eq_getElem hios
        have hoi2 : ops.toList[i]? = some ops[i] := by simp [hios]
        have hob := obS_get ho i _ _ hoi2 hit
        have hdst := dstS_get k4 i _ _ hoi2 hit
        have hg := masks_get hm hoi
        have e2 : ms.getD i 0 = maskOf (waits ops[i]) := by simp [hg]
        have rw_ := ready_waits hm hr
        rw [e2] at rw_
        obtain ⟨p1, p2, p3⟩ := psS_get k3 i _ _ hg hit
        have hps : ∀ j ∈ plan[i].ps, l.getD j false = true := fun j hj => rw_ j (p1 j hj)
        have hend : ∀ d, plan[i].dst = some d → d < n ∧ ∀ p ∈ e, p.1 ≠ d := fun d hdd => by
          have h6 := List.all_eq_true.1 k6 d (ends_has hit hdd)
          rw [Bool.and_eq_true] at h6
          refine ⟨by have := h6.1; rw [Nat.blt_eq] at this; exact this, fun p hp e1 => ?_⟩
          have := List.all_eq_true.1 h6.2 p hp
          rw [e1, Nat.beq_refl] at this
          cases this
        have hdd : ∀ d, plan[i].dst = some d → ∀ (j : Nat) (jt : It) (x : Nat), plan[j]? = some jt → j ≠ i → jt.dst = some x → x ≠ d := fun d hd0 j jt x hj hne hx => ends_inj k5 j i jt plan[i] x d hj hit hne hx hd0
        have hs2 : (l.setIfInBounds i true).size = ops.size := by simpa using hs
        have hd2 := down_set hd hr
        have hf2 : left (l.setIfInBounds i true) plan.length ≤ fuel := by
          have := left_set (l := l) (i := i) (by omega) hu plan.length hilt
          omega
        unfold wpOp
        rw [hoi]
        dsimp only
        generalize hI : plan[i] = it at *
        cases it with
        | val d v ps hs0 =>
          obtain ⟨hdo, hw⟩ := hob
          have hno : ∀ k ∈ hs0, ∀ j g t cs c qs, plan[j]? = some (.sto k g t cs c qs) → ¬ l.getD j false = true := fun k hk0 j g t cs c qs hj hl => by
            have hjo : j < ops.size := by have := (List.getElem?_eq_some_iff.1 hj).1; omega
            have hc := readOk_get k9 hj hit hk0
            refine hu (close_listed hm hd hs j _ (fun x hx => ?_) i hc)
            have hgj := masks_get hm (Array.getElem?_eq_getElem hjo)
            have e3 : ms.getD j 0 = maskOf (waits ops[j]) := by simp [hgj]
            rw [e3, maskOf_bit, mem_waits] at hx
            obtain ⟨y, hy, hb, rfl⟩ := hx
            exact hd j _ (Array.getElem?_eq_getElem hjo) hl y hy hb
          have hst := H.part hps p2 hno
          have hst0 := H.part (hs := []) hps rfl (fun k hk0 => by cases hk0)
          rw [hw _ _ hst0, if_pos rfl]
          refine .inl (Oper.wp_mono (fun a' w' hx => ?_) (hdo _ _ hst))
          obtain ⟨rfl, hb⟩ := hx
          rw [hdst]
          exact ih _ _ _ G hs2 hd2 hf2 (H.put hit rfl (fun _ => rfl) (fun _ _ _ hc => by cases hc) (hend d rfl).1 (hend d rfl).2 (hdd d rfl) hb)
        | off d ps =>
          have hst0 := H.part (hs := []) hps rfl (fun k hk0 => by cases hk0)
          rw [hob _ _ hst0]
          rw [hdst]
          exact ih _ _ _ G hs2 hd2 hf2 (H.put hit rfl (fun _ => rfl) (fun _ _ _ hc => by cases hc) (hend d rfl).1 (hend d rfl).2 (hdd d rfl) (Below.refl _ _))
        | new d t z =>
          obtain ⟨hn, hgd⟩ := hob
          have hw : Region.wanted ops[i] (yielded ops a.tmps) = true := by simp [Region.wanted, hgd]
          rw [hw, if_pos rfl]
          left
          unfold Oper.wp
          rw [hn a w]
          show wpAny P .any ops Q fuel (l.setIfInBounds i true) (a.put ops[i].dst _) (w.alloc (.cells z t))
          rw [hdst]
          refine ih _ _ _ _ hs2 hd2 hf2 (H.more hit (fun i' d' t' z' c ps hi' hl' => ?_) (hend d rfl).1 (hend d rfl).2 (hdd d rfl))
          -- who writes it waits for it
          have hjo : i' < ops.size := by have := (List.getElem?_eq_some_iff.1 hi').1; omega
          have hgj := masks_get hm (Array.getElem?_eq_getElem hjo)
          have hb := (psS_get k3 i' _ _ hgj hi').2.2 _ _ _ _ _ _ rfl
          rw [maskOf_bit, mem_waits] at hb
          obtain ⟨y, hy, hbb, e4⟩ := hb
          have := hd i' _ (Array.getElem?_eq_getElem hjo) hl' y hy hbb
          rw [e4] at this
          exact hu this
        | sto k g t cs c ps =>
          obtain ⟨h1, hgd, hsto⟩ := hob
          have hw : Region.wanted ops[i] (yielded ops a.tmps) = true := by simp [Region.wanted, hgd]
          rw [hw, if_pos rfl]
          have hm1 : (g, t, cs) ∈ h := List.mem_iff_getElem?.2 ⟨k, h1⟩
          have hB := H.baseA k _ h1 fun j g' t' cs' c' ps' hj hl => by
            have := tgtB_inj k7 i j k g g' t t' cs cs' c c' ps ps' hit hj
            subst this
            exact hu hl
          have hst : St n w0 a w (depS plan ps ++ e) [(g, t, cs)] := by
            have h0 := H.part (hs := []) hps rfl (fun k hk0 => by cases hk0)
            refine ⟨h0.size, h0.defers, h0.env, h0.below, fun p hp => ?_, fun p hp => ?_, List.pairwise_singleton _ _⟩
            · rw [List.mem_singleton.1 hp]
              exact hB
            · rw [List.mem_singleton.1 hp]
              exact (H.own _ hm1).1
          refine .inl (Oper.wp_mono (fun a' w' hx => ?_) (hsto _ _ hst))
          obtain ⟨rfl, hss⟩ := hx
          rw [hdst]
          exact ih _ _ _ G hs2 hd2 hf2 (H.sto hit h1 (fun j g' t' cs' c' ps' hj => tgtB_inj k7 i j k g g' t t' cs cs' c c' ps ps' hit hj) hil hss)
        | ston j0 d0 t z c ps =>
          obtain ⟨h1, hgd, hsto⟩ := hob
          have hw : Region.wanted ops[i] (yielded ops a.tmps) = true := by simp [Region.wanted, hgd]
          rw [hw, if_pos rfl]
          have hl0 : l.getD j0 false = true := rw_ j0 (p3 _ _ _ _ _ _ rfl)
          have hB := H.newA j0 d0 t z h1 hl0 fun i' d' t' z' c' ps' hi' hl' => by
            have := tgtN_inj k8 i i' j0 d0 d' t t' z z' c c' ps ps' hit hi'
            subst this
            exact hu hl'
          have hst : St n w0 a w ((d0, .pointer (some ⟨G j0, 0, none⟩)) :: (depS plan ps ++ e)) [(G j0, t, z)] := by
            have h0 := H.part (hs := []) hps rfl (fun k hk0 => by cases hk0)
            refine ⟨h0.size, h0.defers, fun p hp => ?_, h0.below, fun p hp => ?_, fun p hp => ?_, List.pairwise_singleton _ _⟩
            · rcases List.mem_cons.1 hp with rfl | hp
              · exact H.vals j0 _ d0 h1 rfl hl0
              · exact h0.env p hp
            · rw [List.mem_singleton.1 hp]
              exact hB
            · rw [List.mem_singleton.1 hp]
              exact (H.news j0 d0 t z h1 hl0).1
          refine .inl (Oper.wp_mono (fun a' w' hx => ?_) (hsto (G j0) _ _ hst))
          obtain ⟨rfl, hss⟩ := hx
          rw [hdst]
          exact ih _ _ _ G hs2 hd2 hf2 (H.ston hit h1 hl0 (fun j d' t' z' c' ps' hj => tgtN_inj k8 i j j0 d0 d' t t' z z' c c' ps ps' hit hj) hil hss)
/-- **The region.** -/
theorem drawnS {id : Nat} (plan : List It) (ms : List Nat) (hf : P.follows .mixedOrders = true) (hm : masks ops = ms) (hk : planOkS ops n e plan ms = true) (H : St n w0 a w e h) (ho : ObsS P ops Q n w0 e h plan ops.toList plan)
    (fin : ∀ (G : Nat → Nat) a w, St n w0 a w (outS G 0 plan ++ e) (newS plan G 0 plan ++ heapS plan 0 h) → Q .normal a w) : (Code.region id ops true).wp P Q a w := by
  refine wp_region_any hf ?_
  have none_ : ∀ i, ¬ (Array.replicate ops.size false).getD i false = true := fun i hi => by
    by_cases h : i < ops.size
    · simp [h] at hi
    · simp [h] at hi
  have hlen : plan.length = ops.size := by
    unfold planOkS at hk
    simp only [Bool.and_eq_true] at hk
    exact Nat.eq_of_beq_eq_true hk.1.1.1.1.1.1.1.1
  refine any_planS hm hk ho fin ops.size _ a w.drew (fun _ => 0) (by simp) (fun i o _ hi => absurd hi (none_ i)) ?_
    ⟨H.size, H.defers, H.below.drew, H.env, fun j _ _ _ _ hj => absurd hj (none_ j), fun x hx => ⟨H.own x hx, (H.heap x hx).lt⟩, H.apart, fun k x hx _ => H.heap x (List.mem_iff_getElem?.2 ⟨k, hx⟩), fun k x j _ _ _ _ _ _ _ hl => absurd hl (none_ j), fun j _ _ _ _ hl => absurd hl (none_ j), fun j _ _ _ _ hl => absurd hl (none_ j), fun j _ _ _ _ _ _ _ _ _ _ hl => absurd hl (none_ j), fun j _ _ _ _ _ _ _ _ _ hl => absurd hl (none_ j)⟩
  have := left_le (Array.replicate ops.size false) plan.length
  omega
end
end Go.Proofs.YtpagiffbjofihaaDoor
namespace Go.Proofs.YtpagiffbjofihaaDoor
set_option linter.unusedVariables false
set_option linter.unusedSimpArgs false
open Go Go.RowKit
/-- One operation: its slot, what holds of its value, which operations' values it hangs on. -/
structure Fct where
  d : Nat
  F : Value → World → Prop
  ps : List Nat
  /-- It need not hold any more once this operation has come. -/
  til : Option Nat := none
  /-- It writes on what an operation before it has made. -/
  own : Bool := false
/-- What is known where the values of some operations are there. -/
def Chain (plan : List Fct) (w : World) (K : Env → Prop) : List Nat → Env → Prop
  | [], e => K e
  | j :: r, e => match plan[j]? with
    | some it => ∀ v, it.F v w → Chain plan w K r ((it.d, v) :: e)
    | none => Chain plan w K r e
abbrev Rel := World → World → Prop
/-- How the world turns by it: R; by what writes: R'. -/
def Fct.rel (R R' : Rel) (it : Fct) : Rel := bif it.own then R' else R
def Fct.ob (P : Program) (R R' : Rel) (ops : Array Oper) (Q : Exit → Act → World → Prop) (n : Nat) (w0 : World) (e : Env) (h : Hep) (plan : List Fct) (o : Oper) (it : Fct) : Prop :=
  (∀ a w, Chain plan w (fun e' => St n w0 a w e' h → Region.wanted o (yielded ops a.tmps) = true ∧ o.wp P a w (fun a' w' => ∃ v, a' = a.put o.dst v ∧ it.rel R R' w w' ∧ it.F v w') Q) it.ps e) ∧ (∀ v w w', it.F v w → R w w' → it.F v w') ∧ (it.til = none → ∀ v w w', it.F v w → R' w w' → it.F v w')
def ObsF (P : Program) (R R' : Rel) (ops : Array Oper) (Q : Exit → Act → World → Prop) (n : Nat) (w0 : World) (e : Env) (h : Hep) (plan : List Fct) : List Oper → List Fct → Prop
  | o :: os, it :: r => it.ob P R R' ops Q n w0 e h plan o ∧ ObsF P R R' ops Q n w0 e h plan os r
  | _, _ => True
def psOkF : List Nat → List Fct → Bool
  | m :: ms, it :: r => it.ps.all (fun j => Nat.testBit m j) && psOkF ms r
  | _, [] => true
  | [], _ :: _ => false
def dstOkF : List Oper → List Fct → Bool
  | o :: os, it :: r => (match o.dst with | some d => Nat.beq d it.d | none => false) && dstOkF os r
  | _, [] => true
  | [], _ :: _ => false
def headOkF (ms : List Nat) (m : Nat) : List Nat → Bool
  | [] => true
  | x :: _ => sub2 (Nat.shiftLeft 1 m - 1) (closeM ms m x)
/-- What one hangs on holds till it comes. -/
def tilOk (plan : List Fct) (i : Nat) (j : Nat) : Bool := match plan[j]? with
  | some jt => (match jt.til with | none => true | some k => Nat.beq k i)
  | none => true
/-- What holds for a while alone does not, or no more, when another one writes. -/
def ownOk (ms : List Nat) (plan : List Fct) (i : Nat) : Bool := (List.range plan.length).all fun j => match plan[j]? with
  | some jt => (match jt.til with | none => true | some k => Nat.beq k i || Nat.beq j i || Nat.testBit (closeM ms i (ms.getD i 0)) k || Nat.testBit (closeM ms j (ms.getD j 0)) i)
  | none => true
def lastOk (ms : List Nat) (plan : List Fct) : Bool := (List.range plan.length).all fun i => match plan[i]? with
  | some it => it.ps.all (tilOk plan i) && (!it.own || ownOk ms plan i)
  | none => true
def planOkF (ops : Array Oper) (n : Nat) (e : Env) (plan : List Fct) (ms : List Nat) : Bool :=
  Nat.ble plan.length ops.size && downs 0 ms && psOkF ms plan && dstOkF ops.toList plan && distinct (plan.map (·.d)) && plan.all (fun it => Nat.blt it.d n && e.all (fun p => !Nat.beq p.1 it.d)) && lineUp ms plan.length plan.length (ms.drop plan.length) && headOkF ms plan.length (ms.drop plan.length) && lastOk ms plan
section
variable {P : Program} {n : Nat} {w0 w w' : World} {a : Act} {e : Env} {h : Hep} {Q : Exit → Act → World → Prop} {ops : Array Oper} {plan : List Fct} {ms : List Nat} {rest : List Oper} {o : Oper} {R R' : Rel}
structure MidF (plan : List Fct) (n : Nat) (w0 : World) (e : Env) (h : Hep) (l : Array Bool) (a : Act) (w : World) : Prop where
  base : St n w0 a w e h
  vals : ∀ (j : Nat) (it : Fct), plan[j]? = some it → l.getD j false = true → (∀ k, it.til = some k → ¬ l.getD k false = true) → ∃ v, a.tmps[it.d]? = some v ∧ it.F v w
theorem Chain.get {K : Env → Prop} {ps : List Nat} (hv : ∀ j ∈ ps, ∀ (it : Fct), plan[j]? = some it → ∃ v, a.tmps[it.d]? = some v ∧ it.F v w) : ∀ {e : Env}, Chain plan w K ps e → St n w0 a w e h → ∃ e', K e' ∧ St n w0 a w e' h := by
  induction ps with
  | nil => intro e hc he; exact ⟨e, hc, he⟩
  | cons j r ih =>
    intro e hc he
    unfold Chain at hc
    have hr : ∀ j ∈ r, ∀ (it : Fct), plan[j]? = some it → ∃ v, a.tmps[it.d]? = some v ∧ it.F v w := fun k hk => hv k (List.mem_cons_of_mem _ hk)
    cases hj : plan[j]? with
    | none =>
      rw [hj] at hc
      exact ih hr hc he
    | some it =>
      rw [hj] at hc
      obtain ⟨v, h1, h2⟩ := hv j List.mem_cons_self it hj
      refine ih hr (hc v h2) ⟨he.size, he.defers, fun p hp => ?_, he.below, he.heap, he.own, he.apart⟩
      rcases List.mem_cons.1 hp with rfl | hp
      · exact h1
      · exact he.env p hp
theorem MidF.put {l : Array Bool} (H : MidF plan n w0 e h l a w) {i : Nat} {it : Fct} {v : Value} (hi : plan[i]? = some it) (hlt : it.d < n) (he : ∀ p ∈ e, p.1 ≠ it.d)
    (hd : ∀ (j : Nat) (jt : Fct), plan[j]? = some jt → j ≠ i → jt.d ≠ it.d)
    (hst : ∀ (j : Nat) (jt : Fct), plan[j]? = some jt → j ≠ i → l.getD j false = true → (∀ k, jt.til = some k → ¬ (l.setIfInBounds i true).getD k false = true) → ∀ (v : Value), jt.F v w → jt.F v w')
    (hb : St n w0 a w' e h) (hF : it.F v w') : MidF plan n w0 e h (l.setIfInBounds i true) (a.put (some it.d) v) w' := by
  have hlt' : it.d < a.tmps.size := by rw [H.base.size]; exact hlt
  have keep : ∀ k x, k ≠ it.d → a.tmps[k]? = some x → (a.put (some it.d) v).tmps[k]? = some x := fun k x hne hx => by
    show (a.tmps.setIfInBounds it.d v)[k]? = some x
    rw [Array.getElem?_setIfInBounds_ne (Ne.symm hne)]
    exact hx
  refine ⟨⟨by simp [Act.put, H.base.size], H.base.defers, fun p hp => keep _ _ (he p hp) (H.base.env p hp), hb.below, hb.heap, hb.own, hb.apart⟩, fun j jt hj hl ht => ?_⟩
  by_cases hji : j = i
  · subst hji
    rw [hi] at hj
    injection hj with hj
    subst hj
    refine ⟨v, ?_, hF⟩
    show (a.tmps.setIfInBounds it.d v)[it.d]? = some v
    simp [hlt']
  · have hl' := listed_set hl hji
    obtain ⟨u, h1, h2⟩ := H.vals j jt hj hl' (fun k hk h3 => ht k hk (getD_set_true h3))
    exact ⟨u, keep _ _ (hd j jt hj hji) h1, hst j jt hj hji hl' ht _ h2⟩
theorem ObsF_get {os : List Oper} {r : List Fct} (ho : ObsF P R R' ops Q n w0 e h plan os r) : ∀ (j : Nat) (o : Oper) (it : Fct), os[j]? = some o → r[j]? = some it → it.ob P R R' ops Q n w0 e h plan o := by
  induction os generalizing r with
  | nil => intro j o it h1; cases h1
  | cons o0 os ih =>
    cases r with
    | nil => intro j o it _ h2; cases h2
    | cons it0 r =>
      intro j o it h1 h2
      obtain ⟨ho1, ho2⟩ := ho
      cases j with
      | zero =>
        injection h1 with h1
        injection h2 with h2
        subst h1 h2
        exact ho1
      | succ j => exact ih ho2 j o it h1 h2
theorem dstOkF_get {os : List Oper} {r : List Fct} (hd : dstOkF os r = true) : ∀ (j : Nat) (o : Oper) (it : Fct), os[j]? = some o → r[j]? = some it → o.dst = some it.d := by
  induction os generalizing r with
  | nil => intro j o it h1; cases h1
  | cons o0 os ih =>
    cases r with
    | nil => intro j o it _ h2; cases h2
    | cons it0 r =>
      intro j o it h1 h2
      unfold dstOkF at hd
      rw [Bool.and_eq_true] at hd
      cases j with
      | zero =>
        injection h1 with h1
        injection h2 with h2
        subst h1 h2
        have := hd.1
        cases hdst : o0.dst with
        | none => rw [hdst] at this; cases this
        | some d =>
          rw [hdst] at this
          rw [Nat.eq_of_beq_eq_true this]
      | succ j => exact ih hd.2 j o it h1 h2
theorem psOkF_get {l : List Nat} {r : List Fct} (hp : psOkF l r = true) : ∀ (j m : Nat) (it : Fct), l[j]? = some m → r[j]? = some it → ∀ k ∈ it.ps, m.testBit k = true := by
  induction l generalizing r with
  | nil => intro j m it h1; cases h1
  | cons m0 l ih =>
    cases r with
    | nil => intro j m it _ h2; cases h2
    | cons it0 r =>
      intro j m it h1 h2 k hk
      unfold psOkF at hp
      rw [Bool.and_eq_true] at hp
      cases j with
      | zero =>
        injection h1 with h1
        injection h2 with h2
        subst h1 h2
        exact List.all_eq_true.1 hp.1 k hk
      | succ j => exact ih hp.2 j m it h1 h2 k hk
theorem any_planF (hR : ∀ a w w', St n w0 a w e h → R w w' → St n w0 a w' e h) (hR' : ∀ a w w', St n w0 a w e h → R' w w' → St n w0 a w' e h) (hm : masks ops = ms) (hk : planOkF ops n e plan ms = true) (ho : ObsF P R R' ops Q n w0 e h plan ops.toList plan)
    (tail : ∀ a w, (∀ (j : Nat) (it : Fct), plan[j]? = some it → it.til = none → ∃ v, a.tmps[it.d]? = some v ∧ it.F v w) → St n w0 a w e h → wpList P ops Q (ops.toList.drop plan.length) a w) :
    ∀ (fuel : Nat) (l : Array Bool) (a : Act) (w : World), l.size = ops.size → Down ops l → (∀ i, plan.length ≤ i → ¬ l.getD i false = true) → ops.size - plan.length + left l plan.length ≤ fuel → MidF plan n w0 e h l a w → wpAny P .any ops Q fuel l a w := by
  unfold planOkF at hk
  simp only [Bool.and_eq_true] at hk
  obtain ⟨⟨⟨⟨⟨⟨⟨⟨k1, k2⟩, k3⟩, k4⟩, k5⟩, k6⟩, k7⟩, k8⟩, k9⟩ := hk
  have hlen : plan.length ≤ ops.size := Nat.le_of_ble_eq_true k1
  have hmsl : ms.length = ops.size := by rw [← hm]; simp [masks]
  have after_all : ∀ (l : Array Bool) (i : Nat), l.size = ops.size → Down ops l → (∀ i, plan.length ≤ i → ¬ l.getD i false = true) → i ∈ Region.ready .any ops l → plan.length ≤ i → ∀ j, j < plan.length → l.getD j false = true := by
    intro l i hs hd hB hr hge
    obtain ⟨_, o, hoo, _⟩ := mem_ready.1 hr
    have hilt : i < ops.size := (Array.getElem?_eq_some_iff.1 hoo).1
    have hg := masks_get hm hoo
    have e2 : ms.getD i 0 = maskOf (waits o) := by simp [hg]
    have hlist : ∀ j, (closeM ms i (maskOf (waits o))).testBit j = true → l.getD j false = true := fun j hc => close_listed hm hd hs i (maskOf (waits o)) (fun j hj => ready_waits hm hr j (by rw [e2]; exact hj)) j hc
    have hg2 : (ms.drop plan.length)[i - plan.length]? = some (maskOf (waits o)) := by
      rw [List.getElem?_drop, show plan.length + (i - plan.length) = i by omega]
      exact hg
    have him : i = plan.length := by
      apply Nat.le_antisymm _ hge
      apply Nat.le_of_not_lt
      intro hlt
      have hc := lineUp_get (Nat.le_refl _) k7 (i - plan.length) _ hg2 plan.length (Nat.le_refl _) (by omega)
      rw [show plan.length + (i - plan.length) = i by omega] at hc
      exact hB plan.length (Nat.le_refl _) (hlist _ hc)
    subst him
    have hdr : ms.drop plan.length = maskOf (waits o) :: ms.drop (plan.length + 1) := by
      have hlt2 : plan.length < ms.length := by omega
      rw [List.drop_eq_getElem_cons hlt2]
      congr 1
      rw [List.getElem?_eq_getElem hlt2] at hg
      exact Option.some.inj hg
    rw [hdr] at k8
    unfold headOkF at k8
    intro j hj
    have hbit : (Nat.shiftLeft 1 plan.length - 1).testBit j = true := by rw [low_bit]; exact decide_eq_true hj
    exact hlist j (sub2_get k8 hbit)
  have fin : ∀ (fuel : Nat) (l : Array Bool) (a : Act) (w : World), l.size = ops.size → (∀ i, plan.length ≤ i → ¬ l.getD i false = true) → (∀ j, j < plan.length → l.getD j false = true) → ops.size - plan.length ≤ fuel → MidF plan n w0 e h l a w → wpAny P .any ops Q fuel l a w := by
    intro fuel l a w hs hB hall hf H
    refine any_tail hm k2 k7 fuel plan.length l a w (Nat.le_refl _) hlen hf hs (fun i hi => ⟨fun h1 => ?_, fun h1 => hall i h1⟩) (tail a w (fun j it hj ht => H.vals j it hj (hall j (List.getElem?_eq_some_iff.1 hj).1) (fun k hk => by rw [ht] at hk; cases hk)) H.base)
    exact Classical.byContradiction fun hn => hB i (by omega) h1
  intro fuel
  induction fuel with
  | zero =>
    intro l a w hs hd hB hf H
    exact fin 0 l a w hs hB (left_zero (by omega)) (by omega) H
  | succ fuel ih =>
    intro l a w hs hd hB hf H
    by_cases hall : ∀ j, j < plan.length → l.getD j false = true
    · exact fin _ l a w hs hB hall (by omega) H
    have hex : ∃ i, i < plan.length ∧ ¬ l.getD i false = true := Classical.byContradiction fun hn => hall fun j hj => Classical.byContradiction fun hu => hn ⟨j, hj, hu⟩
    obtain ⟨i0, hi0, hu0, hlow⟩ := first_left _ hex
    refine ⟨fun hnil => ?_, fun i hr => ?_⟩
    · exfalso
      have hlt : i0 < ops.size := by omega
      have hin : i0 ∈ Region.ready .any ops l := by
        refine mem_ready.2 ⟨?_, ops[i0], Array.getElem?_eq_getElem hlt, fun x hx hb => hlow _ ?_⟩
        · have hl2 : i0 < l.size := by omega
          simp [Array.getElem?_eq_getElem hl2] at hu0 ⊢
          exact hu0
        · have hg := masks_get hm (Array.getElem?_eq_getElem hlt)
          have hx2 : (maskOf (waits ops[i0])).testBit x.on = true := maskOf_bit.2 (mem_waits.2 ⟨x, hx, hb, rfl⟩)
          have := downs_get k2 i0 _ hg x.on hx2
          omega
      rw [hnil] at hin
      cases hin
    · have hu := not_listed hr
      have hilt : i < plan.length := by
        apply Nat.lt_of_not_le
        intro hge
        exact hu0 (after_all l i hs hd hB hr hge i0 hi0)
      have hios : i < ops.size := by omega
      have hit : plan[i]? = some plan[i] := List.getElem?_eq_getElem hilt
      have hoi : ops[i]? = some ops[i] := Array.getElem?_eq_getElem hios
      have hoi2 : ops.toList[i]? = some ops[i] := by simp [hios]
      have hob := ObsF_get ho i _ _ hoi2 hit
      have hdst := dstOkF_get k4 i _ _ hoi2 hit
      have hg := masks_get hm hoi
      have e2 : ms.getD i 0 = maskOf (waits ops[i]) := by simp [hg]
      have hps : ∀ j ∈ plan[i].ps, l.getD j false = true := fun j hj => ready_waits hm hr j (by rw [e2]; exact psOkF_get k3 i _ _ hg hit j hj)
      have h6 := List.all_eq_true.1 k6 _ (List.getElem_mem hilt)
      rw [Bool.and_eq_true] at h6
      have hdn : plan[i].d < n := by
        have := h6.1
        rw [Nat.blt_eq] at this
        exact this
      have hen : ∀ p ∈ e, p.1 ≠ plan[i].d := fun p hp e1 => by
        have := List.all_eq_true.1 h6.2 p hp
        rw [e1, Nat.beq_refl] at this
        cases this
      have hdd : ∀ j jt, plan[j]? = some jt → j ≠ i → jt.d ≠ plan[i].d := fun j jt hj hne =>
        distinct_get k5 j i jt.d plan[i].d (by rw [List.getElem?_map, hj]; rfl) (by rw [List.getElem?_map, hit]; rfl) hne
      have hs2 : (l.setIfInBounds i true).size = ops.size := by simpa using hs
      have hd2 := down_set hd hr
      have hB2 : ∀ j, plan.length ≤ j → ¬ (l.setIfInBounds i true).getD j false = true := fun j hj hl => hB j hj (listed_set hl (by omega))
      have hf2 : ops.size - plan.length + left (l.setIfInBounds i true) plan.length ≤ fuel := by
        have := left_set (l := l) (i := i) (by omega) hu plan.length hilt
        omega
      unfold wpOp
      rw [hoi]
      dsimp only
      have hin := List.all_eq_true.1 k9 i (List.mem_range.2 hilt)
      rw [hit] at hin
      simp only [Bool.and_eq_true] at hin
      obtain ⟨hin1, hin2⟩ := hin
      obtain ⟨e', hob2, hst⟩ := Chain.get (fun j hj it hjt => H.vals j it hjt (hps j hj) (fun k hk hl => by
        have := List.all_eq_true.1 hin1 j hj
        unfold tilOk at this
        rw [hjt] at this
        simp only [hk] at this
        rw [Nat.eq_of_beq_eq_true this] at hl
        exact hu hl)) (hob.1 a w) H.base
      obtain ⟨hw, hwp⟩ := hob2 hst
      rw [hw, if_pos rfl]
      refine .inl (Oper.wp_mono (fun a' w' hx => ?_) hwp)
      obtain ⟨v, rfl, hb, hF⟩ := hx
      rw [hdst]
      have stab : ∀ (j : Nat) (jt : Fct), plan[j]? = some jt → (∀ v w w', jt.F v w → R w w' → jt.F v w') ∧ (jt.til = none → ∀ v w w', jt.F v w → R' w w' → jt.F v w') := fun j jt hj => by
        have hjl : j < ops.size := by have := (List.getElem?_eq_some_iff.1 hj).1; omega
        exact (ObsF_get ho j ops[j] jt (by simp [hjl]) hj).2
      cases hown : plan[i].own with
      | false =>
        unfold Fct.rel at hb
        rw [hown] at hb
        exact ih _ _ _ hs2 hd2 hB2 hf2 (H.put hit hdn hen hdd (fun j jt hj _ _ _ v hv => (stab j jt hj).1 v w w' hv hb) (hR _ _ _ H.base hb) hF)
      | true =>
        unfold Fct.rel at hb
        rw [hown] at hb
        rw [hown] at hin2
        have hin2 : ownOk ms plan i = true := by simpa using hin2
        refine ih _ _ _ hs2 hd2 hB2 hf2 (H.put hit hdn hen hdd (fun j jt hj hne hl ht v hv => ?_) (hR' _ _ _ H.base hb) hF)
        cases htil : jt.til with
        | none => exact (stab j jt hj).2 htil v w w' hv hb
        | some k =>
          exfalso
          have hnk := ht k htil
          have hjp : j < plan.length := (List.getElem?_eq_some_iff.1 hj).1
          have hc := List.all_eq_true.1 hin2 j (List.mem_range.2 hjp)
          rw [hj] at hc
          simp only [htil, Bool.or_eq_true] at hc
          rcases hc with ((hc | hc) | hc) | hc
          · rw [Nat.eq_of_beq_eq_true hc] at hnk
            exact hnk (by simp [show i < l.size by omega])
          · exact hne (Nat.eq_of_beq_eq_true hc)
          · exact hnk (getD_set_true (close_listed hm hd hs i _ (ready_waits hm hr) k hc))
          · have hjo : j < ops.size := by omega
            have hgj := masks_get hm (Array.getElem?_eq_getElem hjo)
            have e3 : ms.getD j 0 = maskOf (waits ops[j]) := by simp [hgj]
            refine hu (close_listed hm hd hs j _ (fun m hm2 => ?_) i hc)
            rw [e3, maskOf_bit, mem_waits] at hm2
            obtain ⟨x, hx, hb3, rfl⟩ := hm2
            exact hd j _ (Array.getElem?_eq_getElem hjo) hl x hx hb3
/-- **The region.** js: the operations whose values the rest asks for. -/
theorem drawnR {id : Nat} (R R' : Rel) (plan : List Fct) (ms js : List Nat) (hR : ∀ a w w', St n w0 a w e h → R w w' → St n w0 a w' e h) (hR' : ∀ a w w', St n w0 a w e h → R' w w' → St n w0 a w' e h) (hf : P.follows .mixedOrders = true) (hm : masks ops = ms) (hk : planOkF ops n e plan ms = true) (H : St n w0 a w e h) (ho : ObsF P R R' ops Q n w0 e h plan ops.toList plan)
    (hl : js.all (fun j => match plan[j]? with | some jt => jt.til.isNone | none => true) = true)
    (tail : ∀ a w, Chain plan w (fun e' => St n w0 a w e' h → wpList P ops Q (ops.toList.drop plan.length) a w) js e) : (Code.region id ops true).wp P Q a w := by
  refine wp_region_any hf ?_
  have none_ : ∀ i, ¬ (Array.replicate ops.size false).getD i false = true := fun i hi => by
    by_cases h : i < ops.size
    · simp [h] at hi
    · simp [h] at hi
  refine any_planF hR hR' hm hk ho (fun a w hv hst => ?_) ops.size _ a w.drew (by simp) (fun i o _ hi => absurd hi (none_ i)) (fun i _ => none_ i) ?_ ⟨H.drew, fun j _ _ hj => absurd hj (none_ j)⟩
  · obtain ⟨e', h1, h2⟩ := Chain.get (fun j hjs it hj => hv j it hj (by
      have := List.all_eq_true.1 hl j hjs
      rw [hj] at this
      simpa using this)) (tail a w) hst
    exact h1 h2
  · have := left_le (Array.replicate ops.size false) plan.length
    unfold planOkF at hk
    simp only [Bool.and_eq_true] at hk
    have := Nat.le_of_ble_eq_true hk.1.1.1.1.1.1.1.1
    omega
end
/-- What was there keeps its cells; what is told whole (h) stays as it was. -/
structure Grow (B : Nat) (h : Hep) (w w' : World) : Prop where
  below : Below B w w'
  cells : ∀ p : Addr, p.block < w.heap.size → w'.cell? p = w.cell? p
  objs : ∀ (g : Nat) (C : Array Value) (t : TypeId) (fr : Nat × Nat), w.heap[g]? = some (.cells C t fr) → ∃ fr', w'.heap[g]? = some (.cells C t fr')
  blks : ∀ x ∈ h, x.1 < w.heap.size → w'.heap[x.1]? = w.heap[x.1]?
theorem gro {B : Nat} {h : Hep} {w w' : World} (hb : Below w.heap.size w w') (hB : B ≤ w.heap.size) : Grow B h w w' :=
  ⟨hb.mono hB, fun p hp => hb.cell hp, fun g C t fr hg => ⟨fr, (hb.block g (Array.getElem?_eq_some_iff.1 hg).1).trans hg⟩, fun x _ hx => hb.block x.1 hx⟩
section
variable {P : Program} {n : Nat} {w0 w w' : World} {a : Act} {e : Env} {h : Hep} {Q : Exit → Act → World → Prop} {ops : Array Oper} {rest : List Oper} {o : Oper}
theorem grow_st : ∀ (a : Act) (w w' : World), St n w0 a w e h → Grow w0.heap.size h w w' → St n w0 a w' e h := fun a w w' H hb =>
  ⟨H.size, H.defers, H.env, H.below.trans hb.below, fun p hp => (hb.blks p hp (H.heap p hp).lt).trans (H.heap p hp), H.own, H.apart⟩
/-- One operation, in the text's order. -/
theorem pl_F {d : Nat} {F : Value → World → Prop} (hob : Region.wanted o (yielded ops a.tmps) = true ∧ o.wp P a w (fun a' w' => ∃ v, a' = a.put o.dst v ∧ Grow w0.heap.size h w w' ∧ F v w') Q) (hdst : o.dst = some d) (hl : Nat.blt d n = true) (hf : e.all (fun p => !Nat.beq p.1 d) = true)
    (H : St n w0 a w e h) (next : ∀ v a w', F v w' → Grow w0.heap.size h w w' → St n w0 a w' ((d, v) :: e) h → wpList P ops Q rest a w') : wpList P ops Q (o :: rest) a w :=
  wpList_step fun K hK => by
    rw [hob.1, if_pos rfl]
    exact Oper.wp_mono (fun a' w' hw => by
      obtain ⟨v, rfl, hb, hF⟩ := hw
      refine hK _ _ (next v _ _ hF hb ?_)
      rw [hdst]
      exact (grow_st _ _ _ H hb).put v hl hf) hob.2
theorem pl_V {d : Nat} {F : Value → World → Prop} (hob : Region.wanted o (yielded ops a.tmps) = true ∧ o.wp P a w (fun a' w' => ∃ v, a' = a.put o.dst v ∧ Grow w0.heap.size h w w' ∧ F v w') Q) (hdst : o.dst = some d) (hl : Nat.blt d n = true) (hf : e.all (fun p => !Nat.beq p.1 d) = true)
    (H : St n w0 a w e h) (next : ∀ v a w', F v w' → St n w0 a w' ((d, v) :: e) h → wpList P ops Q rest a w') : wpList P ops Q (o :: rest) a w :=
  pl_F hob hdst hl hf H fun v a w' hF _ => next v a w' hF
abbrev Ob (P : Program) (ops : Array Oper) (Q : Exit → Act → World → Prop) (B : Nat) (h : Hep) (o : Oper) (a : Act) (w : World) (F : Value → World → Prop) : Prop :=
  Region.wanted o (yielded ops a.tmps) = true ∧ o.wp P a w (fun a' w' => ∃ v, a' = a.put o.dst v ∧ Grow B h w w' ∧ F v w') Q
theorem ob_val {V : Value} (H : St n w0 a w e h) (hw : ∀ a w, St n w0 a w e h → Region.wanted o (yielded ops a.tmps) = true) (hd : Does P Q n w0 e h o V) : Ob P ops Q w0.heap.size h o a w (fun v _ => v = V) :=
  ⟨hw a w H, Oper.wp_mono (fun a' w' hx => ⟨V, hx.1, gro hx.2 H.below.size, rfl⟩) (hd a w H)⟩
theorem ob_run {F : Value → World → Prop} (H : St n w0 a w e h) (hw : ∀ a w, St n w0 a w e h → Region.wanted o (yielded ops a.tmps) = true) (hr : ∃ v w', (execOp a.eval o).run P w = .ok (.value v) w' ∧ Grow w0.heap.size h w w' ∧ F v w') : Ob P ops Q w0.heap.size h o a w F := by
  refine ⟨hw a w H, ?_⟩
  obtain ⟨v, w', h1, h2, h3⟩ := hr
  unfold Oper.wp
  rw [h1]
  exact ⟨v, rfl, h2, h3⟩
theorem ob_call {f : FuncId} {args : List Operand} {tys : Array TypeId} {vs : List Value} {F : Value → World → Prop} (H : St n w0 a w e h) (hw : ∀ a w, St n w0 a w e h → Region.wanted o (yielded ops a.tmps) = true)
    (ho : o.op = .call { callee := .value (.func f), args := args.toArray, argTypes := tys }) (hf : Ours P f) (hx : sevs e args = some vs)
    (hc : Calls P f vs.toArray w (fun r W' => ∃ v, r = .returned v ∧ Below w.heap.size w W' ∧ F v W')) : Ob P ops Q w0.heap.size h o a w F := by
  refine ⟨hw a w H, ?_⟩
  unfold Oper.wp
  rw [run_call ho hf rfl, H.evs hx, Oper.upon_enter]
  refine hc.mono ?_
  rintro r W' ⟨v, rfl, hb, hF⟩
  exact ⟨v, rfl, gro hb H.below.size, hF⟩
theorem ob_cal {f : FuncId} {args : List Operand} {tys : Array TypeId} {vs : List Value} {V : Value} (H : St n w0 a w e h) (hw : ∀ a w, St n w0 a w e h → Region.wanted o (yielded ops a.tmps) = true)
    (ho : o.op = .call { callee := .value (.func f), args := args.toArray, argTypes := tys }) (hf : Ours P f) (hx : sevs e args = some vs)
    (hc : Calls P f vs.toArray w (fun r W' => r = .returned V ∧ Below w.heap.size w W')) : Ob P ops Q w0.heap.size h o a w (fun v _ => v = V) :=
  ob_call H hw ho hf hx (hc.mono fun r W' ⟨h1, h2⟩ => ⟨V, h1, h2, rfl⟩)
theorem St.add (H : St n w0 a w e h) {g : Nat} {t : TypeId} {z : Array Value} (hb : Blk w g t z) (ho : w0.heap.size ≤ g) (hn : ∀ p ∈ h, p.1 ≠ g) : St n w0 a w e ((g, t, z) :: h) := by
  refine ⟨H.size, H.defers, H.env, H.below, fun p hp => ?_, fun p hp => ?_, List.pairwise_cons.2 ⟨fun p hp => Ne.symm (hn p hp), H.apart⟩⟩
  · rcases List.mem_cons.1 hp with rfl | hp
    · exact hb
    · exact H.heap p hp
  · rcases List.mem_cons.1 hp with rfl | hp
    · exact ho
    · exact H.own p hp
theorem val_grow {R : Rel} {V : Value} : ∀ (v : Value) (w w' : World), v = V → R w w' → v = V := fun _ _ _ h _ => h
theorem St.blk (H : St n w0 a w e h) {k g : Nat} {t : TypeId} {cs : Array Value} (hk : h[k]? = some (g, t, cs)) : Blk w g t cs := H.heap (g, t, cs) (List.mem_iff_getElem?.2 ⟨k, hk⟩)
/-- A slice of what a pointer leads to, or of a slice. -/
theorem does_slice {t : TypeId} {x : Operand} {lo hi : Option Operand} {u v : Value} {vl vh : Option Value} (ho : o.op = .slice t x lo hi none) (hx : sev e x = some u) (hl : lo.map (sev e) = vl.map some) (hh : hi.map (sev e) = vh.map some)
    (hv : ∀ W, (Instr.sliceAt t u vl vh none).run P W = .ok v W) : Does P Q n w0 e h o v := does_run fun a w H => by
  unfold execOp
  have el : lo.map a.eval = vl := by
    cases lo with
    | none => cases vl with
      | none => rfl
      | some _ => cases hl
    | some x => cases vl with
      | none => cases hl
      | some y => injection hl with hl; exact congrArg some (H.ev hl)
  have eh : hi.map a.eval = vh := by
    cases hi with
    | none => cases vh with
      | none => rfl
      | some _ => cases hh
    | some x => cases vh with
      | none => cases hh
      | some y => injection hh with hh; exact congrArg some (H.ev hh)
  simp only [ho, H.ev hx, el, eh, Option.map_none, Sem.run_bind, hv, Result.andThen_ok, Sem.run_pure]
theorem does_len {x : Operand} {t el : TypeId} {A : Option Addr} {k c : Nat} (hu : P.underlying t = some (.slice el)) (ho : o.op = .call { callee := .builtin .len, args := #[x], argTypes := #[t] }) (hx : sev e x = some (.slice A k c)) : Does P Q n w0 e h o (.int .i64 (k : Int)) := does_run fun a w H => by
  simp [execOp, ho, resolve, invoke, builtin, H.ev hx, Builtin.len_, Builtin.lenOf, goInt, run_underlying hu, Result.andThen]
/-- A copy onto a block that is known, out of a block that is known. -/
def splice (cur : Array Value) (off : Nat) (cs : List Value) : Array Value := (cur.toList.take off ++ cs ++ cur.toList.drop (off + cs.length)).toArray
theorem pl_copy {x y : Operand} {d : Nat} {dT sT elem : TypeId} {g off dl dc k gs so sl sc k2 m : Nat} {t ts : TypeId} {cur src c : Array Value} (ho : o.op = .call { callee := .builtin .copy, args := #[x, y], argTypes := #[dT, sT] })
    (hu : P.underlying dT = some (.slice elem)) (hsz : (P.info? elem).map (·.size) = some 1)
    (hx : sev e x = some (.slice (some ⟨g, off, none⟩) dl dc)) (hy : sev e y = some (.slice (some ⟨gs, so, none⟩) sl sc)) (hk : h[k]? = some (g, t, cur)) (hk2 : h[k2]? = some (gs, ts, src))
    (hm : Nat.min sl dl = m) (hs : so + m ≤ src.size) (hd : off + m ≤ cur.size) (h1 : src.all (·.oneCell') = true) (hc : splice cur off ((src.toList.drop so).take m) = c)
    (hg : o.guard = none) (hdst : o.dst = some d) (hl : Nat.blt d n = true) (hf : e.all (fun p => !Nat.beq p.1 d) = true)
    (H : St n w0 a w e h) (next : ∀ a w', St n w0 a w' ((d, .int .i64 (m : Int)) :: e) (h.set k (g, t, c)) → wpList P ops Q rest a w') : wpList P ops Q (o :: rest) a w :=
  wpList_plain hg fun K hK => by
    have hb := H.blk hk
    have hb2 := H.blk hk2
    have hlen : ((src.toList.drop so).take m).length = m := by simp; omega
    have hrun := run_copy_row (P := P) w dT sT o.type elem g off dl dc ⟨gs, so, none⟩ sl sc cur t ((src.toList.drop so).take m) hu hsz hb (by rw [hlen, hm]) (fun j v hv => by
      rw [Addr.add_lit, hb2.cell]
      rw [List.getElem?_take] at hv
      split at hv
      · rw [List.getElem?_drop] at hv
        rw [← Array.getElem?_toList]
        exact hv
      · cases hv) (by rw [hlen]; exact hd) (fun v hv => by
      have := List.mem_of_mem_drop (List.mem_of_mem_take hv)
      rw [Array.all_eq_true'] at h1
      exact h1 v (by simpa using this))
    rw [show (cur.toList.take off ++ (src.toList.drop so).take m ++ cur.toList.drop (off + ((src.toList.drop so).take m).length)).toArray = c from hc] at hrun
    unfold Oper.wp
    simp [execOp, ho, resolve, invoke, builtin, H.ev hx, H.ev hy, hrun, Result.andThen]
    refine hK _ _ (next _ _ ?_)
    rw [hdst]
    have e1 : min m (src.size - so) = m := by omega
    simp only [e1]
    exact (H.setRow hk c).put _ hl hf
end
end Go.Proofs.YtpagiffbjofihaaDoor
namespace Go.Proofs.YtpagiffbjofihaaDoor
set_option linter.unusedVariables false
set_option linter.unusedSimpArgs false
set_option maxRecDepth 100000
open Go Go.RowKit
def kby (n : Nat) : List UInt8 := (kb n).map UInt8.ofNat
theorem kby_len (n : Nat) : (kby n).length = 32 := by rw [kby, List.length_map, kb_len]
theorem kb_lt (n : Nat) : ∀ x ∈ kb n, x < 256 := by
  intro x hx
  unfold kb at hx
  obtain ⟨i, _, rfl⟩ := List.mem_map.1 hx
  exact Nat.mod_lt _ (by omega)
theorem nc_byte {x : Nat} (h : x < 256) : bv (UInt8.ofNat x) = nc .u8 x := by
  unfold bv nc
  rw [UInt8.toNat_ofNat', Nat.mod_eq_of_lt (show x < 2 ^ 8 by omega)]
theorem bvs_nat {l : List Nat} (h : ∀ x ∈ l, x < 256) : bvs (l.map UInt8.ofNat) = ncs .u8 l := by
  unfold bvs ncs
  rw [List.map_map]
  congr 1
  exact List.map_congr_left fun x hx => nc_byte (h x hx)
theorem ks_kby (n : Nat) : ks n = bvs (kby n) := (bvs_nat (kb_lt n)).symm
theorem scl_clamp (n : Nat) : Scl.clampN n = putd 256 (putd 256 n 0 (n / 256 ^ 0 % 256 / 8 * 8)) 31 (n / 256 ^ 31 % 256 % 64 + 64) := rfl
theorem lim_pow : (115792089237316195423570985008687907853269984665640564039457584007913129639936 : Nat) = 256 ^ 32 := by decide +kernel
theorem lim2_pow : (13407807929942597099574024998205846127479365820592393377723561443721764030073546976801874298166903427690031858186486050853753882811946569946433649006084096 : Nat) = 256 ^ 64 := by decide +kernel
theorem kb_lo (n : Nat) : kb (n % 115792089237316195423570985008687907853269984665640564039457584007913129639936) = (Scl.lb n).take 32 := by
  have e : (Scl.lb n).take 32 = (List.range 32).map fun i => n / 256 ^ i % 256 := by
    unfold Scl.lb
    rw [← List.map_take]
    rfl
  rw [e, lim_pow]
  unfold kb
  refine List.map_congr_left fun i hi => ?_
  rw [dig_mod 256 n 32 i (by omega), if_pos (List.mem_range.1 hi)]
theorem kb_hi (n : Nat) : kb (n / 115792089237316195423570985008687907853269984665640564039457584007913129639936) = (Scl.lb n).drop 32 := by
  have e : (Scl.lb n).drop 32 = (List.range 32).map fun i => n / 256 ^ (32 + i) % 256 := by
    unfold Scl.lb
    rw [← List.map_drop, show (List.range 64).drop 32 = (List.range 32).map (fun i => 32 + i) by rfl, List.map_map]
    rfl
  rw [e, lim_pow]
  unfold kb
  refine List.map_congr_left fun i hi => ?_
  rw [Nat.div_div_eq_div_mul, ← Nat.pow_add]
theorem lb_join (a b : Nat) (ha : a < 115792089237316195423570985008687907853269984665640564039457584007913129639936) : Scl.lb (a + 115792089237316195423570985008687907853269984665640564039457584007913129639936 * b) = kb a ++ kb b := by
  rw [← List.take_append_drop 32 (Scl.lb _), ← kb_lo, ← kb_hi]
  congr 2
  · rw [Nat.add_mul_mod_self_left, Nat.mod_eq_of_lt ha]
  · rw [Nat.add_mul_div_left _ _ (by omega), Nat.div_eq_of_lt ha, Nat.zero_add]
theorem ls_toList (n : Nat) : (Scl.ls n).toList = (Scl.lb n).map (nc .u8) := by simp [Scl.ls, ncs]
theorem ks_toList (n : Nat) : (ks n).toList = (kb n).map (nc .u8) := by simp [ks, ncs]
theorem ls_one (n : Nat) : (Scl.ls n).all (·.oneCell') = true := ncs_one _ _
theorem split_two (n : Nat) : n = n % 115792089237316195423570985008687907853269984665640564039457584007913129639936 + 115792089237316195423570985008687907853269984665640564039457584007913129639936 * (n / 115792089237316195423570985008687907853269984665640564039457584007913129639936) := (Nat.mod_add_div _ _).symm
theorem splice_all {cur : Array Value} {cs : List Value} (h : cur.size = cs.length) : splice cur 0 cs = cs.toArray := by
  unfold splice
  rw [List.take_zero, List.nil_append, Nat.zero_add, List.drop_of_length_le (by simp [h]), List.append_nil]
/-- The lower half of 64 bytes onto a key. -/
theorem splice_lo (m n : Nat) : splice (ks m) 0 (((Scl.ls n).toList.drop 0).take 32) = ks (n % 115792089237316195423570985008687907853269984665640564039457584007913129639936) := by
  have e : ((Scl.ls n).toList.drop 0).take 32 = (kb (n % 115792089237316195423570985008687907853269984665640564039457584007913129639936)).map (nc .u8) := by
    rw [List.drop_zero, ls_toList, ← List.map_take, kb_lo]
  rw [e, splice_all (by rw [ks_size, List.length_map, kb_len])]
  rfl
theorem splice_hi (m n : Nat) : splice (ks m) 0 (((Scl.ls n).toList.drop 32).take 32) = ks (n / 115792089237316195423570985008687907853269984665640564039457584007913129639936) := by
  have e : ((Scl.ls n).toList.drop 32).take 32 = (kb (n / 115792089237316195423570985008687907853269984665640564039457584007913129639936)).map (nc .u8) := by
    rw [ls_toList, ← List.map_drop, ← kb_hi, ← List.map_take, List.take_of_length_le (by rw [kb_len]; omega)]
  rw [e, splice_all (by rw [ks_size, List.length_map, kb_len])]
  rfl
theorem key_cells (a : Nat) : ((ks a).toList.drop 0).take 32 = (kb a).map (nc .u8) := by
  rw [List.drop_zero, ks_toList, List.take_of_length_le (by rw [List.length_map, kb_len]; omega)]
/-- A key onto the lower half. -/
theorem splice_first (m a : Nat) (ha : a < 115792089237316195423570985008687907853269984665640564039457584007913129639936) : splice (Scl.ls m) 0 (((ks a).toList.drop 0).take 32) = Scl.ls (a + 115792089237316195423570985008687907853269984665640564039457584007913129639936 * (m / 115792089237316195423570985008687907853269984665640564039457584007913129639936)) := by
  rw [key_cells]
  unfold splice
  have e : (Scl.ls (a + 115792089237316195423570985008687907853269984665640564039457584007913129639936 * (m / 115792089237316195423570985008687907853269984665640564039457584007913129639936))) = ((kb a).map (nc .u8) ++ ((Scl.lb m).drop 32).map (nc .u8)).toArray := by
    rw [Scl.ls, lb_join _ _ ha, kb_hi, ncs, List.map_append]
  rw [e, List.take_zero, List.nil_append, ls_toList, List.length_map, kb_len, ← List.map_drop]
/-- A key onto the upper half. -/
theorem splice_second (m b : Nat) : splice (Scl.ls m) 32 (((ks b).toList.drop 0).take 32) = Scl.ls (m % 115792089237316195423570985008687907853269984665640564039457584007913129639936 + 115792089237316195423570985008687907853269984665640564039457584007913129639936 * b) := by
  rw [key_cells]
  unfold splice
  have e : (Scl.ls (m % 115792089237316195423570985008687907853269984665640564039457584007913129639936 + 115792089237316195423570985008687907853269984665640564039457584007913129639936 * b)) = (((Scl.lb m).take 32).map (nc .u8) ++ (kb b).map (nc .u8)).toArray := by
    rw [Scl.ls, lb_join _ _ (Nat.mod_lt _ (by omega)), kb_lo, ncs, List.map_append]
  rw [e, ls_toList, ← List.map_take, List.drop_of_length_le (by rw [List.length_map, List.length_map, kb_len, Scl.lb_len]; omega), List.append_nil]
theorem join_lt {a b : Nat} (ha : a < 115792089237316195423570985008687907853269984665640564039457584007913129639936) (hb : b < 115792089237316195423570985008687907853269984665640564039457584007913129639936) : a + 115792089237316195423570985008687907853269984665640564039457584007913129639936 * b < 13407807929942597099574024998205846127479365820592393377723561443721764030073546976801874298166903427690031858186486050853753882811946569946433649006084096 := by omega
theorem join_lo {a b : Nat} (ha : a < 115792089237316195423570985008687907853269984665640564039457584007913129639936) : (a + 115792089237316195423570985008687907853269984665640564039457584007913129639936 * b) % 115792089237316195423570985008687907853269984665640564039457584007913129639936 = a := by omega
theorem join_hi {a b : Nat} (ha : a < 115792089237316195423570985008687907853269984665640564039457584007913129639936) : (a + 115792089237316195423570985008687907853269984665640564039457584007913129639936 * b) / 115792089237316195423570985008687907853269984665640564039457584007913129639936 = b := by omega
theorem hi_lt {n : Nat} (hn : n < 13407807929942597099574024998205846127479365820592393377723561443721764030073546976801874298166903427690031858186486050853753882811946569946433649006084096) : n / 115792089237316195423570985008687907853269984665640564039457584007913129639936 < 115792089237316195423570985008687907853269984665640564039457584007913129639936 := by omega
theorem lo_lt (n : Nat) : n % 115792089237316195423570985008687907853269984665640564039457584007913129639936 < 115792089237316195423570985008687907853269984665640564039457584007913129639936 := Nat.mod_lt _ (by omega)
def leN : List Nat → Nat
  | [] => 0
  | x :: r => x + 256 * leN r
theorem leN_lt : ∀ {l : List Nat}, (∀ x ∈ l, x < 256) → leN l < 256 ^ l.length
  | [], _ => by decide
  | x :: r, h => by
    have h1 := h x List.mem_cons_self
    have h2 := leN_lt (l := r) fun y hy => h y (List.mem_cons_of_mem _ hy)
    rw [List.length_cons, Nat.pow_succ]
    unfold leN
    omega
theorem leN_dig : ∀ {l : List Nat}, (∀ x ∈ l, x < 256) → ∀ {i x : Nat}, l[i]? = some x → leN l / 256 ^ i % 256 = x
  | [], _, i, x, h => by simp at h
  | y :: r, h, 0, x, hx => by
    have h1 := h y List.mem_cons_self
    simp at hx
    subst hx
    unfold leN
    simp only [Nat.pow_zero, Nat.div_one]
    omega
  | y :: r, h, i + 1, x, hx => by
    have h1 := h y List.mem_cons_self
    have h2 := leN_dig (l := r) (fun y hy => h y (List.mem_cons_of_mem _ hy)) (i := i) (x := x) (by simpa using hx)
    unfold leN
    rw [Nat.pow_succ, Nat.mul_comm (256 ^ i) 256, ← Nat.div_div_eq_div_mul, show (y + 256 * leN r) / 256 = leN r by omega]
    exact h2
theorem lb_leN {l : List Nat} (hl : l.length = 64) (h : ∀ x ∈ l, x < 256) : Scl.lb (leN l) = l := by
  refine List.ext_getElem? fun i => ?_
  by_cases hi : i < 64
  · have hx : l[i]? = some l[i] := List.getElem?_eq_getElem (by omega)
    rw [Scl.lb_get _ hi, leN_dig h hx, hx]
  · rw [List.getElem?_eq_none (by rw [Scl.lb_len]; omega), List.getElem?_eq_none (by omega)]
theorem b8_lt (x : Nat) : ∀ y ∈ Sha.b8 x, y < 256 := by
  intro y hy
  simp only [Sha.b8, List.mem_cons, List.not_mem_nil, or_false] at hy
  omega
theorem hashN_lt (l : List Nat) : ∀ x ∈ Sha.hashN l, x < 256 := by
  intro x hx
  unfold Sha.hashN Sha.outS at hx
  simp only [List.mem_append] at hx
  rcases hx with h | h | h | h | h | h | h | h <;> exact b8_lt _ _ h
/-- The hash of bytes, as a number, its first byte the lowest. -/
def hN (l : List UInt8) : Nat := leN (Sha.hashN (Sha.bn l))
theorem hN_lt (l : List UInt8) : hN l < 13407807929942597099574024998205846127479365820592393377723561443721764030073546976801874298166903427690031858186486050853753882811946569946433649006084096 := by
  rw [lim2_pow]
  exact leN_lt (hashN_lt _)
theorem hN_row (l : List UInt8) : ncs .u8 (Sha.hashN (Sha.bn l)) = Scl.ls (hN l) := by
  unfold Scl.ls hN
  rw [lb_leN rfl (hashN_lt _)]
attribute [irreducible] hN
def clampK (n : Nat) : Nat := Scl.clampN n
theorem clampK_lt {n : Nat} : clampK n < 115792089237316195423570985008687907853269984665640564039457584007913129639936 ∨ ¬ n < 115792089237316195423570985008687907853269984665640564039457584007913129639936 := by
  by_cases h : n < 115792089237316195423570985008687907853269984665640564039457584007913129639936
  · left
    unfold clampK
    rw [scl_clamp]
    unfold putd
    omega
  · exact .inr h
def num (l : List UInt8) : Nat := hN l % LL'
theorem num_lt (l : List UInt8) : num l < LL' := Nat.mod_lt _ (by decide)
def seedA (s : Nat) : Nat := clampK (hN (kby s) % 115792089237316195423570985008687907853269984665640564039457584007913129639936)
def seedP (s : Nat) : Nat := hN (kby s) / 115792089237316195423570985008687907853269984665640564039457584007913129639936
theorem seedA_lt (s : Nat) : seedA s < 115792089237316195423570985008687907853269984665640564039457584007913129639936 := clampK_lt.resolve_right (fun h => h (lo_lt _))
def pubN (s : Nat) : Nat := pbn (BP.mul (seedA s))
theorem pubN_lt (s : Nat) : pubN s < 115792089237316195423570985008687907853269984665640564039457584007913129639936 := pbn_lt _
def sigR (s : Nat) (l : List UInt8) : Nat := num (kby (seedP s) ++ l)
def sigP (s : Nat) (l : List UInt8) : Nat := pbn (BP.mul (sigR s l))
theorem sigP_lt (s : Nat) (l : List UInt8) : sigP s l < 115792089237316195423570985008687907853269984665640564039457584007913129639936 := pbn_lt _
/-- What binds a signature to its R, its public and its message. -/
def sigH (r a : Nat) (l : List UInt8) : Nat := num (kby r ++ (kby a ++ l))
def sigS (s : Nat) (l : List UInt8) : Nat := (sigH (sigP s l) (pubN s) l * seedA s + sigR s l) % LL'
theorem LL'_lt : LL' < 115792089237316195423570985008687907853269984665640564039457584007913129639936 := by decide
theorem sigS_lt (s : Nat) (l : List UInt8) : sigS s l < LL' := Nat.mod_lt _ (by decide)
def signN (s : Nat) (l : List UInt8) : Nat := sigP s l + 115792089237316195423570985008687907853269984665640564039457584007913129639936 * sigS s l
theorem signN_lt (s : Nat) (l : List UInt8) : signN s l < 13407807929942597099574024998205846127479365820592393377723561443721764030073546976801874298166903427690031858186486050853753882811946569946433649006084096 := join_lt (sigP_lt _ _) (Nat.lt_trans (sigS_lt _ _) LL'_lt)
/-- The point that a check comes to. -/
def chkP (p : Nat) (h : isPt p = true) (s e : Nat) : Pt := (BP.mul s).add ((ptOf p h).neg.mul e)
def checkN (p sig : Nat) (l : List UInt8) : Bool :=
  if h : isPt p = true then decide (sig / 115792089237316195423570985008687907853269984665640564039457584007913129639936 < LL') && decide (pbn (chkP p h (sig / 115792089237316195423570985008687907853269984665640564039457584007913129639936) (sigH (sig % 115792089237316195423570985008687907853269984665640564039457584007913129639936) p l)) = sig % 115792089237316195423570985008687907853269984665640564039457584007913129639936) else false
theorem check_own {s t : Nat} {l : List UInt8} (h : t % 115792089237316195423570985008687907853269984665640564039457584007913129639936 = sigP s l) : checkN (pubN s) t l = decide (t / 115792089237316195423570985008687907853269984665640564039457584007913129639936 = sigS s l) := by
  have hp : isPt (pubN s) = true := isPt_pbn _
  have e : ptOf (pubN s) hp = BP.mul (seedA s) := ptOf_pbn _
  unfold checkN
  rw [dif_pos hp, h, Bool.eq_iff_iff, Bool.and_eq_true, decide_eq_true_eq, decide_eq_true_eq, decide_eq_true_eq]
  unfold chkP
  rw [e]
  generalize hx : t / 115792089237316195423570985008687907853269984665640564039457584007913129639936 = x
  constructor
  · rintro ⟨h1, h2⟩
    exact (sig_only rfl h1).1 (pbn_inj h2)
  · intro h1
    have h2 : x < LL' := by rw [h1]; exact sigS_lt s l
    exact ⟨h2, congrArg pbn ((sig_only rfl h2).2 h1)⟩
theorem check_sign (s : Nat) (l : List UInt8) : checkN (pubN s) (signN s l) l = true := by
  have h1 : signN s l % 115792089237316195423570985008687907853269984665640564039457584007913129639936 = sigP s l := join_lo (sigP_lt s l)
  rw [check_own h1, decide_eq_true_eq]
  exact join_hi (sigP_lt s l)
end Go.Proofs.YtpagiffbjofihaaDoor
namespace Go.Proofs.YtpagiffbjofihaaDoor
set_option linter.unusedVariables false
set_option linter.unusedSimpArgs false
set_option maxRecDepth 100000
open Go Go.RowKit
/-- The cells of a state. -/
def sv (s : L4 PP) : Array Value := ev s.a ++ ev s.b ++ ev s.c ++ ev s.d
theorem sv_size (s : L4 PP) : (sv s).size = 16 := rfl
theorem sv_list (s : L4 PP) : (sv s).toList = (ev s.a).toList ++ (ev s.b).toList ++ (ev s.c).toList ++ (ev s.d).toList := by simp [sv]
theorem sv_one (s : L4 PP) : (sv s).all (·.oneCell') = true := by
  have h : ∀ x : Fin PP, ∀ v ∈ (ev x).toList, v.oneCell' = true := fun x v hv => (Array.all_eq_true_iff_forall_mem.1 (ev_one x)) v (by simpa using hv)
  refine Array.all_eq_true_iff_forall_mem.2 fun v hv => ?_
  have hm : v ∈ (sv s).toList := by simpa using hv
  rw [sv_list] at hm
  simp only [List.mem_append] at hm
  rcases hm with ((hm | hm) | hm) | hm
  · exact h _ v hm
  · exact h _ v hm
  · exact h _ v hm
  · exact h _ v hm
/-- The k-th of a state's numbers. -/
def L4.at4 (s : L4 PP) : Nat → Fin PP
  | 0 => s.a
  | 1 => s.b
  | 2 => s.c
  | _ => s.d
theorem at_sv (s : L4 PP) {k j : Nat} (hk : k < 4) (v : Value) (h : (ev (s.at4 k)).toList[j]? = some v) : (sv s)[4 * k + j]? = some v := by
  have hj : j < 4 := by have := (List.getElem?_eq_some_iff.1 h).1; exact this
  have hl : (sv s)[4 * k + j]? = (sv s).toList[4 * k + j]? := by simp
  rw [hl, sv_list]
  rcases (show k = 0 ∨ k = 1 ∨ k = 2 ∨ k = 3 by omega) with rfl | rfl | rfl | rfl <;> rcases (show j = 0 ∨ j = 1 ∨ j = 2 ∨ j = 3 by omega) with rfl | rfl | rfl | rfl <;> exact h
theorem range_sv {W : World} {g : Nat} {t : TypeId} {s : L4 PP} (h : Blk W g t (sv s)) {k : Nat} (hk : k < 4) : W.rangeAt g (4 * k) (ev (s.at4 k)).toList := fun j v hv => by
  rw [h.cell]
  exact at_sv s hk v hv
/-- Cells that are written one after another. -/
def setL (cs : Array Value) (o : Nat) : List Value → Array Value
  | [] => cs
  | v :: r => setL (cs.setIfInBounds o v) (o + 1) r
attribute [local irreducible] ev
theorem Fr.setCells {w : World} {g : Nat} {t : TypeId} {L : List (Nat × TypeId × Array Value)} {R : List (Nat × TypeId × Nat)} (hL : ∀ p ∈ L, p.1 ≠ g) (hR : ∀ p ∈ R, p.1 ≠ g) (hw : w.heap.size ≤ g) :
    ∀ (vs : List Value) (o : Nat) (cs : Array Value) (W : World), Fr w W ((g, t, cs) :: L) R → Fr w (W.setCells g o vs) ((g, t, setL cs o vs) :: L) R
  | [], _, _, _, h => h
  | v :: r, o, cs, W, h => Fr.setCells hL hR hw r (o + 1) _ _ (h.setHead hL hR o v hw)
attribute [local irreducible] sv
end Go.Proofs.YtpagiffbjofihaaDoor
namespace Go.Proofs.YtpagiffbjofihaaDoor
set_option linter.unusedVariables false
set_option linter.unusedSimpArgs false
open Go Go.RowKit
/-- The cells of columns. -/
def cs64 (l : List Nat) : Array Value := ncs .u64 l
theorem cs64_size (l : List Nat) : (cs64 l).size = l.length := ncs_size _ _
end Go.Proofs.YtpagiffbjofihaaDoor
namespace Go.Proofs.YtpagiffbjofihaaDoor
set_option linter.unusedVariables false
set_option linter.unusedSimpArgs false
open Go Go.RowKit
theorem cs64_at (l : List Nat) (i : Nat) : (cs64 l)[i]? = l[i]?.map (nc .u64) := ncs_get _ _ _
/-- The slice '(A, n, c)' reads as the bytes l; what is read lies below block B. -/
structure US (w : World) (B : Nat) (A : Option Addr) (n c : Nat) (l : List Nat) : Prop where
  len : l.length = n
  cap : n ≤ c
  nil_ : A = none → c = 0
  at_ : 0 < n → ∃ b o, A = some ⟨b, o, none⟩ ∧ b < B ∧ ∀ (j x : Nat), l[j]? = some x → w.cell? ⟨b, o + j, none⟩ = some (.int .u64 (x : Int))
section
variable {w w' : World} {B B' n c : Nat} {A : Option Addr} {l : List Nat}
theorem US.nil (w : World) (B : Nat) : US w B none 0 0 [] := ⟨rfl, Nat.le_refl _, fun _ => rfl, fun h => absurd h (by omega)⟩
theorem US.keep (h : US w B A n c l) (hk : ∀ p : Addr, p.block < B → w'.cell? p = w.cell? p) : US w' B A n c l :=
  ⟨h.len, h.cap, h.nil_, fun hn => by
    obtain ⟨b, o, e, hb, hc⟩ := h.at_ hn
    exact ⟨b, o, e, hb, fun j x hx => (hk _ hb).trans (hc j x hx)⟩⟩
theorem US.more (h : US w B A n c l) (hB : B ≤ B') : US w B' A n c l :=
  ⟨h.len, h.cap, h.nil_, fun hn => by
    obtain ⟨b, o, e, hb, hc⟩ := h.at_ hn
    exact ⟨b, o, e, by omega, hc⟩⟩
theorem US.below (h : US w B A n c l) (hb : Below B w w') : US w' B A n c l := h.keep fun _ hp => hb.cell hp
theorem US.drew (h : US w B A n c l) : US w.drew B A n c l := ⟨h.1, h.2, h.3, h.4⟩
theorem US.alloc (h : US w B A n c l) (hB : B ≤ w.heap.size) (o : Obj) : US (w.alloc o) B A n c l := h.keep fun p hp => World.cell?_alloc_lt w o p (by omega)
theorem US.setCell (h : US w B A n c l) {p : Addr} (hB : B ≤ p.block) (u : Value) : US (w.setCell p u) B A n c l :=
  h.keep fun q hq => World.cell?_setCell_other w p q u (fun e => by subst e; omega)
theorem US.grown (h : US w B A n c l) {row : Option Nat} (hg : w.grownBy w' row) (hB : B ≤ w.heap.size) (hr : ∀ g, row = some g → B ≤ g) : US w' B A n c l :=
  h.keep fun p hp => World.cell?_of_block (hg.block p.block (by omega) (fun e => by have := hr _ e.symm; omega))
/-- What is read there is the block's. -/
theorem US.ofBlk {g : Nat} {t : TypeId} (h : Blk w g t (cs64 l)) (n : Nat) (hn : n = l.length) (B : Nat) (hB : g < B) : US w B (some ⟨g, 0, none⟩) n n l :=
  ⟨hn.symm, Nat.le_refl _, (by intro e; cases e), fun _ => ⟨g, 0, rfl, hB, fun j x hx => by rw [Nat.zero_add, h.cell, cs64_at, hx]; rfl⟩⟩
theorem US.at' (h : US w B A n c l) {k : Nat} (hk : k < n) : ∃ b o x, A = some ⟨b, o, none⟩ ∧ b < B ∧ l[k]? = some x ∧ w.cell? ⟨b, o + k, none⟩ = some (.int .u64 (x : Int)) := by
  obtain ⟨b, o, e, hb, hc⟩ := h.at_ (by omega)
  have hl : k < l.length := by have := h.len; omega
  exact ⟨b, o, l[k], e, hb, List.getElem?_eq_getElem hl, hc k _ (List.getElem?_eq_getElem hl)⟩
end
/-- The slice v of bytes l is the call's own: nil and nothing, or the head of a block from 'base' on. -/
def OwnU (w : World) (base : Nat) (e : TypeId) (v : Value) (l : List Nat) : Prop := w.ownsRow base e 1 v l.length (l.map (nc .u64))
section
variable {w w' : World} {base : Nat} {e : TypeId} {v : Value} {l : List Nat}
theorem OwnU.nil (w : World) (base : Nat) (e : TypeId) : OwnU w base e (.slice none 0 0) [] := ⟨rfl, .inl ⟨rfl, rfl⟩⟩
theorem OwnU.alloc (h : OwnU w base e v l) (o : Obj) : OwnU (w.alloc o) base e v l := World.ownsRow.alloc h o
theorem OwnU.drew (h : OwnU w base e v l) : OwnU w.drew base e v l := h
theorem OwnU.ofBlk {g : Nat} (h : Blk w g e (cs64 l)) (n : Nat) (hn : n = l.length) (hm : n ≤ maxLen) (hb : base ≤ g) : OwnU w base e (.slice (some ⟨g, 0, none⟩) n n) l := by
  subst hn
  exact ⟨by simp, .inr ⟨g, _, _, rfl, hb, h, Nat.le_refl _, hm, by simp [cs64, ncs], by rw [List.take_of_length_le (by simp [cs64_size])]; simp [cs64, ncs]⟩⟩
theorem OwnU.own (h : OwnU w base e v l) {g : Nat} (hg : v.ownBlock = some g) : base ≤ g ∧ g < w.heap.size := World.ownsRow.lt h g hg
end
section
variable {P : Program} {w : World} {ops : Array Oper} {rest : List Oper} {o : Oper} {a : Act} {Q : Exit → Act → World → Prop}
end
section
variable {P : Program} {w : World} {ops : Array Oper} {o : Oper} {a : Act} {K : Act → World → Prop} {Q : Exit → Act → World → Prop} {E : Prop}
end
end Go.Proofs.YtpagiffbjofihaaDoor
namespace Go.Proofs.YtpagiffbjofihaaDoor
set_option linter.unusedVariables false
set_option linter.unusedSimpArgs false
open Go Go.RowKit
theorem OwnU.slice {w : World} {base : Nat} {e : TypeId} {v : Value} {l : List Nat} (h : OwnU w base e v l) (hl : 0 < l.length) : ∃ g cap, v = .slice (some ⟨g, 0, none⟩) l.length cap ∧ base ≤ g ∧ g < w.heap.size := by
  rcases h.2 with ⟨_, h0⟩ | ⟨g, cap, cur, rfl, hb, hg, _⟩
  · omega
  · exact ⟨g, cap, rfl, hb, (Array.getElem?_eq_some_iff.1 hg).1⟩
theorem OwnU.cell {w : World} {base g n cap : Nat} {e : TypeId} {l : List Nat} (h : OwnU w base e (.slice (some ⟨g, 0, none⟩) n cap) l) (hn : n = l.length) {j x : Nat} (hx : l[j]? = some x) : w.cell? ⟨g, j, none⟩ = some (.int .u64 (x : Int)) := by
  subst hn
  have hj := (List.getElem?_eq_some_iff.1 hx).1
  have h2 := World.ownsRow.cellAt (size := 1) h j (by omega)
  rw [h2, List.getElem?_map, hx]
  rfl
theorem OwnU.set {w : World} {base g n cap : Nat} {e : TypeId} {l : List Nat} (h : OwnU w base e (.slice (some ⟨g, 0, none⟩) n cap) l) (hn : n = l.length) (j x : Nat) :
    OwnU (w.setCell ⟨g, j, none⟩ (.int .u64 (x : Int))) base e (.slice (some ⟨g, 0, none⟩) n cap) (l.set j x) ∧ w.grownBy (w.setCell ⟨g, j, none⟩ (.int .u64 (x : Int))) (some g) := by
  subst hn
  obtain ⟨h1, h2⟩ := World.ownsRow.stored (size := 1) h j (.int .u64 (x : Int))
  refine ⟨?_, h2⟩
  unfold OwnU
  rw [List.length_set, List.map_set]
  exact h1
end Go.Proofs.YtpagiffbjofihaaDoor
namespace Go.Proofs.YtpagiffbjofihaaDoor
set_option linter.unusedVariables false
set_option linter.unusedSimpArgs false
open Go Go.RowKit
theorem US.head {w : World} {B n c : Nat} {A : Option Addr} {l : List Nat} (h : US w B A n c l) {k : Nat} (hk : k ≤ n) : US w B A k c (l.take k) :=
  ⟨by rw [List.length_take, h.len]; omega, by have := h.cap; omega, h.nil_, fun hp => by
    obtain ⟨b, o, e, hb, hc⟩ := h.at_ (by omega)
    refine ⟨b, o, e, hb, fun j x hx => hc j x ?_⟩
    rw [List.getElem?_take] at hx
    split at hx
    · exact hx
    · cases hx⟩
end Go.Proofs.YtpagiffbjofihaaDoor
namespace Go.Proofs.YtpagiffbjofihaaDoor
set_option linter.unusedVariables false
set_option linter.unusedSimpArgs false
open Go Go.RowKit
theorem Fr.grow {w W W' : World} {L : List (Nat × TypeId × Array Value)} {R : List (Nat × TypeId × Nat)} {row : Option Nat} (h : Fr w W L R) (hg : W.grownBy W' row) (hL : ∀ p ∈ L, some p.1 ≠ row) (hR : ∀ p ∈ R, some p.1 ≠ row) (hw : ∀ g, row = some g → w.heap.size ≤ g) : Fr w W' L R :=
  ⟨h.below.grown hg h.below.size hw, fun p hp => (h.rows p hp).grown hg (hL p hp), fun p hp => by
    obtain ⟨cs, e, k⟩ := h.some_ p hp
    exact ⟨cs, e, k.grown hg (hR p hp)⟩, h.own⟩
theorem Fr.keep {w W W' : World} {L : List (Nat × TypeId × Array Value)} {R : List (Nat × TypeId × Nat)} {B : Nat} (h : Fr w W L R) (hb : Below B W W') (hB : w.heap.size ≤ B) (hL : ∀ p ∈ L, p.1 < B) (hR : ∀ p ∈ R, p.1 < B) : Fr w W' L R :=
  ⟨h.below.trans (hb.mono hB), fun p hp => (h.rows p hp).below hb (hL p hp), fun p hp => by
    obtain ⟨cs, e, k⟩ := h.some_ p hp
    exact ⟨cs, e, k.below hb (hR p hp)⟩, h.own⟩
theorem OwnU.frozen {w : World} {base g n cap : Nat} {e : TypeId} {l : List Nat} (h : OwnU w base e (.slice (some ⟨g, 0, none⟩) n cap) l) (hn : n = l.length) (j : Nat) : w.frozen? ⟨g, j, none⟩ = false := by
  subst hn
  exact World.ownsRow.frozenAt (size := 1) h j
end Go.Proofs.YtpagiffbjofihaaDoor
namespace Go.Proofs.YtpagiffbjofihaaDoor
set_option linter.unusedVariables false
set_option linter.unusedSimpArgs false
open Go Go.RowKit
def addl (a b k : Nat) : List Nat := (List.range k).map fun t => a / 65536 ^ t % 65536 + b / 65536 ^ t % 65536
theorem addl_len (a b k : Nat) : (addl a b k).length = k := by simp [addl]
end Go.Proofs.YtpagiffbjofihaaDoor
namespace Go.Proofs.YtpagiffbjofihaaDoor
set_option linter.unusedVariables false
set_option linter.unusedSimpArgs false
open Go Go.RowKit
/-- N, of which the first i digits are those of its half. -/
def hgl (N i : Nat) : List Nat := (List.range 16).map fun j => if j < i then N / 2 / 65536 ^ j % 65536 else N / 65536 ^ j % 65536
def hg (N i : Nat) : Array Value := ncs .u64 (hgl N i)
end Go.Proofs.YtpagiffbjofihaaDoor
namespace Go.Proofs.YtpagiffbjofihaaDoor
set_option linter.unusedVariables false
set_option linter.unusedSimpArgs false
open Go.RowKit
section
variable {x y z : Fin PP}
end
end Go.Proofs.YtpagiffbjofihaaDoor
namespace Go.Proofs.YtpagiffbjofihaaDoor
set_option linter.unusedVariables false
set_option linter.unusedSimpArgs false
open Go.RowKit
theorem ks_put {n k x : Nat} (hk : k < 32) (hx : x < 256) : (ks n).setIfInBounds k (.int .u8 (x : Int)) = ks (putd 256 n k x) := by
  rw [ks, ncs_set, ks]
  congr 1
  apply List.ext_getElem?
  intro j
  rw [List.getElem?_set]
  by_cases hj : j < 32
  · rw [kb_get (putd 256 n k x) hj, digit_put (by omega) hx (putd_eq 256 n k x) j]
    by_cases e : k = j
    · subst e
      rw [if_pos rfl, if_pos rfl, kb_len, if_pos hk]
    · rw [if_neg e, if_neg (fun h => e h.symm), kb_get n hj]
  · have : k ≠ j := by omega
    rw [if_neg this, List.getElem?_eq_none (by rw [kb_len]; omega), List.getElem?_eq_none (by rw [kb_len]; omega)]
/-- The lowest 255 bits. -/
theorem put_top {n : Nat} (hn : n < 115792089237316195423570985008687907853269984665640564039457584007913129639936) : putd 256 n 31 (n / 256 ^ 31 % 256 % 128) = n % 57896044618658097711785492504343953926634992332820282019728792003956564819968 := by
  have h := putd_eq 256 n 31 (n / 256 ^ 31 % 256 % 128)
  have e : (256 : Nat) ^ 31 = 452312848583266388373324160190187140051835877600158453279131187530910662656 := by decide
  rw [e] at h ⊢
  omega
end Go.Proofs.YtpagiffbjofihaaDoor
namespace Go.Proofs.YtpagiffbjofihaaDoor
set_option linter.unusedVariables false
set_option linter.unusedSimpArgs false
set_option maxRecDepth 100000
open Go.RowKit
theorem inv_num : num4 18446744073709551595 18446744073709551615 18446744073709551615 9223372036854775807 = PP - 2 := by decide +kernel
theorem es_inv : es (PP - 2) = #[.int .u64 18446744073709551595, .int .u64 18446744073709551615, .int .u64 18446744073709551615, .int .u64 9223372036854775807] := es_of_num4 inv_num.symm (by decide) (by decide) (by decide) (by decide)
theorem info_w4s (n : Nat) : (Tryd.prog.info? 37).map (·.size) = some (es n).size := info_w4
set_option maxHeartbeats 1000000 in
theorem inv_any (x : Fin PP) (w : World) (hpg : PG w) : Calls Tryd.prog 51 #[.agg (ev x)] w (EPost (x ^ (PP - 2)) w) := by
  have hfr := (((Fr.start w).row (ev x) 39 (g := w.heap.size) rfl).any (es 0) 39 4 rfl (g := w.heap.size + 1) (by simp)).row (es (PP - 2)) 37 (g := w.heap.size + 1 + 1) (by simp)
  rw [es_zero] at hfr
  have hfr2 := hfr
  rw [es_inv] at hfr2
  have HFR := Lib.hid hfr2
  clear hfr hfr2
  have HPG := Lib.hid hpg
  obtain ⟨hz, p0, p1, p2, p3⟩ := hpg
  have e1 : ¬ (1 = w.heap.size) := by omega
  have e2 : ¬ (w.heap.size = 1) := by omega
  have e3 : ¬ (w.heap.size = 0) := by omega
  have e4 : ¬ (1 = w.heap.size + 1) := by omega
  have e5 : 1 < w.heap.size + 1 + 1 := by omega
  have e6 : 1 < w.heap.size + 1 := by omega
  have e7 : 1 < w.heap.size + 1 + 1 + 1 := by omega
  go_enter Tryd.func51, Tryd.ntmps51
  go_wp2_with (fail)
  refine wp_region_held_drew (S := fun W => Fr w W [(w.heap.size + 1 + 1, 37, es (PP - 2)), (w.heap.size, 39, ev x)] [(w.heap.size + 1, 39, 4)]) (by kernel_rfl) ?_ (fun hHeld => ?_)
  · exact (by rw [es_inv]; exact HFR.out.drew)
  refine wpAnyH_take (i := 0) (v := .agg (ev x)) rfl (by kernel_rfl) (by kernel_rfl) (by kernel_rfl) (fun _ _ _ h => h) (yields_row (by rfl) 39 (.tmp 1) rfl (w.heap.size) rfl 39 (ev x) _ (fun W (h : Fr _ W _ _) => h.get (by simp)) Tryd.underlying39 rfl (info_ev _)) hHeld ?_
  try simp only [Act.put, List.getElem_toArray, List.getElem_cons_succ, List.getElem_cons_zero, List.setIfInBounds_toArray, List.set_cons_zero, List.set_cons_succ]
  refine wpAnyH_take (i := 1) (v := .agg (es (PP - 2))) rfl (by kernel_rfl) (by kernel_rfl) (by kernel_rfl) (fun _ _ _ h => h) (yields_row (by rfl) 37 (.tmp 3) rfl (w.heap.size + 1 + 1) rfl 37 (es (PP - 2)) _ (fun W (h : Fr _ W _ _) => h.get (by simp)) Tryd.underlying37 rfl (info_w4s _)) hHeld ?_
  try simp only [Act.put, List.getElem_toArray, List.getElem_cons_succ, List.getElem_cons_zero, List.setIfInBounds_toArray, List.set_cons_zero, List.set_cons_succ]
  refine wpAnyH_ready (rs := [2]) (by kernel_rfl) (by simp) (AllReadyH.cons rfl (fun K hK => ?_) AllReadyH.nil)
  have h0 := hHeld
  clear hHeld
  try simp only [List.getElem_toArray, List.getElem_cons_succ, List.getElem_cons_zero]
  have H0 := Lib.hid h0
  clear h0
  go_simp
  go_at_call 52
  refine (bytesOf_any (PP - 2) _ (by decide +kernel)).mono ?_
  rintro e vv ⟨rfl, hb⟩
  have h1 := H0.out.ext hb
  clear hb H0
  go_wp2_with (fail)
  refine hK.out _ _ h1 (fun hHeld => ?_)
  clear hK K h1
  try simp only [Act.put, List.getElem_toArray, List.getElem_cons_succ, List.getElem_cons_zero, List.setIfInBounds_toArray, List.set_cons_zero, List.set_cons_succ]
  refine wpAnyH_ready (rs := [3]) (by kernel_rfl) (by simp) (AllReadyH.cons rfl (fun K hK => ?_) AllReadyH.nil)
  have h0 := hHeld
  clear hHeld
  try simp only [List.getElem_toArray, List.getElem_cons_succ, List.getElem_cons_zero]
  have H0 := Lib.hid h0
  clear h0
  go_simp
  go_at_call 72
  refine (powerF x _ (PP - 2) (Fr.pg H0.out HPG.out) (by decide +kernel)).mono ?_
  rintro e vv ⟨rfl, hb⟩
  have h1 := H0.out.ext hb
  clear hb H0
  go_wp2_with (fail)
  refine hK.out _ _ h1 (fun hHeld => ?_)
  clear hK K h1
  try simp only [Act.put, List.getElem_toArray, List.getElem_cons_succ, List.getElem_cons_zero, List.setIfInBounds_toArray, List.set_cons_zero, List.set_cons_succ]
  refine wpAnyH_ready (rs := [4]) (by kernel_rfl) (by simp) (AllReadyH.cons rfl (fun K hK => ?_) AllReadyH.nil)
  have h0 := hHeld
  clear hHeld
  try simp only [List.getElem_toArray, List.getElem_cons_succ, List.getElem_cons_zero]
  rw [if_pos (by rfl)]
  obtain ⟨old, hold, kold⟩ := Fr.old h0 (g := w.heap.size + 1) (t := 39) (n := 4) (by simp)
  refine wp_store_row 39 (.tmp 2) (.tmp 12) rfl (w.heap.size + 1) (ev (x ^ (PP - 2))) rfl rfl 39 old kold (info_ev _) hold (ev_one _) ?_
  refine hK.out _ _ (Fr.setAny h0 (g := w.heap.size + 1) (t := 39) (ev_size _) (by simp) (by simp <;> omega)) (fun hHeld => ?_)
  have kb := kold.setRow_same (ev (x ^ (PP - 2)))
  clear hK K h0 hold
  try simp only [Act.put, List.getElem_toArray, List.getElem_cons_succ, List.getElem_cons_zero, List.setIfInBounds_toArray, List.set_cons_zero, List.set_cons_succ]
  refine wpAnyH_done (by kernel_rfl) ?_ _
  have HF := Lib.hid hHeld
  clear hHeld
  go_wp2_with (fail)
  exact elem_end (g := w.heap.size + 1) rfl rfl rfl kb HF.out.below
end Go.Proofs.YtpagiffbjofihaaDoor
namespace Go.Proofs.YtpagiffbjofihaaDoor
set_option linter.unusedVariables false
set_option linter.unusedSimpArgs false
set_option maxRecDepth 100000
open Go.RowKit
theorem invR {x y : Fin PP} (h : y = x ^ (PP - 2)) (w : World) (hp : PG w) : Calls Tryd.prog 51 #[.agg (ev x)] w (EPost y w) := by
  have h2 := inv_any x w hp
  rw [← h] at h2
  exact h2
end Go.Proofs.YtpagiffbjofihaaDoor
namespace Go.Proofs.YtpagiffbjofihaaDoor
set_option linter.unusedVariables false
set_option linter.unusedSimpArgs false
set_option maxRecDepth 100000
open Go.RowKit
theorem ofR {n : Nat} {x : Fin PP} (h : x = ofK n) (w : World) (hp : PG w) (hn : n < 115792089237316195423570985008687907853269984665640564039457584007913129639936) : Calls Tryd.prog 32 #[.agg (ks n)] w (EPost x w) := by
  rw [h]
  exact ofF n w hp hn
theorem sm_one : sm 1 = 1 := rfl
theorem dig_all : ∀ (k n m : Nat), n < 256 ^ k → m < 256 ^ k → (∀ i, i < k → n / 256 ^ i % 256 = m / 256 ^ i % 256) → n = m
  | 0, n, m, h1, h2, _ => by simp at h1 h2; omega
  | k + 1, n, m, h1, h2, h => by
    rw [Nat.pow_succ] at h1 h2
    have h0 := h 0 (by omega)
    simp at h0
    have := dig_all k (n / 256) (m / 256) (by omega) (by omega) (fun i hi => by
      have := h (i + 1) (by omega)
      rw [Nat.pow_succ', ← Nat.div_div_eq_div_mul, ← Nat.div_div_eq_div_mul] at this
      exact this)
    omega
theorem kb_inj {n m : Nat} (hn : n < 115792089237316195423570985008687907853269984665640564039457584007913129639936) (hm : m < 115792089237316195423570985008687907853269984665640564039457584007913129639936) (h : kb n = kb m) : n = m := by
  refine dig_all 32 n m hn hm fun i hi => ?_
  have h1 := kb_get n hi
  rw [h, kb_get m hi] at h1
  injection h1 with h1
  exact h1.symm
theorem size_u8' (W : World) : (sizeOf 5).run Tryd.prog W = .ok 1 W := by kernel_rfl
/-- '==' of two keys. -/
theorem keys_eq {n m : Nat} {b : Bool} (hn : n < 115792089237316195423570985008687907853269984665640564039457584007913129639936) (hm : m < 115792089237316195423570985008687907853269984665640564039457584007913129639936) (h : decide (n = m) = b) (W : World) : (Op.equalIn 10000 23 (.agg (ks n)) (.agg (ks m))).run Tryd.prog W = .ok b W := by
  have h2 := run_equalIn_nats (P := Tryd.prog) W 9998 23 5 32 .u8 Tryd.underlying23 Tryd.underlying5 size_u8' (kb n) (kb m) (kb_len n) (kb_len m)
  have e : (kb n == kb m) = b := by
    rw [← h, Bool.eq_iff_iff]
    simp
    exact ⟨fun h => kb_inj hn hm h, fun h => by rw [h]⟩
  rw [e] at h2
  exact h2
end Go.Proofs.YtpagiffbjofihaaDoor
namespace Go.Proofs.YtpagiffbjofihaaDoor
set_option linter.unusedVariables false
set_option linter.unusedSimpArgs false
open Go.RowKit
theorem bor_p (n : Nat) (hn : n < 115792089237316195423570985008687907853269984665640564039457584007913129639936) : ((bor (n + 115792089237316195423570985008687907853269984665640564039457584007913129639936 - num4 18446744073709551597 18446744073709551615 18446744073709551615 9223372036854775807) : Int) == 1) = decide (n < PP) := by
  have h : num4 18446744073709551597 18446744073709551615 18446744073709551615 9223372036854775807 = PP := by decide +kernel
  rw [h, PP_eq]
  unfold bor wd4
  rw [Bool.eq_iff_iff]
  simp only [beq_iff_eq, decide_eq_true_eq]
  omega
set_option maxRecDepth 100000 in
set_option maxHeartbeats 1000000 in
theorem canonical_any (n : Nat) (w : World) (hpg : PG w) (hn : n < 115792089237316195423570985008687907853269984665640564039457584007913129639936) : Calls Tryd.prog 31 #[.agg (ks n)] w (BPost (decide (n < PP)) w) := by
  have hfr := (Fr.start w).row (ks n) 23 (g := w.heap.size) rfl
  have HFR := Lib.hid hfr
  have HPG := Lib.hid hpg
  have hbo := bor_p n hn
  have hwo := fun W => wordsOf_any n W hn
  have hmi := fun W => minus_any (wd0 n) (wd1 n) (wd2 n) (wd3 n) 18446744073709551597 18446744073709551615 18446744073709551615 9223372036854775807 W (wd0_lt n) (wd1_lt n) (wd2_lt n) (wd3_lt n) (by omega) (by omega) (by omega) (by omega)
  rw [num4_of hn] at hmi
  generalize n + 115792089237316195423570985008687907853269984665640564039457584007913129639936 - num4 18446744073709551597 18446744073709551615 18446744073709551615 9223372036854775807 = m at *
  have HBO := Lib.hid hbo
  have HWO := Lib.hid hwo
  have HMI := Lib.hid hmi
  clear hfr hpg hbo hwo hmi hn
  go_enter Tryd.func31, Tryd.ntmps31
  go_wp2_with (fail)
  refine wp_region_held_drew (S := fun W => Fr w W [(w.heap.size, 23, ks n)] []) (by kernel_rfl) ?_ (fun hHeld => ?_)
  · exact HFR.out.drew
  refine wpAnyH_take (i := 0) (v := .agg (ks n)) rfl (by kernel_rfl) (by kernel_rfl) (by kernel_rfl) (fun _ _ _ h => h) (yields_row (by rfl) 23 (.tmp 1) rfl (w.heap.size) rfl 23 (ks n) _ (fun W (h : Fr _ W _ _) => h.get (by simp)) Tryd.underlying23 rfl (info_ks _)) hHeld ?_
  try simp only [Act.put, List.getElem_toArray, List.getElem_cons_succ, List.getElem_cons_zero, List.setIfInBounds_toArray, List.set_cons_zero, List.set_cons_succ]
  refine wpAnyH_take (i := 2) (v := ?_) rfl (by kernel_rfl) (by kernel_rfl) (by kernel_rfl) (fun _ _ _ h => h) (Or.inl ⟨by rfl, ?_⟩) hHeld ?_
  rotate_left
  · (intro W hSw; obtain ⟨hz, p0, p1, p2, p3⟩ := Fr.pg hSw HPG.out; clear hSw; (try simp only [List.getElem_toArray, List.getElem_cons_succ, List.getElem_cons_zero]); go_simp; try with_reducible rfl)
  try simp only [Act.put, List.getElem_toArray, List.getElem_cons_succ, List.getElem_cons_zero, List.setIfInBounds_toArray, List.set_cons_zero, List.set_cons_succ]
  refine wpAnyH_ready (rs := [1]) (by kernel_rfl) (by simp) (AllReadyH.cons rfl (fun K hK => ?_) AllReadyH.nil)
  have h0 := hHeld
  clear hHeld
  try simp only [List.getElem_toArray, List.getElem_cons_succ, List.getElem_cons_zero]
  have H0 := Lib.hid h0
  clear h0
  go_simp
  go_at_call 58
  refine (HWO.out _).mono ?_
  rintro e vv ⟨he, hb⟩
  rw [es_show] at he
  subst he
  have h1 := H0.out.ext hb
  clear hb H0
  go_wp2_with (fail)
  refine hK.out _ _ h1 (fun hHeld => ?_)
  clear hK K h1
  try simp only [Act.put, List.getElem_toArray, List.getElem_cons_succ, List.getElem_cons_zero, List.setIfInBounds_toArray, List.set_cons_zero, List.set_cons_succ]
  refine wpAnyH_ready (rs := [3]) (by kernel_rfl) (by simp) (AllReadyH.cons rfl (fun K hK => ?_) AllReadyH.nil)
  have h0 := hHeld
  clear hHeld
  try simp only [List.getElem_toArray, List.getElem_cons_succ, List.getElem_cons_zero]
  have H0 := Lib.hid h0
  clear h0
  go_simp
  go_at_call 57
  refine (HMI.out _).mono ?_
  rintro e vv ⟨he, hb⟩
  unfold retm at he
  subst he
  have h1 := H0.out.ext hb
  clear hb H0
  go_wp2_with (fail)
  refine hK.out _ _ h1 (fun hHeld => ?_)
  clear hK K h1
  try simp only [Act.put, List.getElem_toArray, List.getElem_cons_succ, List.getElem_cons_zero, List.setIfInBounds_toArray, List.set_cons_zero, List.set_cons_succ]
  refine wpAnyH_take (i := 4) (v := ?_) rfl (by kernel_rfl) (by kernel_rfl) (by kernel_rfl) (fun _ _ _ h => h) (Or.inl ⟨by rfl, ?_⟩) hHeld ?_
  rotate_left
  · (intro W hSw; (try dsimp only at hSw); (try simp only [List.getElem_toArray, List.getElem_cons_succ, List.getElem_cons_zero]); go_simp; try with_reducible rfl)
  try simp only [Act.put, List.getElem_toArray, List.getElem_cons_succ, List.getElem_cons_zero, List.setIfInBounds_toArray, List.set_cons_zero, List.set_cons_succ]
  refine wpAnyH_take (i := 5) (v := ?_) rfl (by kernel_rfl) (by kernel_rfl) (by kernel_rfl) (fun _ _ _ h => h) (Or.inl ⟨by rfl, ?_⟩) hHeld ?_
  rotate_left
  · (intro W hSw; (try dsimp only at hSw); (try simp only [List.getElem_toArray, List.getElem_cons_succ, List.getElem_cons_zero]); go_simp; try with_reducible rfl)
  try simp only [Act.put, List.getElem_toArray, List.getElem_cons_succ, List.getElem_cons_zero, List.setIfInBounds_toArray, List.set_cons_zero, List.set_cons_succ]
  refine wpAnyH_take (i := 6) (v := ?_) rfl (by kernel_rfl) (by kernel_rfl) (by kernel_rfl) (fun _ _ _ h => h) (Or.inl ⟨by rfl, ?_⟩) hHeld ?_
  rotate_left
  · (intro W hSw; (try dsimp only at hSw); (try simp only [List.getElem_toArray, List.getElem_cons_succ, List.getElem_cons_zero]); go_simp; try with_reducible rfl)
  try simp only [Act.put, List.getElem_toArray, List.getElem_cons_succ, List.getElem_cons_zero, List.setIfInBounds_toArray, List.set_cons_zero, List.set_cons_succ]
  refine wpAnyH_take (i := 7) (v := ?_) rfl (by kernel_rfl) (by kernel_rfl) (by kernel_rfl) (fun _ _ _ h => h) (Or.inl ⟨by rfl, ?_⟩) hHeld ?_
  rotate_left
  · (intro W hSw; (try dsimp only at hSw); (try simp only [List.getElem_toArray, List.getElem_cons_succ, List.getElem_cons_zero]); go_simp; try with_reducible rfl)
  try simp only [Act.put, List.getElem_toArray, List.getElem_cons_succ, List.getElem_cons_zero, List.setIfInBounds_toArray, List.set_cons_zero, List.set_cons_succ]
  refine wpAnyH_take (i := 8) (v := ?_) rfl (by kernel_rfl) (by kernel_rfl) (by kernel_rfl) (fun _ _ _ h => h) (Or.inl ⟨by rfl, ?_⟩) hHeld ?_
  rotate_left
  · (intro W hSw; (try dsimp only at hSw); (try simp only [List.getElem_toArray, List.getElem_cons_succ, List.getElem_cons_zero]); go_simp; try with_reducible rfl)
  try simp only [Act.put, List.getElem_toArray, List.getElem_cons_succ, List.getElem_cons_zero, List.setIfInBounds_toArray, List.set_cons_zero, List.set_cons_succ]
  refine wpAnyH_take (i := 9) (v := ?_) rfl (by kernel_rfl) (by kernel_rfl) (by kernel_rfl) (fun _ _ _ h => h) (Or.inl ⟨by rfl, ?_⟩) hHeld ?_
  rotate_left
  · (intro W hSw; (try dsimp only at hSw); (try simp only [List.getElem_toArray, List.getElem_cons_succ, List.getElem_cons_zero]); go_simp; try with_reducible rfl)
  try simp only [Act.put, List.getElem_toArray, List.getElem_cons_succ, List.getElem_cons_zero, List.setIfInBounds_toArray, List.set_cons_zero, List.set_cons_succ]
  refine wpAnyH_take (i := 10) (v := ?_) rfl (by kernel_rfl) (by kernel_rfl) (by kernel_rfl) (fun _ _ _ h => h) (Or.inl ⟨by rfl, ?_⟩) hHeld ?_
  rotate_left
  · (intro W hSw; (try dsimp only at hSw); (try simp only [List.getElem_toArray, List.getElem_cons_succ, List.getElem_cons_zero]); go_simp; try with_reducible rfl)
  try simp only [Act.put, List.getElem_toArray, List.getElem_cons_succ, List.getElem_cons_zero, List.setIfInBounds_toArray, List.set_cons_zero, List.set_cons_succ]
  refine wpAnyH_take (i := 11) (v := ?_) rfl (by kernel_rfl) (by kernel_rfl) (by kernel_rfl) (fun _ _ _ h => h) (Or.inl ⟨by rfl, ?_⟩) hHeld ?_
  rotate_left
  · (intro W hSw; (try dsimp only at hSw); (try simp only [List.getElem_toArray, List.getElem_cons_succ, List.getElem_cons_zero]); go_simp; try with_reducible rfl)
  try simp only [Act.put, List.getElem_toArray, List.getElem_cons_succ, List.getElem_cons_zero, List.setIfInBounds_toArray, List.set_cons_zero, List.set_cons_succ]
  refine wpAnyH_take (i := 12) (v := ?_) rfl (by kernel_rfl) (by kernel_rfl) (by kernel_rfl) (fun _ _ _ h => h) (Or.inl ⟨by rfl, ?_⟩) hHeld ?_
  rotate_left
  · (intro W hSw; (try dsimp only at hSw); (try simp only [List.getElem_toArray, List.getElem_cons_succ, List.getElem_cons_zero]); go_simp; try with_reducible rfl)
  try simp only [Act.put, List.getElem_toArray, List.getElem_cons_succ, List.getElem_cons_zero, List.setIfInBounds_toArray, List.set_cons_zero, List.set_cons_succ]
  refine wpAnyH_take (i := 13) (v := ?_) rfl (by kernel_rfl) (by kernel_rfl) (by kernel_rfl) (fun _ _ _ h => h) (Or.inl ⟨by rfl, ?_⟩) hHeld ?_
  rotate_left
  · (intro W hSw; (try dsimp only at hSw); (try simp only [List.getElem_toArray, List.getElem_cons_succ, List.getElem_cons_zero]); go_simp; try with_reducible rfl)
  try simp only [Act.put, List.getElem_toArray, List.getElem_cons_succ, List.getElem_cons_zero, List.setIfInBounds_toArray, List.set_cons_zero, List.set_cons_succ]
  refine wpAnyH_take (i := 14) (v := ?_) rfl (by kernel_rfl) (by kernel_rfl) (by kernel_rfl) (fun _ _ _ h => h) (Or.inl ⟨by rfl, ?_⟩) hHeld ?_
  rotate_left
  · (intro W hSw; (try dsimp only at hSw); (try simp only [List.getElem_toArray, List.getElem_cons_succ, List.getElem_cons_zero]); go_simp; try with_reducible rfl)
  try simp only [Act.put, List.getElem_toArray, List.getElem_cons_succ, List.getElem_cons_zero, List.setIfInBounds_toArray, List.set_cons_zero, List.set_cons_succ]
  refine wpAnyH_done (by kernel_rfl) ?_ _
  have HB := Lib.hid hHeld.below
  clear hHeld
  have hbo := HBO.out
  generalize decide (n < PP) = t at *
  go_wp2_with (fail)
  go_ret
  exact ⟨rfl, HB.out⟩
end Go.Proofs.YtpagiffbjofihaaDoor
