/- Stage 10's words: numbers' bytes, what is padded, marked and sealed, purely; new slices (SF); slices of slices that are the call's own (OX); parts of rows; what operations come to. -/
import Derived.Test.YtghbknebaknmjaaDoorIi
import Derived.Test.YtghbknebaknmjaaDoorQp
import Derived.Test.YtghbknebaknmjaaDoorAj
import Derived.LoopN
namespace Go.Proofs.YtghbknebaknmjaaDoor
set_option linter.unusedVariables false
set_option linter.unusedSimpArgs false
set_option maxRecDepth 100000
open Go Go.RowKit Cha

/-! Purely. -/
def le8 (n i : Nat) : UInt8 := UInt8.ofNat (n / 2 ^ (8 * i))
def n8 (n : Nat) : List UInt8 := rb 8 (le8 n)
theorem n8_len (n : Nat) : (n8 n).length = 8 := rb_len _ _
def nonceF (n i : Nat) : UInt8 := bif Nat.blt i 4 then 0 else le8 n (i - 4)
def padN (n : Nat) : Nat := (16 - n % 16) % 16
theorem padN_lt (n : Nat) : padN n < 16 := Nat.mod_lt _ (by omega)
def zs (k : Nat) : List UInt8 := rb k (fun _ => 0)
theorem zs_len (k : Nat) : (zs k).length = k := rb_len _ _
def padL (l : List UInt8) : List UInt8 := l ++ zs (padN l.length)
def macB (a c : List UInt8) : List UInt8 := ((padL a ++ padL c) ++ n8 a.length) ++ n8 c.length
theorem macB_flat (a c : List UInt8) : [a, zs (padN a.length), c, zs (padN c.length), n8 a.length ++ n8 c.length].flatten = macB a c := by
  simp [macB, padL, List.append_assoc]
theorem padL_len (l : List UInt8) : (padL l).length ≤ l.length + 15 := by
  have := padN_lt l.length
  simp only [padL, List.length_append, zs_len]
  omega
theorem macB_len (a c : List UInt8) : (macB a c).length ≤ a.length + c.length + 46 := by
  have h1 := padL_len a
  have h2 := padL_len c
  simp only [macB, List.length_append, n8_len]
  omega
def markM (kk nn : Nat → UInt8) (a c : List UInt8) : Nat → UInt8 := tagF (blockF kk 0 nn) (macB a c)
def encB (kk nn : Nat → UInt8) (p : List UInt8) : List UInt8 := rb p.length (xorF kk 1 nn (fun i => p.getD i 0))
theorem encB_len (kk nn : Nat → UInt8) (p : List UInt8) : (encB kk nn p).length = p.length := rb_len _ _
theorem xor_self2 (x y : UInt8) : (x ^^^ y) ^^^ y = x := by rw [UInt8.xor_assoc, UInt8.xor_self, UInt8.xor_zero]
theorem encB_back (kk nn : Nat → UInt8) (p : List UInt8) : encB kk nn (encB kk nn p) = p := by
  unfold encB
  rw [rb_len]
  refine Eq.trans (rb_ext fun i hi => ?_) (rb_of (l := p) rfl).symm
  show (rb p.length (xorF kk 1 nn fun i => p.getD i 0)).getD i 0 ^^^ _ = p.getD i 0
  rw [List.getD_eq_getElem?_getD, rb_get hi, Option.getD_some]
  exact xor_self2 _ _
def sealB (kk nn : Nat → UInt8) (a p : List UInt8) : List UInt8 := encB kk nn p ++ rb 16 (markM kk nn a (encB kk nn p))
theorem sealB_len (kk nn : Nat → UInt8) (a p : List UInt8) : (sealB kk nn a p).length = p.length + 16 := by
  simp only [sealB, List.length_append, encB_len, rb_len]
theorem b0s_def (k : Nat) : rb k b0s = zs k := rfl
theorem nonce_copy (n : Nat) : spliceA (bvs (rb 12 b0s)) 4 (((bvs (n8 n)).toList.drop 0).take 8) = bvs (rb 12 (nonceF n)) := by
  unfold n8
  rfl
theorem bvs_def (l : List UInt8) : bvs l = (l.map bv).toArray := rfl
/-! The numbers' bytes. -/
theorem ubyte (n i : Nat) : UInt8.ofNat (n / 2 ^ (8 * i)) = le8 n i := rfl
attribute [local irreducible] nv bvs rb bv tagF blockF xorF

/-! New slices of bytes, whole. -/
def SF (B : Nat) (h : Hep) (k : Nat) (l : List UInt8) (v : Value) (w : World) : Prop := ∃ g, v = .slice (some ⟨g, 0, none⟩) k k ∧ l.length = k ∧ Blk w g 5 (bvs l) ∧ B ≤ g ∧ ∀ p ∈ h, p.1 ≠ g
theorem SF.sb {B : Nat} {h : Hep} {k : Nat} {l : List UInt8} : ∀ (v : Value) (w w' : World), SF B h k l v w → SB w w' → SF B h k l v w' := fun v w w' ⟨g, e, h1, h2, h3⟩ hb => ⟨g, e, h1, h2.below hb h2.lt, h3⟩
theorem SF.bf {B : Nat} {h : Hep} {k : Nat} {l : List UInt8} {v : Value} {w : World} (hv : SF B h k l v w) : BF l v w := by
  obtain ⟨g, rfl, h1, h2, _⟩ := hv
  exact ⟨_, _, _, rfl, BS.ofBlk h2 k h1.symm _ h2.lt⟩
section
variable {P : Program} {n : Nat} {w0 w w' : World} {a : Act} {e : Env} {h h' : Hep} {Q : Exit → Act → World → Prop} {ops : Array Oper} {rest : List Oper} {o : Oper}
theorem sf_call {f : FuncId} {vs : Array Value} {k : Nat} {l : List UInt8} (H : St n w0 a w e h) (hc : Calls P f vs w (fun r W' => ∃ g, r = .returned (.slice (some ⟨g, 0, none⟩) k k) ∧ Below w.heap.size w W' ∧ Blk W' g 5 (bvs l) ∧ w.heap.size ≤ g)) (hl : l.length = k) :
    Calls P f vs w (fun r W' => ∃ v, r = .returned v ∧ Below w.heap.size w W' ∧ SF w0.heap.size h k l v W') := by
  refine hc.mono ?_
  rintro r W' ⟨g, rfl, hb, h1, h2⟩
  exact ⟨_, rfl, hb, g, rfl, hl, h1, Nat.le_trans H.below.size h2, fun p hp => by have := (H.heap p hp).lt; omega⟩
theorem of_call {f : FuncId} {vs : Array Value} {l : List UInt8} (H : St n w0 a w e h) (hc : Calls P f vs w (fun r W' => ∃ v, r = .returned v ∧ Below w.heap.size w W' ∧ OwnB W' w.heap.size 5 v l)) :
    Calls P f vs w (fun r W' => ∃ v, r = .returned v ∧ Below w.heap.size w W' ∧ OF w0.heap.size h l v W') := by
  refine hc.mono ?_
  rintro r W' ⟨v, rfl, hb, ho⟩
  refine ⟨_, rfl, hb, ⟨ho.1, ho.2.imp id ?_⟩, fun g hg p hp => ?_⟩
  · rintro ⟨g, cap, cur, rfl, h1, r⟩
    exact ⟨g, cap, cur, rfl, Nat.le_trans H.below.size h1, r⟩
  · have := (ho.own hg).1
    have := (H.heap p hp).lt
    omega
/-- A call's own bytes, of which a block is known. -/
theorem of_ucK {k g n' cap : Nat} {cur : Array Value} {l : List UInt8} (H : St n w0 a w e h) (hk : h[k]? = some (g, 5, cur)) (hu : US8 cur n' cap l) {js : List Nat} (hj : js.all (fun j => !Nat.beq j k) = true) : OF w0.heap.size (picks h js) l (.slice (some ⟨g, 0, none⟩) n' cap) w := by
  have hl : l.length = n' := by simpa using hu.len
  subst hl
  refine ⟨⟨by simp, .inr ⟨g, cap, cur, rfl, H.own _ (List.mem_iff_getElem?.2 ⟨k, hk⟩), H.heap _ (List.mem_iff_getElem?.2 ⟨k, hk⟩), hu.le, hu.max, by rw [hu.size, Nat.mul_one], ?_⟩⟩, fun g' hg' p hp => ?_⟩
  · rw [Nat.mul_one]
    exact hu.take
  · injection hg' with hg'
    subst hg'
    obtain ⟨j, hjs, hpj⟩ := picks_get hp
    have hne := List.all_eq_true.1 hj j hjs
    exact pw_ne H.apart (fun e1 => by subst e1; simp at hne) hpj hk
theorem uc_whole {l : List UInt8} {k : Nat} (hl : l.length = k) (hk : k ≤ maxLen) : US8 (bvs l) k k l := ⟨Nat.le_refl _, hk, by rw [bvs_size]; exact hl, by unfold bvs; rw [List.take_of_length_le (by simp; omega)], by simp [hl]⟩
theorem bs_uc {B g n' cap : Nat} {cur : Array Value} {l : List UInt8} (hb : Blk w g 5 cur) (hu : US8 cur n' cap l) (hB : g < B) : BS w B (some ⟨g, 0, none⟩) n' cap l := by
  have hl : l.length = n' := by simpa using hu.len
  refine ⟨hl, hu.le, (by intro e; cases e), fun _ => ⟨g, 0, rfl, hB, fun j x hx => ?_⟩⟩
  rw [Nat.zero_add, hb.cell]
  have := hu.at_ (j := j) (u := bv x) (by rw [List.getElem?_map, hx]; rfl)
  rw [bv_def] at this
  exact this
theorem bs_old {A : Option Addr} {m c : Nat} {l : List UInt8} (hm : BS w0 w0.heap.size A m c l) (H : St n w0 a w e h) : BS w w.heap.size A m c l := (hm.below H.below).more H.below.size
/-! Slices of slices that are the call's own. -/
def OX (B : Nat) (xs : List Value) (v : Value) (w : World) : Prop := w.ownsRow B 25 1 v xs.length xs
theorem OX.nil (B : Nat) (w : World) : OX B [] (.slice none 0 0) w := ⟨rfl, .inl ⟨rfl, rfl⟩⟩
theorem OX.keep {B : Nat} {xs : List Value} {v : Value} (ho : OX B xs v w) (hk : ∀ (g : Nat) (cur : Array Value), Blk w g 25 cur → Blk w' g 25 cur) : OX B xs v w' := by
  refine ⟨ho.1, ho.2.imp id ?_⟩
  rintro ⟨g, cap, cur, rfl, h1, hh, r⟩
  exact ⟨g, cap, cur, rfl, h1, hk g cur hh, r⟩
theorem OX.sb {B : Nat} {xs : List Value} : ∀ (v : Value) (w w' : World), OX B xs v w → SB w w' → OX B xs v w' := fun v w w' ho hb => ho.keep fun g cur hh => hh.below hb hh.lt
theorem OX.wr {B B' : Nat} {h : Hep} {xs : List Value} : ∀ (v : Value) (w w' : World), OX B xs v w → WR B' h w w' → OX B xs v w' := fun v w w' ho ⟨row, hg, hr⟩ => ho.keep fun g cur hh => hh.grown hg (fun e1 => by
  obtain ⟨_, _, cur2, hc⟩ := hr g e1.symm
  have h3 := (Blk.inj hh hc).1
  exact absurd h3 (by decide))
theorem OX.set {B : Nat} {xs : List Value} {v : Value} (ho : OX B xs v w) {g : Nat} {t : TypeId} {cs : Array Value} (hb : Blk w g t cs) (ht : t ≠ 25) (i : Nat) (vs : List Value) : OX B xs v (w.setCells g i vs) := ho.keep fun g' cur hh =>
  Blk.setCells_other (fun e1 => by subst e1; exact ht (Blk.inj hb hh).1) vs i w hh
/-- One row of slices alone, of the call's own, is written on. -/
def WX (B : Nat) : Rel := fun w w' => ∃ row, w.grownBy w' row ∧ ∀ g, row = some g → B ≤ g ∧ ∃ cur, w.heap[g]? = some (.cells cur 25 (0, 0))
theorem wx_st (hh : ∀ p ∈ h, p.2.1 ≠ 25) : ∀ (a : Act) (w w' : World), St n w0 a w e h → WX w0.heap.size w w' → St n w0 a w' e h := fun a w w' H ⟨row, hg, hr⟩ =>
  ⟨H.size, H.defers, H.env, H.below.grown hg H.below.size (fun g hg' => (hr g hg').1), fun p hp => (H.heap p hp).grown hg (fun e1 => by
    obtain ⟨_, cur, hc⟩ := hr p.1 e1.symm
    exact hh p hp (Blk.inj (H.heap p hp) hc).1), H.own, H.apart⟩
/-- A new row of one slice, of two. -/
def RW (ys : List Value) (v : Value) (w : World) : Prop := ∃ r, v = .slice (some ⟨r, 0, none⟩) ys.length ys.length ∧ Blk w r 25 ys.toArray
theorem RW.sb {ys : List Value} : ∀ (v : Value) (w w' : World), RW ys v w → SB w w' → RW ys v w' := fun v w w' ⟨r, e, hb⟩ hs => ⟨r, e, hb.below hs hb.lt⟩
/-- A new row of a slice and of one that is new itself. -/
def RW2 (B : Nat) (u : Value) (k : Nat) (l : List UInt8) (v : Value) (w : World) : Prop := ∃ z, RW [u, .slice (some ⟨z, 0, none⟩) k k] v w ∧ Blk w z 5 (bvs l) ∧ B ≤ z
theorem RW2.sb {B : Nat} {u : Value} {k : Nat} {l : List UInt8} : ∀ (v : Value) (w w' : World), RW2 B u k l v w → SB w w' → RW2 B u k l v w' := fun v w w' ⟨z, h1, h2, h3⟩ hs => ⟨z, RW.sb _ _ _ h1 hs, h2.below hs h2.lt, h3⟩
/-- What a slice of slices of the call's own reads as. -/
theorem rf_ox {B : Nat} {xs : List Value} {v : Value} {L : List (List UInt8)} (ho : OX B xs v w) (hp : PV w w.heap.size xs L) : RF L v w := by
  have hlt := World.ownsRow.lt ho
  rcases ho.2 with ⟨rfl, h0⟩ | ⟨g, cap, cur, rfl, hb, hh, hc, hm, hs, ht⟩
  · obtain rfl : L = [] := List.eq_nil_of_length_eq_zero (by rw [← hp.len]; exact h0)
    exact ⟨none, 0, 0, rfl, rfl, fun h => absurd h (by omega)⟩
  · refine ⟨_, _, _, rfl, hp.len.symm, fun _ => ⟨g, 0, rfl, (hlt g rfl).2, fun j l hl => ?_⟩⟩
    obtain ⟨Aj, nj, cj, h1, h2⟩ := hp.at_ j l hl
    have := World.ownsRow.cells ho (g := g) rfl j _ h1
    rw [Addr.add_lit] at this
    exact ⟨Aj, nj, cj, this, h2⟩
end
section
variable {n : Nat} {w0 w w' : World} {a : Act} {e : Env} {h h' : Hep} {Q : Exit → Act → World → Prop} {ops : Array Oper} {rest : List Oper} {o : Oper}
theorem info_rowb : (Tryd.prog.info? 25).map (fun i => (i.zero, i.size, i.bytes)) = some (some (.slice none 0 0), 1, 24) := by kernel_rfl
/-- 'append(v, x...)' of slices, v the call's own. -/
theorem ob_appX {x y : Operand} {v : Value} {xs ys : List Value} {r : Nat} (H : St n w0 a w e h) (hw : ∀ a w, St n w0 a w e h → Region.wanted o (yielded ops a.tmps) = true) (ho : o.op = .call { callee := .builtin .append, args := #[x, y], argTypes := #[51, 51] })
    (hx : sev e x = some v) (hy : sev e y = some (.slice (some ⟨r, 0, none⟩) ys.length ys.length)) (hv : OX w0.heap.size xs v w) (hr : Blk w r 25 ys.toArray) (h1 : ∀ u ∈ ys, u.oneCell' = true) (hs : xs.length + ys.length ≤ 1000000) :
    Region.wanted o (yielded ops a.tmps) = true ∧ o.wp Tryd.prog a w (fun a' w' => ∃ v, a' = a.put o.dst v ∧ WX w0.heap.size w w' ∧ OX w0.heap.size (xs ++ ys) v w') Q := by
  refine ob_runR H hw ?_
  obtain ⟨i, hi, hz, hsz, hb⟩ := info_parts info_rowb
  obtain ⟨v', w', h2, h3, h4, _, _⟩ := run_append_own_at (P := Tryd.prog) w w0.heap.size 51 o.type 25 i _ 1 24 Tryd.underlying51 hi hz hsz hb rfl (by omega) v _ _ hv ⟨r, 0, none⟩ ys.length ys.length ys (by simp) (fun j u hu => by
    rw [Addr.add_lit, hr.cell]
    simpa using hu) h1 (by simp only [maxLen]; omega) (by omega) H.below.size
  refine ⟨v', w', ?_, ⟨_, h4, fun g hg => ⟨(World.ownsRow.lt hv g hg).1, ?_⟩⟩, by unfold OX; rw [List.length_append]; exact h3⟩
  · simp [execOp, ho, resolve, invoke, builtin, H.ev hx, H.ev hy, h2, Result.andThen]
  · rcases hv.2 with ⟨rfl, _⟩ | ⟨g', cap, cur, rfl, _, hh, _⟩
    · cases hg
    · injection hg with hg
      subst hg
      exact ⟨cur, hh⟩
theorem ob_makeS {x y : Operand} {k : Nat} (H : St n w0 a w e h) (hw : ∀ a w, St n w0 a w e h → Region.wanted o (yielded ops a.tmps) = true) (ho : o.op = .makeSlice 25 x y) (hx : sev e x = some (.int .i64 (k : Int))) (hy : sev e y = some (.int .i64 (k : Int))) (hk : k ≤ 281474976710656) :
    ObS Tryd.prog ops Q o a w (SF w0.heap.size h k (zs k)) := by
  refine ob_runR H hw ⟨.slice (some ⟨w.heap.size, 0, none⟩) k k, w.alloc (.cells (bvs (zs k)) 5), ?_, (Below.refl _ _).alloc (Nat.le_refl _) _, w.heap.size, rfl, zs_len k, Blk.new _ _ _, H.below.size, fun p hp => Nat.ne_of_lt (H.heap p hp).lt⟩
  unfold execOp
  simp only [ho, H.ev hx, H.ev hy, Sem.run_bind, run_mkb (P := Tryd.prog) 25 5 Tryd.underlying25 u8_info k hk w, Result.andThen_ok, Sem.run_pure, zeros_rb]
  rfl
theorem run_row1 (w : World) {A : Option Addr} {k c : Nat} : (Instr.buildSlice 51 1 #[(0, .slice A k c)]).run Tryd.prog w = .ok (.slice (some ⟨w.heap.size, 0, none⟩) 1 1) (w.alloc (.cells [Value.slice A k c].toArray 25)) := by kernel_rfl
theorem run_row2 (w : World) {A A2 : Option Addr} {k k2 c c2 : Nat} : (Instr.buildSlice 51 2 #[(0, .slice A k c), (1, .slice A2 k2 c2)]).run Tryd.prog w = .ok (.slice (some ⟨w.heap.size, 0, none⟩) 2 2) (w.alloc (.cells [Value.slice A k c, Value.slice A2 k2 c2].toArray 25)) := by kernel_rfl
theorem ob_row1 {x : Operand} {A : Option Addr} {k c : Nat} (H : St n w0 a w e h) (hw : ∀ a w, St n w0 a w e h → Region.wanted o (yielded ops a.tmps) = true) (ho : o.op = .buildSlice 51 1 #[(0, x)]) (hx : sev e x = some (.slice A k c)) :
    ObS Tryd.prog ops Q o a w (RW [.slice A k c]) := by
  refine ob_runR H hw ⟨_, _, ?_, (Below.refl _ _).alloc (Nat.le_refl _) _, w.heap.size, rfl, Blk.new _ _ _⟩
  simp [execOp, ho, H.ev hx, run_row1, Result.andThen]
theorem ob_row2 {x y : Operand} {A : Option Addr} {k c m : Nat} {l : List UInt8} {v : Value} {B : Nat} (H : St n w0 a w e h) (hw : ∀ a w, St n w0 a w e h → Region.wanted o (yielded ops a.tmps) = true) (ho : o.op = .buildSlice 51 2 #[(0, x), (1, y)]) (hx : sev e x = some (.slice A k c)) (hy : sev e y = some v) (hv : SF B [] m l v w) :
    ObS Tryd.prog ops Q o a w (RW2 B (.slice A k c) m l) := by
  obtain ⟨z, rfl, hl, hz, hB, _⟩ := hv
  refine ob_runR H hw ⟨_, _, ?_, (Below.refl _ _).alloc (Nat.le_refl _) _, z, ⟨w.heap.size, rfl, Blk.new _ _ _⟩, hz.alloc _, hB⟩
  simp [execOp, ho, H.ev hx, H.ev hy, run_row2, Result.andThen]
/-! A cell of slices that is known; calls that leave what is known told anew. -/
theorem ld_rows {g : Nat} {t : TypeId} {A : Option Addr} {k c : Nat} (W : World) (h : Blk W g t #[.slice A k c]) : (Instr.loadAt 51 (.pointer (some ⟨g, 0, none⟩))).run Tryd.prog W = .ok (.slice A k c) W := by
  have hc : W.cell? ⟨g, 0, none⟩ = some (.slice A k c) := h.cell 0
  go_simp
theorem st_rows {g : Nat} {t : TypeId} {u : Value} {A : Option Addr} {k c : Nat} (W : World) (h : Blk W g t #[u]) : (Instr.storeAt 51 (.pointer (some ⟨g, 0, none⟩)) (.slice A k c)).run Tryd.prog W = .ok () (W.setCells g 0 [.slice A k c]) := by
  have hc : W.cell? ⟨g, 0, none⟩ = some u := h.cell 0
  have hf := h.frozen 0
  have hs : (W.cell? ⟨g, 0, none⟩).isSome = true := by rw [hc]; rfl
  show _ = Result.ok () (W.setCell ⟨g, 0, none⟩ (.slice A k c))
  go_simp
theorem OX.form {B : Nat} {xs : List Value} {v : Value} {w : World} (ho : OX B xs v w) : ∃ A k c, v = .slice A k c := by
  rcases ho.2 with ⟨rfl, _⟩ | ⟨g, cap, cur, rfl, _⟩
  · exact ⟨_, _, _, rfl⟩
  · exact ⟨_, _, _, rfl⟩
end
section
variable {P : Program} {n : Nat} {w0 w w' : World} {a : Act} {e : Env} {h h' : Hep} {Q : Exit → Act → World → Prop} {ops : Array Oper} {rest : List Oper} {o : Oper}
/-- A store of a part of a block: the world behind it, too. -/
theorem pl_storeW {t : TypeId} {x y : Operand} {g f k : Nat} {t' : TypeId} {cs c : Array Value} {v : Value} {vs : List Value} (ho : o.op = .store t x y) (hx : sev e x = some (.pointer (some ⟨g, f, none⟩))) (hy : sev e y = some v) (hk : h[k]? = some (g, t', cs))
    (hr : ∀ W, Blk W g t' cs → (Instr.storeAt t (.pointer (some ⟨g, f, none⟩)) v).run P W = .ok () (W.setCells g f vs)) (hc : setV cs f vs = c) (hg : o.guard = none) (hdst : o.dst = none)
    (H : St n w0 a w e h) (next : ∀ a, St n w0 a (w.setCells g f vs) e (h.set k (g, t', c)) → wpList P ops Q rest a (w.setCells g f vs)) : wpList P ops Q (o :: rest) a w :=
  wpList_plain hg fun K hK => by
    unfold Oper.wp execOp
    simp only [ho, H.ev hx, H.ev hy, Sem.run_bind, hr w (H.heap _ (List.mem_iff_getElem?.2 ⟨k, hk⟩)), Result.andThen_ok, Sem.run_pure]
    refine hK _ _ (next _ ?_)
    rw [hdst]
    exact H.setCells hk f vs hc
/-- A call that writes on what is known: what it leaves is told by what there is. -/
theorem pl_callKX {ι : Type} {hh : ι → Hep} {F : ι → World → Prop} {d : Nat} {f : FuncId} {x : Operand} {caps : Array Value} {args : List Operand} {tys : Array TypeId} {vs vs' : List Value} {v : Value} (ho : o.op = .call { callee := .value x, args := args.toArray, argTypes := tys }) (hf : Ours P f)
    (hx0 : sev e x = some (.func (.func f) #[] caps)) (hx : sevs e args = some vs) (hv : vs.toArray ++ caps = vs'.toArray)
    (hc : Kn w0 w h → Calls P f vs'.toArray w (fun r W' => ∃ i, r = .returned v ∧ Kn w0 W' (hh i) ∧ F i W'))
    (hg : o.guard = none) (hdst : o.dst = some d) (hl : Nat.blt d n = true) (hfr : e.all (fun p => !Nat.beq p.1 d) = true) (H : St n w0 a w e h)
    (next : ∀ i a w, F i w → St n w0 a w ((d, v) :: e) (hh i) → wpList P ops Q rest a w) : wpList P ops Q (o :: rest) a w :=
  wpList_plain hg fun K hK => by
    have hrun : (execOp a.eval o).run P w = .ok (.enter f vs'.toArray) w := by
      unfold execOp
      simp only [ho, resolve, H.ev hx0, Deferred.ofValue, List.map_toArray, H.evs hx]
      simp [Sem.run_bind, Sem.run_pure, invoke, hv, run_callFunc hf]
    unfold Oper.wp
    rw [hrun, Oper.upon_enter]
    refine (hc H.kn).mono ?_
    rintro r W' ⟨i, rfl, hk, hF⟩
    refine hK _ _ (next i _ _ hF ?_)
    rw [hdst]
    exact (H.again hk).put v hl hfr
theorem end_none_ {fn : Func} {R : Ending → World → Prop} (hr : fn.results = #[]) (H : St n w0 a w e h) (hR : R (.returned (.tuple #[])) w) : bodyPost P fn R .normal a w := by
  refine ⟨H.defers, .tuple #[], ?_, hR⟩
  simp [results, hr]
/-- A part of a row, as a row. -/
theorem ld_part {T g m k : Nat} {t : TypeId} {f : Nat → UInt8} {d : TypeDesc} (hu : P.underlying T = some d) (hd : d.isRow = true) (hi : (P.info? T).map (·.size) = some m) (hk : m ≤ k) (W : World) (h : Blk W g t (bvs (rb k f))) : (Instr.loadAt T (.pointer (some ⟨g, 0, none⟩))).run P W = .ok (.agg (bvs (rb m f))) W := by
  have hr : W.rangeAt g 0 ((rb m f).map bv) := fun j v hv => by
    rw [Nat.zero_add, h.cell, bvs_get]
    rw [List.getElem?_map] at hv
    obtain ⟨x, hx, rfl⟩ := Option.map_eq_some_iff.1 hv
    have hj : j < m := by have := (List.getElem?_eq_some_iff.1 hx).1; rwa [rb_len] at this
    rw [rb_get hj] at hx
    rw [rb_get (by omega), hx]
    rfl
  rw [bvs_def]
  exact run_loadAt_mid W g 0 T _ d hr hu hd (by rw [hi]; simp [rb_len])
/-- Bytes of a slice that was there, as a row. -/
theorem ld_bytes {T g m o : Nat} {f : Nat → UInt8} {d : TypeDesc} (hu : P.underlying T = some d) (hd : d.isRow = true) (hi : (P.info? T).map (·.size) = some m) {w : World} (hc : ∀ j, j < m → w.cell? ⟨g, o + j, none⟩ = some (bv (f j))) : (Instr.loadAt T (.pointer (some ⟨g, o, none⟩))).run P w = .ok (.agg (bvs (rb m f))) w := by
  have hr : w.rangeAt g o ((rb m f).map bv) := fun j v hv => by
    rw [List.getElem?_map] at hv
    obtain ⟨x, hx, rfl⟩ := Option.map_eq_some_iff.1 hv
    have hj : j < m := by have := (List.getElem?_eq_some_iff.1 hx).1; rwa [rb_len] at this
    rw [rb_get hj] at hx
    injection hx with hx
    rw [hc j hj, hx]
  rw [bvs_def]
  exact run_loadAt_mid w g o T _ d hr hu hd (by rw [hi]; simp [rb_len])
end
end Go.Proofs.YtghbknebaknmjaaDoor
