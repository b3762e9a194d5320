/- The document's stream: its round, its block. -/
import Derived.Test.YtghbknebaknmjaaDoorIf
import Derived.Lib.AppendStr
namespace Go.Proofs.YtghbknebaknmjaaDoor.Cha
set_option linter.unusedVariables false
set_option linter.unusedSimpArgs false
set_option maxRecDepth 100000
open Go Go.RowKit

section
variable {n : Nat} {w0 w w' : World} {a : Act} {e : Env} {h : Hep} {Q : Exit → Act → World → Prop} {ops : Array Oper} {rest : List Oper} {o : Oper} {P : Program}
/-- One operation, in the text's order. -/
theorem pl_R {d : Nat} {R : Rel} {F : Value → World → Prop} (hR : ∀ (a : Act) (w w' : World), St n w0 a w e h → R w w' → St n w0 a w' e h) (hob : Region.wanted o (yielded ops a.tmps) = true ∧ o.wp P a w (fun a' w' => ∃ v, a' = a.put o.dst v ∧ R w w' ∧ F v w') Q) (hdst : o.dst = some d) (hl : Nat.blt d n = true) (hf : e.all (fun p => !Nat.beq p.1 d) = true)
    (H : St n w0 a w e h) (next : ∀ v a w', F v w' → R w w' → St n w0 a w' ((d, v) :: e) h → wpList P ops Q rest a w') : wpList P ops Q (o :: rest) a w :=
  wpList_step fun K hK => by
    rw [hob.1, if_pos rfl]
    exact Oper.wp_mono (fun a' w' hw => by
      obtain ⟨v, rfl, hb, hF⟩ := hw
      refine hK _ _ (next v _ _ hF hb ?_)
      rw [hdst]
      exact (hR _ _ _ H hb).put v hl hf) hob.2
theorem ob_assignS {x : Operand} {v : Value} {F : Value → World → Prop} (H : St n w0 a w e h) (hw : ∀ a w, St n w0 a w e h → Region.wanted o (yielded ops a.tmps) = true) (ho : o.op = .assign x) (hx : sev e x = some v) (hv : F v w) : ObS P ops Q o a w F := by
  refine ob_runR H hw ⟨v, w, ?_, Below.refl _ _, hv⟩
  simp [execOp, ho, H.ev hx]
/-- What was known, behind what left it alone. -/
theorem _root_.Go.Proofs.YtghbknebaknmjaaDoor.Kn.joinC {a' : Act} {e' : Env} (K : Kn w0 w h) (H : St n w a' w' e' []) : St n w0 a' w' e' h :=
  ⟨H.size, H.defers, H.env, K.below.trans (H.below.mono K.below.size), fun p hp => (K.heap p hp).below H.below (K.heap p hp).lt, K.own, K.apart⟩
theorem _root_.Go.Proofs.YtghbknebaknmjaaDoor.OF.nil (B : Nat) (h : Hep) (w : World) : OF B h [] (.slice none 0 0) w := ⟨OwnB.nil _ _ _, fun g hg => by cases hg⟩
/-- 'append(v, s...)', v nil, s a text. -/
theorem ob_appStrS {x y : Operand} {s : ByteArray} {l : List UInt8} (H : St n w0 a w e h) (hw : ∀ a w, St n w0 a w e h → Region.wanted o (yielded ops a.tmps) = true) (ho : o.op = .call { callee := .builtin .append, args := #[x, y], argTypes := #[25, 9] })
    (hx : sev e x = some (.slice none 0 0)) (hy : sev e y = some (.string s)) (hl : s.data.toList = l) (hs : s.size ≤ 1000000) : ObS Tryd.prog ops Q o a w (OF w0.heap.size h l) := by
  refine ob_runR H hw ?_
  obtain ⟨i, hi, hz, hsz, hby⟩ := info_parts u8_info
  obtain ⟨v', w', h1, h2, h3, _⟩ := Lib.run_append_own_string (P := Tryd.prog) (w := w) w.heap.size 25 9 o.type 5 i Tryd.underlying25 Tryd.underlying9 hi hz hsz hby (.slice none 0 0) 0 [] ⟨rfl, .inl ⟨rfl, rfl⟩⟩ s (by simp only [maxLen]; omega) (by omega) (Nat.le_refl _)
  have hlen : l.length = s.size := by rw [← hl]; exact Array.length_toList
  have hcs : ([] : List Value) ++ Lib.strCells s = l.map bv := by
    rw [List.nil_append, ← hl]
    simp [Lib.strCells, bv]
  rw [hcs, Nat.zero_add, ← hlen] at h2
  have hle := H.below.size
  refine ⟨v', w', ?_, grown_none h3, ⟨⟨h2.1, h2.2.imp id ?_⟩, fun g hg p hp => ?_⟩⟩
  · simp [execOp, ho, resolve, invoke, builtin, H.ev hx, H.ev hy, h1, Result.andThen]
  · rintro ⟨g, cap, cur, rfl, hb, r⟩
    exact ⟨g, cap, cur, rfl, Nat.le_trans hle hb, r⟩
  · have := World.ownsRow.lt h2 g hg
    have := (H.heap p hp).lt
    omega
theorem bf_new {w : World} (l : List UInt8) : Below w.heap.size w (w.alloc (.cells (bvs l) 5)) ∧ BF l (.slice (some ⟨w.heap.size, 0, none⟩) l.length l.length) (w.alloc (.cells (bvs l) 5)) :=
  ⟨(Below.refl _ _).alloc (Nat.le_refl _) _, _, _, _, rfl, BS.ofBlk (Blk.new _ _ _) _ rfl _ (Blk.new w 5 (bvs l)).lt⟩
theorem run_bytes4 (w : World) (x0 x1 x2 x3 : UInt8) : (Instr.buildSlice 25 4 #[(0, bv x0), (1, bv x1), (2, bv x2), (3, bv x3)]).run Tryd.prog w = .ok (.slice (some ⟨w.heap.size, 0, none⟩) 4 4) (w.alloc (.cells (bvs [x0, x1, x2, x3]) 5)) := by kernel_rfl
theorem run_bytes1 (w : World) (x0 : UInt8) : (Instr.buildSlice 25 1 #[(0, bv x0)]).run Tryd.prog w = .ok (.slice (some ⟨w.heap.size, 0, none⟩) 1 1) (w.alloc (.cells (bvs [x0]) 5)) := by kernel_rfl
theorem ob_bytes4S {y0 y1 y2 y3 : Operand} {x0 x1 x2 x3 : UInt8} (H : St n w0 a w e h) (hw : ∀ a w, St n w0 a w e h → Region.wanted o (yielded ops a.tmps) = true) (ho : o.op = .buildSlice 25 4 #[(0, y0), (1, y1), (2, y2), (3, y3)])
    (h0 : sev e y0 = some (bv x0)) (h1 : sev e y1 = some (bv x1)) (h2 : sev e y2 = some (bv x2)) (h3 : sev e y3 = some (bv x3)) : ObS Tryd.prog ops Q o a w (BF [x0, x1, x2, x3]) := by
  refine ob_runR H hw ⟨_, _, ?_, bf_new [x0, x1, x2, x3]⟩
  simp [execOp, ho, H.ev h0, H.ev h1, H.ev h2, H.ev h3, run_bytes4, Result.andThen]
theorem ob_bytes1S {y0 : Operand} {x0 : UInt8} (H : St n w0 a w e h) (hw : ∀ a w, St n w0 a w e h → Region.wanted o (yielded ops a.tmps) = true) (ho : o.op = .buildSlice 25 1 #[(0, y0)])
    (h0 : sev e y0 = some (bv x0)) : ObS Tryd.prog ops Q o a w (BF [x0]) := by
  refine ob_runR H hw ⟨_, _, ?_, bf_new [x0]⟩
  simp [execOp, ho, H.ev h0, run_bytes1, Result.andThen]
end
theorem sl_keyBF {W : World} {g : Nat} {t : TypeId} {n : Nat} {f : Nat → UInt8} (h : Blk W g t (bvs (rb n f))) : BF (rb n f) (.slice (some ⟨g, 0, none⟩) n n) W := ⟨_, _, _, rfl, BS.ofBlk h n (rb_len _ _).symm _ h.lt⟩
theorem i_geq_yes {k : Nat} (p q : Operand) (W : World) : (do eqGuard .geq 3 p q (.int .i64 (k : Int)) (.int .i64 0); binOp .geq 3 (.int .i64 (k : Int)) (.int .i64 0) : Sem Value).run Tryd.prog W = .ok (.bool true) W := by
  rw [i_geq, decide_eq_true (by omega)]
theorem i_geq_no {k : Int} (h : k < 0) (p q : Operand) (W : World) : (do eqGuard .geq 3 p q (.int .i64 k) (.int .i64 0); binOp .geq 3 (.int .i64 k) (.int .i64 0) : Sem Value).run Tryd.prog W = .ok (.bool false) W := by
  rw [i_geq, decide_eq_false (by omega)]
theorem ld_cur {g j : Nat} {t : TypeId} {cur : Array Value} {x : UInt8} (hj : cur[j]? = some (bv x)) (W : World) (h : Blk W g t cur) : (Instr.loadAt 5 (.pointer (some ⟨g, j, none⟩))).run Tryd.prog W = .ok (bv x) W := ld_cellB W ((h.cell j).trans hj)
/-! Words of four bytes. -/
theorem or_add {x y k : Nat} (hx : x < 2 ^ k) : x ||| y * 2 ^ k = x + y * 2 ^ k := by
  rw [Nat.or_comm, ← Nat.shiftLeft_eq, ← Nat.shiftLeft_add_eq_or_of_lt hx, Nat.add_comm]
theorem byteW_nat (b : UInt8) : (byteW b).toNat = b.toNat := by
  have := b.toNat_lt
  rw [byteW, UInt32.toNat_ofNat']
  omega
theorem shl_nat8 (b : UInt8) {s : Nat} (hs : s ≤ 24) : (shlW (byteW b) s).toNat = b.toNat * 2 ^ s := by
  have := b.toNat_lt
  have h2 : 2 ^ s ≤ 2 ^ 24 := Nat.pow_le_pow_right (by omega) hs
  rw [shlW, UInt32.toNat_ofNat', byteW_nat, Nat.mod_eq_of_lt]
  calc b.toNat * 2 ^ s ≤ 255 * 2 ^ 24 := Nat.mul_le_mul (by omega) h2
    _ < 4294967296 := by decide
theorem leW_nat (b0 b1 b2 b3 : UInt8) : (leW b0 b1 b2 b3).toNat = b0.toNat + b1.toNat * 256 + b2.toNat * 65536 + b3.toNat * 16777216 := by
  have h0 := b0.toNat_lt
  have h1 := b1.toNat_lt
  have h2 := b2.toNat_lt
  have h3 := b3.toNat_lt
  unfold leW
  rw [UInt32.toNat_or, UInt32.toNat_or, UInt32.toNat_or, shl_nat8 _ (by omega), shl_nat8 _ (by omega), shl_nat8 _ (by omega), shl_nat8 _ (by omega), Nat.pow_zero, Nat.mul_one,
    or_add (k := 8) (by omega), or_add (k := 16) (by omega), or_add (k := 24) (by omega)]
theorem horn_le (b0 b1 b2 b3 : UInt8) : (((0 * 256 + byteW b3) * 256 + byteW b2) * 256 + byteW b1) * 256 + byteW b0 = leW b0 b1 b2 b3 := by
  have h0 := b0.toNat_lt
  have h1 := b1.toNat_lt
  have h2 := b2.toNat_lt
  have h3 := b3.toNat_lt
  apply UInt32.toNat_inj.1
  rw [leW_nat]
  simp only [UInt32.toNat_add, UInt32.toNat_mul, byteW_nat, show (256 : UInt32).toNat = 256 from rfl, show (0 : UInt32).toNat = 0 from rfl]
  omega
theorem shrW_nat (x : UInt32) (s : Nat) : (shrW x s).toNat = x.toNat / 2 ^ s := by
  have := w_lt x
  have h : x.toNat / 2 ^ s ≤ x.toNat := Nat.div_le_self _ _
  rw [shrW, UInt32.toNat_ofNat', Nat.mod_eq_of_lt (by omega)]
theorem lowB_nat (x : UInt32) : (lowB x).toNat = x.toNat % 256 := by rw [lowB, UInt8.toNat_ofNat']
theorem le_word (c : UInt32) : leW (lowB c) (lowB (shrW c 8)) (lowB (shrW c 16)) (lowB (shrW c 24)) = c := by
  have := w_lt c
  apply UInt32.toNat_inj.1
  rw [leW_nat, lowB_nat, lowB_nat, lowB_nat, lowB_nat, shrW_nat, shrW_nat, shrW_nat]
  omega
/-- What the document's row is made of. -/
def textB : List UInt8 := [101, 120, 112, 97, 110, 100, 32, 51, 50, 45, 98, 121, 116, 101, 32, 107]
def b64 (kk : Nat → UInt8) (c : UInt32) (nn : Nat → UInt8) : List UInt8 := ((textB ++ rb 32 kk) ++ [lowB c, lowB (shrW c 8), lowB (shrW c 16), lowB (shrW c 24)]) ++ rb 12 nn
theorem b64_len (kk : Nat → UInt8) (c : UInt32) (nn : Nat → UInt8) : (b64 kk c nn).length = 64 := by simp [b64, textB, rb_len]
def bF (kk : Nat → UInt8) (c : UInt32) (nn : Nat → UInt8) (i : Nat) : UInt8 := (b64 kk c nn).getD i 0
/-- The row while it is made, from the highest byte on. -/
def hornW (B : Nat → UInt8) : Nat → Wd
  | 0 => w0s
  | k + 1 => upd (hornW B k) ((63 - k) / 4) (hornW B k ((63 - k) / 4) * 256 + byteW (B (63 - k)))
theorem horn_at (B : Nat → UInt8) {i : Nat} (hi : i < 16) : hornW B 64 i = leW (B (4 * i)) (B (4 * i + 1)) (B (4 * i + 2)) (B (4 * i + 3)) := by
  rw [← horn_le]
  rcases i with _ | _ | _ | _ | _ | _ | _ | _ | _ | _ | _ | _ | _ | _ | _ | _ | i <;> first | rfl | exact absurd hi (by omega)
theorem horn_all (kk : Nat → UInt8) (c : UInt32) (nn : Nat → UInt8) : wv (hornW (bF kk c nn) 64) = wv (begW kk c nn) := wv_ext fun i hi => by
  rw [horn_at _ hi]
  rcases i with _ | _ | _ | _ | _ | _ | _ | _ | _ | _ | _ | _ | _ | _ | _ | _ | i
  · show leW 101 120 112 97 = 1634760805
    decide +kernel
  · show leW 110 100 32 51 = 857760878
    decide +kernel
  · show leW 50 45 98 121 = 2036477234
    decide +kernel
  · show leW 116 101 32 107 = 1797285236
    decide +kernel
  · rfl
  · rfl
  · rfl
  · rfl
  · rfl
  · rfl
  · rfl
  · rfl
  · exact le_word c
  · rfl
  · rfl
  · rfl
  · exact absurd hi (by omega)
def outR (f g : Wd) (i : Nat) : UInt8 := lowB (shrW (f (i / 4) + g (i / 4)) (8 * (i % 4)))
theorem outR_all (kk : Nat → UInt8) (c : UInt32) (nn : Nat → UInt8) : bvs (rb 64 (fillB (outR (begW kk c nn) (mixW (begW kk c nn) 10)) 64)) = bvs (rb 64 (blockF kk c nn)) := by
  rw [rb_fill 64 (outR (begW kk c nn) (mixW (begW kk c nn) 10))]
  refine congrArg bvs (rb_ext fun i hi => ?_)
  show lowB (shrW (begW kk c nn (i / 4) + mixW (begW kk c nn) 10 (i / 4)) (8 * (i % 4))) = lowB (shrW (mixW (begW kk c nn) 10 (i / 4) + begW kk c nn (i / 4)) (8 * (i % 4)))
  rw [UInt32.add_comm]
theorem cur_at {cur : Array Value} {cap : Nat} {l : List UInt8} (hu : US8 cur 64 cap l) {i : Nat} (hi : i < 64) : cur[i]? = some (bv (l.getD i 0)) := by
  have hl : l.length = 64 := by simpa using hu.len
  refine hu.at_ ?_
  rw [List.getElem?_map, List.getElem?_eq_getElem (by omega)]
  simp [List.getD, show i < l.length by omega]
end Go.Proofs.YtghbknebaknmjaaDoor.Cha
