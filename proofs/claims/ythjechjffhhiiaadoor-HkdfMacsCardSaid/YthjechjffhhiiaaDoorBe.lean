/- The document's layer 11: Sum. -/
import Derived.Test.YthjechjffhhiiaaDoorBd
namespace Go.Proofs.YthjechjffhhiiaaDoor
set_option linter.unusedVariables false
set_option linter.unusedSimpArgs false
set_option maxRecDepth 100000
open Go Go.RowKit

/-! Purely. -/
def mapU (F g : Wd) (k : Nat) : Wd := fun i => bif Nat.blt i k then F i else g i
theorem bltY {i k : Nat} (h : i < k) : Nat.blt i k = true := Nat.ble_eq_true_of_le h
theorem bltN {i k : Nat} (h : k ≤ i) : Nat.blt i k = false := by
  cases e : Nat.blt i k with
  | false => rfl
  | true => have : i + 1 ≤ k := Nat.le_of_ble_eq_true e; omega
theorem mapU_lt {F g : Wd} {k i : Nat} (h : i < k) : mapU F g k i = F i := by unfold mapU; rw [bltY h, cond_true]
theorem mapU_ge {F g : Wd} {k i : Nat} (h : k ≤ i) : mapU F g k i = g i := by unfold mapU; rw [bltN h, cond_false]
theorem mapU_0 (F g : Wd) : mapU F g 0 = g := funext fun i => mapU_ge (Nat.zero_le i)
theorem mapU_step {F g : Wd} {k : Nat} {x : UInt32} (h : F k = x) : upd (mapU F g k) k x = mapU F g (k + 1) := funext fun i => by
  subst h
  by_cases e : i = k
  · subst e
    rw [upd_self, mapU_lt (by omega)]
  · rw [upd_ne e]
    by_cases h2 : i < k
    · rw [mapU_lt h2, mapU_lt (by omega)]
    · rw [mapU_ge (by omega), mapU_ge (by omega)]
theorem mapU_all (n : Nat) (F g : Wd) : wn n (mapU F g n) = wn n F := wn_ext fun i hi => mapU_lt hi
def mapY (F g : Nat → UInt8) (k : Nat) : Nat → UInt8 := fun i => bif Nat.blt i k then F i else g i
theorem mapY_0 (F g : Nat → UInt8) : mapY F g 0 = g := funext fun i => by unfold mapY; rw [bltN (Nat.zero_le i), cond_false]
theorem mapY_step {F g : Nat → UInt8} {k : Nat} {x : UInt8} (h : F k = x) : updB (mapY F g k) k x = mapY F g (k + 1) := funext fun i => by
  subst h
  unfold updB mapY
  by_cases e : i = k
  · subst e
    rw [Nat.beq_refl, bltY (Nat.lt_succ_self i)]
    rfl
  · rw [show Nat.beq i k = false from nb_ne e, cond_false]
    by_cases h2 : i < k
    · rw [bltY h2, bltY (show i < k + 1 by omega)]
    · rw [bltN (show k ≤ i by omega), bltN (show k + 1 ≤ i by omega)]
theorem mapY_all {n : Nat} (F g : Nat → UInt8) : bvs (rb n (mapY F g n)) = bvs (rb n F) := by rw [rb_ext (fun i hi => by unfold mapY; rw [bltY hi, cond_true])]
/-- Words of bytes, the last byte first. -/
def hornB (B : Nat → UInt8) : Nat → Wd
  | 0 => w0s
  | k + 1 => upd (hornB B k) ((63 - k) / 4) (hornB B k ((63 - k) / 4) * 256 + byteW (B (63 - k)))
theorem or_addB {x y k : Nat} (hx : x < 2 ^ k) : x ||| y * 2 ^ k = x + y * 2 ^ k := by
  rw [Nat.or_comm, ← Nat.shiftLeft_eq, ← Nat.shiftLeft_add_eq_or_of_lt hx, Nat.add_comm]
theorem byteW_natB (b : UInt8) : (byteW b).toNat = b.toNat := by
  have := b.toNat_lt
  rw [byteW, UInt32.toNat_ofNat']
  omega
theorem shl_natB (b : UInt8) {s : Nat} (hs : s ≤ 24) : (shlW (byteW b) s).toNat = b.toNat * 2 ^ s := by
  have := b.toNat_lt
  have h2 : 2 ^ s ≤ 2 ^ 24 := Nat.pow_le_pow_right (by omega) hs
  rw [shlW, UInt32.toNat_ofNat', byteW_natB, Nat.mod_eq_of_lt]
  calc b.toNat * 2 ^ s ≤ 255 * 2 ^ 24 := Nat.mul_le_mul (by omega) h2
    _ < 4294967296 := by decide
theorem leW_natB (b0 b1 b2 b3 : UInt8) : (leW b0 b1 b2 b3).toNat = b0.toNat + b1.toNat * 256 + b2.toNat * 65536 + b3.toNat * 16777216 := by
  have h0 := b0.toNat_lt
  have h1 := b1.toNat_lt
  have h2 := b2.toNat_lt
  have h3 := b3.toNat_lt
  unfold leW
  rw [UInt32.toNat_or, UInt32.toNat_or, UInt32.toNat_or, shl_natB _ (by omega), shl_natB _ (by omega), shl_natB _ (by omega), shl_natB _ (by omega), Nat.pow_zero, Nat.mul_one,
    or_addB (k := 8) (by omega), or_addB (k := 16) (by omega), or_addB (k := 24) (by omega)]
theorem horn_leB (b0 b1 b2 b3 : UInt8) : (((0 * 256 + byteW b3) * 256 + byteW b2) * 256 + byteW b1) * 256 + byteW b0 = leW b0 b1 b2 b3 := by
  have h0 := b0.toNat_lt
  have h1 := b1.toNat_lt
  have h2 := b2.toNat_lt
  have h3 := b3.toNat_lt
  apply UInt32.toNat_inj.1
  rw [leW_natB]
  simp only [UInt32.toNat_add, UInt32.toNat_mul, byteW_natB, show (256 : UInt32).toNat = 256 from rfl, show (0 : UInt32).toNat = 0 from rfl]
  omega
theorem horn_atB (B : Nat → UInt8) {i : Nat} (hi : i < 16) : hornB B 64 i = leW (B (4 * i)) (B (4 * i + 1)) (B (4 * i + 2)) (B (4 * i + 3)) := by
  rw [← horn_leB]
  rcases i with _ | _ | _ | _ | _ | _ | _ | _ | _ | _ | _ | _ | _ | _ | _ | _ | i <;> first | rfl | exact absurd hi (by omega)
def blB (l : List UInt8) (j : Nat) : Nat → UInt8 := fun i => l.getD (64 * j + i) 0
theorem hornB_all (l : List UInt8) (j : Nat) : wv (hornB (blB l j) 64) = wv (blW l j) := wv_ext fun i hi => by
  rw [horn_atB _ hi]
  rfl
theorem nBl_0 {n : Nat} (h : n = 0) : nBl n = 1 := by subst h; rfl
theorem nBl_pos {n : Nat} (h : 0 < n) : nBl n = (n + 63) / 64 := by
  cases n with
  | zero => omega
  | succ n => rfl
/-- The state's two halves. -/
def pK (h : Wd) (k : Nat) : Wd := fun i => bif Nat.blt i 8 then (bif Nat.blt i k then h i else 0) else (bif Nat.blt i (8 + k) then ivB (i - 8) else 0)
def vB (h : Wd) : Wd := fun i => bif Nat.blt i 8 then h i else ivB (i - 8)
theorem pK_0 (h : Wd) : wv w0s = wv (pK h 0) := wv_ext fun i hi => by
  unfold pK
  by_cases h1 : i < 8
  · rw [bltY h1, bltN (Nat.zero_le i)]
    rfl
  · rw [bltN (show 8 ≤ i by omega)]
    rfl
theorem pK_step (h : Wd) {k : Nat} (hk : k < 8) : upd (upd (pK h k) k (h k)) (8 + k) (ivB k) = pK h (k + 1) := funext fun i => by
  by_cases e : i = 8 + k
  · subst e
    rw [upd_self]
    unfold pK
    rw [bltN (show 8 ≤ 8 + k by omega), bltY (show 8 + k < 8 + (k + 1) by omega), show 8 + k - 8 = k by omega]
    rfl
  · rw [upd_ne e]
    by_cases e2 : i = k
    · subst e2
      rw [upd_self]
      unfold pK
      rw [bltY hk, bltY (Nat.lt_succ_self i)]
      rfl
    · rw [upd_ne e2]
      unfold pK
      by_cases h1 : i < 8
      · rw [bltY h1]
        by_cases h2 : i < k
        · rw [bltY h2, bltY (show i < k + 1 by omega)]
          rfl
        · rw [bltN (show k ≤ i by omega), bltN (show k + 1 ≤ i by omega)]
          rfl
      · rw [bltN (show 8 ≤ i by omega)]
        by_cases h2 : i < 8 + k
        · rw [bltY h2, bltY (show i < 8 + (k + 1) by omega)]
          rfl
        · rw [bltN (show 8 + k ≤ i by omega), bltN (show 8 + (k + 1) ≤ i by omega)]
          rfl
theorem pK_all (h : Wd) : wv (pK h 8) = wv (vB h) := wv_ext fun i hi => by
  unfold pK vB
  by_cases h1 : i < 8
  · rw [bltY h1]
    rfl
  · rw [bltN (show 8 ≤ i by omega), bltY (show i < 8 + 8 by omega)]
    rfl
/-- The last block's mark. -/
def lB (b : Bool) (h : Wd) : Wd := bif b then upd (vB h) 14 (~~~ (vB h 14)) else vB h
theorem pre_all (h : Wd) (t : Nat) (b : Bool) : wv (upd (upd (lB b h) 12 (lB b h 12 ^^^ UInt32.ofNat t)) 13 ((upd (lB b h) 12 (lB b h 12 ^^^ UInt32.ofNat t)) 13 ^^^ UInt32.ofNat (t / 4294967296))) = wv (preB h t b) := wv_ext fun i hi => by
  have l13 : lB b h 13 = ivB 5 := by cases b <;> rfl
  have l12 : lB b h 12 = ivB 4 := by cases b <;> rfl
  by_cases e13 : i = 13
  · subst e13
    rw [upd_self, upd_ne (by decide), l13]
    rfl
  rw [upd_ne e13]
  by_cases e12 : i = 12
  · subst e12
    rw [upd_self, l12]
    rfl
  rw [upd_ne e12]
  by_cases e14 : i = 14
  · subst e14
    cases b <;> rfl
  have e : preB h t b i = bif Nat.blt i 8 then h i else ivB (i - 8) := by
    unfold preB
    split <;> first | rfl | omega
  rw [e]
  unfold lB
  cases b with
  | false => rfl
  | true => exact upd_ne e14
theorem hornB_step (B : Nat → UInt8) (k : Nat) : upd (hornB B k) ((63 - k) / 4) (hornB B k ((63 - k) / 4) * 256 + byteW (B (63 - k))) = hornB B (k + 1) := rfl
theorem hornB_0 (B : Nat → UInt8) : wv w0s = wv (hornB B 0) := rfl
theorem runB_0 (l : List UInt8) : wn 8 (upd ivB 0 (ivB 0 ^^^ 16842784)) = wn 8 (runB l 0) := rfl
theorem run_step (l : List UInt8) (j : Nat) : postB (runB l j) (mixR (blW l j) (preB (runB l j) (bif Nat.beq (j + 1) (nBl l.length) then l.length else 64 * j + 64) (Nat.beq (j + 1) (nBl l.length))) 10) = runB l (j + 1) := rfl
theorem lB_true (h : Wd) : lB true h = upd (vB h) 14 (~~~ (vB h 14)) := rfl
theorem lB_false (h : Wd) : lB false h = vB h := rfl
theorem post_at (h v : Wd) (k : Nat) : postB h v k = ((h k ^^^ v k) ^^^ v (8 + k)) := rfl
theorem out_at (f : Wd) (k : Nat) : outB f k = lowB (shrW (f (k / 4)) (8 * (k % 4))) := rfl
/-! Rows of eight words; whole numbers. -/
theorem al_h8 (W : World) : (Instr.alloc 46 true (.tuple #[])).run Tryd.prog W = .ok (.pointer (some ⟨W.heap.size, 0, none⟩)) (W.alloc (.cells (wn 8 w0s) 46)) := by kernel_rfl
theorem al_keyB (W : World) : (Instr.alloc 25 true (.tuple #[])).run Tryd.prog W = .ok (.pointer (some ⟨W.heap.size, 0, none⟩)) (W.alloc (.cells (bvs (rb 32 b0s)) 25)) := by kernel_rfl
theorem info_h8 (f : Wd) : (Tryd.prog.info? 46).map (·.size) = some (wn 8 f).size := by rw [wn_size]; kernel_rfl
theorem size_wn (n : Nat) (f g : Wd) : (wn n f).size = (wn n g).size := by rw [wn_size, wn_size]
theorem ia_h8 {j : Nat} (hj : j < 8) {g : Nat} (W : World) : (Instr.indexAt 46 (.pointer (some ⟨g, 0, none⟩)) (.int .i64 (j : Int))).run Tryd.prog W = .ok (.pointer (some ⟨g, j, none⟩)) W := by
  have h1 : (0 : Int) ≤ (j : Int) := by omega
  have h2 : (j : Int) < 8 := by omega
  go_simp
theorem ia_keyB {j : Nat} (hj : j < 32) {g : Nat} (W : World) : (Instr.indexAt 25 (.pointer (some ⟨g, 0, none⟩)) (.int .i64 (j : Int))).run Tryd.prog W = .ok (.pointer (some ⟨g, j, none⟩)) W := by
  have h1 : (0 : Int) ≤ (j : Int) := by omega
  have h2 : (j : Int) < 32 := by omega
  go_simp
theorem ld_wn {g j n : Nat} {t : TypeId} {f : Wd} {x : UInt32} (hj : j < n) (hx : f j = x) (W : World) (h : Blk W g t (wn n f)) : (Instr.loadAt 45 (.pointer (some ⟨g, j, none⟩))).run Tryd.prog W = .ok (wc x) W := by
  have hc := h.cell j
  rw [wn_get hj, hx] at hc
  unfold wc at hc ⊢
  go_simp
theorem st_wn {g j n : Nat} {t : TypeId} {f : Wd} {x : UInt32} (hj : j < n) (W : World) (h : Blk W g t (wn n f)) : (Instr.storeAt 45 (.pointer (some ⟨g, j, none⟩)) (wc x)).run Tryd.prog W = .ok () (W.setCells g j [wc x]) := by
  have hc := h.cell j
  have hf := h.frozen j
  rw [wn_get hj] at hc
  have hs : (W.cell? ⟨g, j, none⟩).isSome = true := by rw [hc]; rfl
  show _ = Result.ok () (W.setCell ⟨g, j, none⟩ (wc x))
  unfold wc
  go_simp
theorem sv_wn {n : Nat} {f g : Wd} {j : Nat} {x : UInt32} (h : upd f j x = g) : setV (wn n f) j [wc x] = wn n g := by
  rw [← h]
  exact wn_set n f j x
theorem w_notB (x : UInt32) (W : World) : (Op.unary .xor (wc x)).run Tryd.prog W = .ok (wc (~~~ x)) W := by
  have e : bits .xor .u32 ((4294967295 : UInt32).toNat : Int) (x.toNat : Int) = ((~~~ x).toNat : Int) := by
    rw [w_xor_int]
    congr 2
  have e2 : bits .xor .u32 4294967295 (x.toNat : Int) = ((~~~ x).toNat : Int) := e
  unfold wc
  generalize ~~~ x = y at *
  go_simp
  exact e2
theorem cv_in {x : Nat} (hx : x < 9223372036854775808) (W : World) : (convert 3 52 (.int .i64 (x : Int))).run Tryd.prog W = .ok (un x) W := by
  have e : IntKind.u64.wrap (x : Int) = (x : Int) := IntWalk.u64_in _ (by omega)
  unfold un
  go_simp
theorem z_add {k m : Nat} (h : k + m < 1000000000) (p q : Operand) (W : World) : (do eqGuard .add 3 p q (.int .i64 (k : Int)) (.int .i64 (m : Int)); binOp .add 3 (.int .i64 (k : Int)) (.int .i64 (m : Int)) : Sem Value).run Tryd.prog W = .ok (.int .i64 ((k + m : Nat) : Int)) W := by
  have e : IntKind.i64.wrap ((k : Int) + (m : Int)) = ((k + m : Nat) : Int) := by rw [IntWalk.i64_in _ (by omega)]; omega
  go_simp
theorem z_sub {k m : Nat} (h : m ≤ k) (hk : k < 1000000000) (p q : Operand) (W : World) : (do eqGuard .sub 3 p q (.int .i64 (k : Int)) (.int .i64 (m : Int)); binOp .sub 3 (.int .i64 (k : Int)) (.int .i64 (m : Int)) : Sem Value).run Tryd.prog W = .ok (.int .i64 ((k - m : Nat) : Int)) W := by
  have e : IntKind.i64.wrap ((k : Int) - (m : Int)) = ((k - m : Nat) : Int) := by rw [IntWalk.i64_in _ (by omega)]; omega
  go_simp
theorem z_eql {k m : Nat} {b : Bool} (h : decide (k = m) = b) (p q : Operand) (W : World) : (do eqGuard .eql 3 p q (.int .i64 (k : Int)) (.int .i64 (m : Int)); binOp .eql 3 (.int .i64 (k : Int)) (.int .i64 (m : Int)) : Sem Value).run Tryd.prog W = .ok (.bool b) W := by
  have e : decide ((k : Int) = (m : Int)) = b := by
    rw [← h]
    exact decide_eq_decide.2 (by omega)
  go_simp
  exact e
theorem w_0 : Value.int .u32 0 = wc 0 := rfl
theorem dn_63 : Value.int .i64 63 = .int .i64 (dnI 63 0) := rfl
theorem w_xorC (x : UInt32) (p q : Operand) (W : World) : (do eqGuard .xor 45 p q (wc x) (.int .u32 16842784); binOp .xor 45 (wc x) (.int .u32 16842784) : Sem Value).run Tryd.prog W = .ok (wc (x ^^^ 16842784)) W := w_xor x 16842784 p q W
theorem bv_defB (x : UInt8) : bv x = .int .u8 (x.toNat : Int) := rfl
def TT (g : Nat) (o : Nat → Nat) (g2 : Nat) (o2 : Nat → Nat) : Hep := tabB g2 o2 8 4 plc ++ tabB g o 10 16 ord
section
variable {g g2 : Nat} {o o2 : Nat → Nat}
theorem TT_p : (g2, 50, tabR o2 8 4) ∈ TT g o g2 o2 := List.mem_append.2 (.inl List.mem_cons_self)
theorem TT_o : (g, 50, tabR o 10 16) ∈ TT g o g2 o2 := List.mem_append.2 (.inr List.mem_cons_self)
theorem TT_pr {k : Nat} (h : k < 8) : (o2 k, 3, iv 4 (plc k)) ∈ TT g o g2 o2 := List.mem_append.2 (.inl (tabB_row h))
theorem TT_or {k : Nat} (h : k < 10) : (o k, 3, iv 16 (ord k)) ∈ TT g o g2 o2 := List.mem_append.2 (.inr (tabB_row h))
end
attribute [local irreducible] wv wc bvs bv iv tabR wn rorW mixB leW hornB ivB postB preB blW vB lB TT nBl runB dnI outB
theorem nBl_le {n : Nat} (h : n ≤ 100000) : nBl n ≤ 2000 := by
  rcases Nat.eq_zero_or_pos n with h5 | h5
  · rw [nBl_0 h5]
    omega
  · rw [nBl_pos h5]
    omega
set_option maxHeartbeats 4000000 in
theorem rsum_any {v : Value} {l : List UInt8} (w : World) (hv : BF l v w) (hlim : l.length ≤ 100000) : Calls Tryd.prog 14 #[v] w (fun rr w' => rr = .returned (.agg (bvs (rb 32 (hashB l)))) ∧ Below w.heap.size w w') := by
  obtain ⟨A, n, cap, rfl, hbs⟩ := hv
  have hn := hbs.len
  rw [hn] at hlim
  refine calls_st (vs := [.slice A n cap]) 214 Tryd.func14 rfl Tryd.ntmps14 rfl (fun a W H => ?_)
  replace H : St 214 w a W [(0, .slice A n cap)] [] := H
  refine sqR H gs0 fun Z_ z_ => rA rfl rfl al_keyB fun g1 => rN0 z_ ?_
  try clear H a W
  intro a W H
  refine sqR H gs0 fun Z_ z_ => rA rfl rfl al_h8 fun g2 => rA rfl rfl al_h8 fun g3 => rN0 z_ ?_
  try clear H a W
  intro a W H
  refine wp_seq_k (fun K3 hK3 => ?_)
  refine sqR H gs0 fun Z_ z_ => rS 1 rfl <| rN0 z_ ?_
  try clear H a W
  intro a W H
  refine wp_block ?_
  rw [← mapU_0 ivB w0s] at H
  replace H : St 214 w a W [(5, .int .i64 ((0 : Nat) : Int)), (4, .pointer (some ⟨g3, 0, none⟩)), (3, .pointer (some ⟨g2, 0, none⟩)), (2, .pointer (some ⟨g1, 0, none⟩)), (0, .slice A n cap)] [(g3, 46, wn 8 (mapU ivB w0s 0)), (g2, 46, wn 8 (mapU ivB w0s 0)), (g1, 25, bvs (rb 32 b0s))] := H.pick [0, 1, 2, 3, 4] [0, 1, 2] rfl
  refine wp_rounds 8 (fun k a W => St 214 w a W [(5, .int .i64 ((k : Nat) : Int)), (4, .pointer (some ⟨g3, 0, none⟩)), (3, .pointer (some ⟨g2, 0, none⟩)), (2, .pointer (some ⟨g1, 0, none⟩)), (0, .slice A n cap)] [(g3, 46, wn 8 (mapU ivB w0s k)), (g2, 46, wn 8 (mapU ivB w0s k)), (g1, 25, bvs (rb 32 b0s))]) (k0 := 0) H (by omega) ?_
  try clear H a W
  intro k a W hk H
  by_cases hk2 : k < 8
  · refine wp_seq_k (fun K5 hK5 => ?_)
    refine sqR H gs0 fun Z_ z_ => rS 1 rfl <| rV rfl (does_binOp rfl rfl rfl (i_lss_yes (k := k) (m := 8) (by omega) _ _)) <| rN0 z_ ?_
    try clear H a W
    intro a W H
    refine wp_cond_true (H.ev rfl) ?_
    refine wp_skip ?_
    refine hK5 _ _ ?_
    clear hK5
    refine wp_seq_k (fun K7 hK7 => ?_)
    refine wp_block ?_
    refine sqR H gs0 fun Z_ z_ => rS 2 rfl <| rV rfl (does_call rfl ⟨_, Tryd.func18, by kernel_rfl⟩ rfl (fun W hb => rstart_any k (by omega) W)) <| rV rfl (does_indexAddr rfl rfl rfl (ia_h8 (j := k) (by omega))) <| rX [0, 1] (c := wn 8 (mapU ivB w0s (k + 1))) ⟨rfl, rfl⟩ rfl rfl rfl (st_wn (by omega)) (sv_wn (mapU_step rfl)) <| rN0 z_ ?_
    try clear H a W
    intro a W H
    refine rgP H gs0 (rS 2 rfl <| rV rfl (does_indexAddr rfl rfl rfl (ia_h8 (j := k) (by omega))) <| rV rfl (does_loadAt (v := wc (ivB k)) rfl rfl (k := 1) rfl (ld_wn (by omega) (mapU_lt (by omega)))) <| rV rfl (does_indexAddr rfl rfl rfl (ia_h8 (j := k) (by omega))) <| rX [1] (c := wn 8 (mapU ivB w0s (k + 1))) ⟨rfl, rfl⟩ rfl rfl rfl (st_wn (by omega)) (sv_wn (mapU_step rfl)) <| rZ0 ?_)
    try clear H a W
    intro a W H
    refine blk_normal ?_
    refine hK7 _ _ ?_
    clear hK7
    refine rgP H gs0 (rS 1 rfl <| rV rfl (does_binOp rfl rfl rfl (i_inc (by omega) _ _)) <| rK [1, 1, 1, 1, 1, 1, 1, 1, 1, 1, 1, 1, 1, 0] [] [] <| rS 1 rfl <| rZ0 ?_)
    try clear H a W
    intro a W H
    refine ⟨k + 1, by omega, by omega, ?_⟩
    show St 214 w a W [(5, .int .i64 ((k + 1 : Nat) : Int)), (4, .pointer (some ⟨g3, 0, none⟩)), (3, .pointer (some ⟨g2, 0, none⟩)), (2, .pointer (some ⟨g1, 0, none⟩)), (0, .slice A n cap)] [(g3, 46, wn 8 (mapU ivB w0s (k + 1))), (g2, 46, wn 8 (mapU ivB w0s (k + 1))), (g1, 25, bvs (rb 32 b0s))]
    exact H.pick [0, 14, 15, 16, 17] [0, 1, 2] rfl
  · obtain rfl : 8 = k := by omega
    refine wp_seq_k (fun K9 hK9 => ?_)
    refine sqR H gs0 fun Z_ z_ => rS 1 rfl <| rV rfl (does_binOp rfl rfl rfl (i_lss_no (k := 8) (m := 8) (by omega) _ _)) <| rK [1, 0] [] [] <| rN0 z_ ?_
    try clear H a W
    intro a W H
    refine wp_cond_false (H.ev rfl) ?_
    refine wp_exit ?_
    repeat (with_reducible refine then_exit ?_)
    refine blk_exit ?_
    rw [mapU_all] at H
    refine hK3 _ _ ?_
    clear hK3
    refine sqR H gs0 fun Z_ z_ => rV rfl (does_indexAddr rfl rfl rfl (ia_h8 (j := 0) (by omega))) <| rV rfl (does_loadAt (v := wc (ivB 0)) rfl rfl (k := 0) rfl (ld_wn (by omega) (rfl))) <| rV rfl (does_binOp rfl rfl rfl (w_xorC _ _ _)) <| rV rfl (does_indexAddr rfl rfl rfl (ia_h8 (j := 0) (by omega))) <| rX [1] (c := wn 8 (upd ivB 0 ((ivB 0) ^^^ 16842784))) ⟨rfl, rfl⟩ rfl rfl rfl (st_wn (by omega)) (sv_wn rfl) <| rK [0, 0, 0, 0, 0, 0] [] [] <| rN0 z_ ?_
    try clear H a W
    intro a W H
    refine wp_seq_k (fun K12 hK12 => ?_)
    refine rgP H gs0 (rT (V := fun g => .slice (some ⟨g, 0, none⟩) 10 10) (T := fun g u => tabB g u 10 16 ord) rfl rfl ⟨_, Tryd.func19, by kernel_rfl⟩ rfl (fun w => rorders_any w) fun gO oO => rI0 ?_)
    try clear H a W
    intro a W H
    replace H : St 214 w a W [(39, .slice (some ⟨gO, 0, none⟩) 10 10), (4, .pointer (some ⟨g3, 0, none⟩)), (3, .pointer (some ⟨g2, 0, none⟩)), (2, .pointer (some ⟨g1, 0, none⟩)), (0, .slice A n cap)] ((g3, 46, wn 8 (upd ivB 0 ((ivB 0) ^^^ 16842784))) :: (g2, 46, wn 8 ivB) :: (g1, 25, bvs (rb 32 b0s)) :: tabB gO oO 10 16 ord) := H
    refine rgO H gs0 (rS 1 rfl <| rK [1, 0] [] [] <| rZ0 ?_)
    try clear H a W
    intro a W H
    refine hK12 _ _ ?_
    clear hK12
    refine sqR H gs0 fun Z_ z_ => rM (F := fun g => .slice (some ⟨g, 0, none⟩) 4 4) (t := 3) (z := iv 4 (plc 0)) rfl (made_evp (F := fun g => .slice (some ⟨g, 0, none⟩) 4 4) (vs := rowP 4 (plc 0)) rfl (by kernel_rfl) (run_plc 0 (by decide))) fun g4 => rM (F := fun g => .slice (some ⟨g, 0, none⟩) 4 4) (t := 3) (z := iv 4 (plc 1)) rfl (made_evp (F := fun g => .slice (some ⟨g, 0, none⟩) 4 4) (vs := rowP 4 (plc 1)) rfl (by kernel_rfl) (run_plc 1 (by decide))) fun g5 => rM (F := fun g => .slice (some ⟨g, 0, none⟩) 4 4) (t := 3) (z := iv 4 (plc 2)) rfl (made_evp (F := fun g => .slice (some ⟨g, 0, none⟩) 4 4) (vs := rowP 4 (plc 2)) rfl (by kernel_rfl) (run_plc 2 (by decide))) fun g6 => rM (F := fun g => .slice (some ⟨g, 0, none⟩) 4 4) (t := 3) (z := iv 4 (plc 3)) rfl (made_evp (F := fun g => .slice (some ⟨g, 0, none⟩) 4 4) (vs := rowP 4 (plc 3)) rfl (by kernel_rfl) (run_plc 3 (by decide))) fun g7 => rM (F := fun g => .slice (some ⟨g, 0, none⟩) 4 4) (t := 3) (z := iv 4 (plc 4)) rfl (made_evp (F := fun g => .slice (some ⟨g, 0, none⟩) 4 4) (vs := rowP 4 (plc 4)) rfl (by kernel_rfl) (run_plc 4 (by decide))) fun g8 => rM (F := fun g => .slice (some ⟨g, 0, none⟩) 4 4) (t := 3) (z := iv 4 (plc 5)) rfl (made_evp (F := fun g => .slice (some ⟨g, 0, none⟩) 4 4) (vs := rowP 4 (plc 5)) rfl (by kernel_rfl) (run_plc 5 (by decide))) fun g9 => rM (F := fun g => .slice (some ⟨g, 0, none⟩) 4 4) (t := 3) (z := iv 4 (plc 6)) rfl (made_evp (F := fun g => .slice (some ⟨g, 0, none⟩) 4 4) (vs := rowP 4 (plc 6)) rfl (by kernel_rfl) (run_plc 6 (by decide))) fun g10 => rM (F := fun g => .slice (some ⟨g, 0, none⟩) 4 4) (t := 3) (z := iv 4 (plc 7)) rfl (made_evp (F := fun g => .slice (some ⟨g, 0, none⟩) 4 4) (vs := rowP 4 (plc 7)) rfl (by kernel_rfl) (run_plc 7 (by decide))) fun g11 => rM (F := fun g => .slice (some ⟨g, 0, none⟩) 8 8) (t := 50) (z := tabR (fun i => [g4, g5, g6, g7, g8, g9, g10, g11].getD i 0) 8 4) rfl (made_evp (F := fun g => .slice (some ⟨g, 0, none⟩) 8 8) (vs := tabP (fun i => [g4, g5, g6, g7, g8, g9, g10, g11].getD i 0) 8 4) rfl (by kernel_rfl) (run_tab8 _)) fun g12 => rS 1 rfl <| rK [1, 0, 0, 0, 0, 0, 0, 0, 0, 0] [] [] <| rN0 z_ ?_
    try clear H a W
    intro a W H
    obtain ⟨gP, oP, H⟩ : ∃ gP oP, St 214 w a W [(7, .slice (some ⟨gP, 0, none⟩) 8 8), (6, .slice (some ⟨gO, 0, none⟩) 10 10), (4, .pointer (some ⟨g3, 0, none⟩)), (3, .pointer (some ⟨g2, 0, none⟩)), (2, .pointer (some ⟨g1, 0, none⟩)), (0, .slice A n cap)] ([(g3, 46, wn 8 (upd ivB 0 ((ivB 0) ^^^ 16842784))), (g2, 46, wn 8 ivB), (g1, 25, bvs (rb 32 b0s))] ++ (tabB gP oP 8 4 plc ++ tabB gO oO 10 16 ord)) := ⟨g12, (fun i => [g4, g5, g6, g7, g8, g9, g10, g11].getD i 0), St.swap (x := tabB g12 (fun i => [g4, g5, g6, g7, g8, g9, g10, g11].getD i 0) 8 4 plc) (y := [(g3, 46, wn 8 (upd ivB 0 ((ivB 0) ^^^ 16842784))), (g2, 46, wn 8 ivB), (g1, 25, bvs (rb 32 b0s))]) H⟩
    replace H : St 214 w a W [(7, .slice (some ⟨gP, 0, none⟩) 8 8), (6, .slice (some ⟨gO, 0, none⟩) 10 10), (4, .pointer (some ⟨g3, 0, none⟩)), (3, .pointer (some ⟨g2, 0, none⟩)), (2, .pointer (some ⟨g1, 0, none⟩)), (0, .slice A n cap)] ((g3, 46, wn 8 (upd ivB 0 ((ivB 0) ^^^ 16842784))) :: (g2, 46, wn 8 ivB) :: (g1, 25, bvs (rb 32 b0s)) :: TT gO oO gP oP) := by unfold TT; exact H
    obtain ⟨N, hN⟩ : ∃ N, nBl n = N := ⟨_, rfl⟩
    have hN2 : N ≤ 2000 := by rw [← hN]; exact nBl_le hlim
    refine sqR H gs0 fun Z_ z_ => rS 1 rfl <| rV rfl (does_len Tryd.underlying22 rfl rfl) <| rV rfl (does_binOp rfl rfl rfl (z_add (k := n) (m := 63) (by omega) _ _)) <| rV rfl (does_binOp rfl rfl rfl (i_quo (k := (n + 63)) (m := 64) (by omega) (by omega) (by omega) _ _)) <| rS 1 rfl <| rK [1, 0, 0, 0, 0] [] [] <| rN0 z_ ?_
    try clear H a W
    intro a W H
    refine wp_seq_k (fun K15 hK15 => ?_)
    have J15 : ∀ a W, St 214 w a W [(8, .int .i64 ((N : Nat) : Int)), (7, .slice (some ⟨gP, 0, none⟩) 8 8), (6, .slice (some ⟨gO, 0, none⟩) 10 10), (4, .pointer (some ⟨g3, 0, none⟩)), (3, .pointer (some ⟨g2, 0, none⟩)), (2, .pointer (some ⟨g1, 0, none⟩)), (0, .slice A n cap)] ((g3, 46, wn 8 (upd ivB 0 ((ivB 0) ^^^ 16842784))) :: (g2, 46, wn 8 ivB) :: (g1, 25, bvs (rb 32 b0s)) :: TT gO oO gP oP) → K15 a W := by
      try clear H a W
      intro a W H
      refine hK15 _ _ ?_
      clear hK15
      refine wp_seq_k (fun K16 hK16 => ?_)
      refine sqR H gs0 fun Z_ z_ => rS 1 rfl <| rN0 z_ ?_
      try clear H a W
      intro a W H
      replace H : St 214 w a W [(9, .int .i64 0), (8, .int .i64 ((N : Nat) : Int)), (7, .slice (some ⟨gP, 0, none⟩) 8 8), (6, .slice (some ⟨gO, 0, none⟩) 10 10), (4, .pointer (some ⟨g3, 0, none⟩)), (3, .pointer (some ⟨g2, 0, none⟩)), (2, .pointer (some ⟨g1, 0, none⟩)), (0, .slice A n cap)] ((g3, 46, wn 8 (runB l 0)) :: (g2, 46, wn 8 ivB) :: (g1, 25, bvs (rb 32 b0s)) :: TT gO oO gP oP) := by rw [← runB_0]; exact H
      refine wp_block ?_
      replace H : St 214 w a W [(9, .int .i64 ((0 : Nat) : Int)), (8, .int .i64 ((N : Nat) : Int)), (7, .slice (some ⟨gP, 0, none⟩) 8 8), (6, .slice (some ⟨gO, 0, none⟩) 10 10), (4, .pointer (some ⟨g3, 0, none⟩)), (3, .pointer (some ⟨g2, 0, none⟩)), (2, .pointer (some ⟨g1, 0, none⟩)), (0, .slice A n cap)] ((g3, 46, wn 8 (runB l 0)) :: (g2, 46, wn 8 ivB) :: (g1, 25, bvs (rb 32 b0s)) :: TT gO oO gP oP) := H.pickF (h := [(g3, 46, wn 8 (runB l 0)), (g2, 46, wn 8 ivB), (g1, 25, bvs (rb 32 b0s))]) (t := TT gO oO gP oP) [0, 1, 2, 3, 4, 5, 6, 7] [0, 1, 2] rfl
      refine wp_rounds N (fun j a W => St 214 w a W [(9, .int .i64 ((j : Nat) : Int)), (8, .int .i64 ((N : Nat) : Int)), (7, .slice (some ⟨gP, 0, none⟩) 8 8), (6, .slice (some ⟨gO, 0, none⟩) 10 10), (4, .pointer (some ⟨g3, 0, none⟩)), (3, .pointer (some ⟨g2, 0, none⟩)), (2, .pointer (some ⟨g1, 0, none⟩)), (0, .slice A n cap)] ((g3, 46, wn 8 (runB l j)) :: (g2, 46, wn 8 ivB) :: (g1, 25, bvs (rb 32 b0s)) :: TT gO oO gP oP)) (k0 := 0) H (by omega) ?_
      try clear H a W
      intro j a W hj H
      by_cases hj2 : j < N
      · obtain ⟨hh, hhh⟩ : ∃ x, runB l j = x := ⟨_, rfl⟩
        rw [hhh] at H
        obtain ⟨L, hL⟩ : ∃ b, Nat.beq (j + 1) N = b := ⟨_, rfl⟩
        refine wp_seq_k (fun K18 hK18 => ?_)
        refine sqR H gs0 fun Z_ z_ => rS 2 rfl <| rV rfl (does_binOp rfl rfl rfl (i_lss_yes (k := j) (m := N) (by omega) _ _)) <| rN0 z_ ?_
        try clear H a W
        intro a W H
        refine wp_cond_true (H.ev rfl) ?_
        refine wp_skip ?_
        refine hK18 _ _ ?_
        clear hK18
        refine wp_seq_k (fun K20 hK20 => ?_)
        refine wp_block ?_
        refine sqR H gs0 fun Z_ z_ => rA rfl rfl al_w16 fun g13 => rA rfl rfl al_w16 fun g14 => rN0 z_ ?_
        try clear H a W
        intro a W H
        refine wp_seq_k (fun K22 hK22 => ?_)
        refine sqR H gs0 fun Z_ z_ => rS 1 rfl <| rN0 z_ ?_
        try clear H a W
        intro a W H
        rw [dn_63] at H
        replace H : St 214 w a W [(12, .int .i64 (dnI 63 0)), (11, .pointer (some ⟨g14, 0, none⟩)), (10, .pointer (some ⟨g13, 0, none⟩)), (57, .bool true), (56, .int .i64 ((N : Nat) : Int)), (55, .int .i64 ((j : Nat) : Int)), (9, .int .i64 ((j : Nat) : Int)), (8, .int .i64 ((N : Nat) : Int)), (7, .slice (some ⟨gP, 0, none⟩) 8 8), (6, .slice (some ⟨gO, 0, none⟩) 10 10), (4, .pointer (some ⟨g3, 0, none⟩)), (3, .pointer (some ⟨g2, 0, none⟩)), (2, .pointer (some ⟨g1, 0, none⟩)), (0, .slice A n cap)] ((g14, 51, wv w0s) :: (g13, 51, wv (hornB (blB l j) 0)) :: (g3, 46, wn 8 hh) :: (g2, 46, wn 8 ivB) :: (g1, 25, bvs (rb 32 b0s)) :: TT gO oO gP oP) := by rw [← hornB_0 (blB l j)]; exact H
        refine wp_block ?_
        replace H : St 214 w a W [(12, .int .i64 (dnI 63 0)), (11, .pointer (some ⟨g14, 0, none⟩)), (10, .pointer (some ⟨g13, 0, none⟩)), (9, .int .i64 ((j : Nat) : Int)), (8, .int .i64 ((N : Nat) : Int)), (7, .slice (some ⟨gP, 0, none⟩) 8 8), (6, .slice (some ⟨gO, 0, none⟩) 10 10), (4, .pointer (some ⟨g3, 0, none⟩)), (3, .pointer (some ⟨g2, 0, none⟩)), (2, .pointer (some ⟨g1, 0, none⟩)), (0, .slice A n cap)] ((g14, 51, wv w0s) :: (g13, 51, wv (hornB (blB l j) 0)) :: (g3, 46, wn 8 hh) :: (g2, 46, wn 8 ivB) :: (g1, 25, bvs (rb 32 b0s)) :: TT gO oO gP oP) := H.pickF (h := [(g14, 51, wv w0s), (g13, 51, wv (hornB (blB l j) 0)), (g3, 46, wn 8 hh), (g2, 46, wn 8 ivB), (g1, 25, bvs (rb 32 b0s))]) (t := TT gO oO gP oP) [0, 1, 2, 6, 7, 8, 9, 10, 11, 12, 13] [0, 1, 2, 3, 4] rfl
        refine wp_rounds 64 (fun k a W => St 214 w a W [(12, .int .i64 (dnI 63 k)), (11, .pointer (some ⟨g14, 0, none⟩)), (10, .pointer (some ⟨g13, 0, none⟩)), (9, .int .i64 ((j : Nat) : Int)), (8, .int .i64 ((N : Nat) : Int)), (7, .slice (some ⟨gP, 0, none⟩) 8 8), (6, .slice (some ⟨gO, 0, none⟩) 10 10), (4, .pointer (some ⟨g3, 0, none⟩)), (3, .pointer (some ⟨g2, 0, none⟩)), (2, .pointer (some ⟨g1, 0, none⟩)), (0, .slice A n cap)] ((g14, 51, wv w0s) :: (g13, 51, wv (hornB (blB l j) k)) :: (g3, 46, wn 8 hh) :: (g2, 46, wn 8 ivB) :: (g1, 25, bvs (rb 32 b0s)) :: TT gO oO gP oP)) (k0 := 0) H (by omega) ?_
        try clear H a W
        intro k a W hk H
        by_cases hk2 : k < 64
        · rw [dn_nat (show k ≤ 63 by omega)] at H
          have hstep : upd (hornB (blB l j) k) ((63 - k) / 4) (hornB (blB l j) k ((63 - k) / 4) * 256 + byteW (blB l j (63 - k))) = hornB (blB l j) (k + 1) := hornB_step _ _
          refine wp_seq_k (fun K24 hK24 => ?_)
          refine sqR H gs0 fun Z_ z_ => rS 1 rfl <| rV rfl (does_binOp rfl rfl rfl (z_geq (k := ((63 - k : Nat) : Int)) (m := 0) (decide_eq_true (by omega)) _ _)) <| rN0 z_ ?_
          try clear H a W
          intro a W H
          refine wp_cond_true (H.ev rfl) ?_
          refine wp_skip ?_
          refine hK24 _ _ ?_
          clear hK24
          refine wp_seq_k (fun K26 hK26 => ?_)
          refine wp_block ?_
          refine sqR H gs0 fun Z_ z_ => rS 1 rfl <| rN0 z_ ?_
          try clear H a W
          intro a W H
          rw [w_0] at H
          refine wp_seq_k (fun K28 hK28 => ?_)
          have J28 : ∀ a W, St 214 w a W [(13, wc (byteW (blB l j (63 - k)))), (61, .bool true), (60, .int .i64 ((63 - k : Nat) : Int)), (12, .int .i64 ((63 - k : Nat) : Int)), (11, .pointer (some ⟨g14, 0, none⟩)), (10, .pointer (some ⟨g13, 0, none⟩)), (9, .int .i64 ((j : Nat) : Int)), (8, .int .i64 ((N : Nat) : Int)), (7, .slice (some ⟨gP, 0, none⟩) 8 8), (6, .slice (some ⟨gO, 0, none⟩) 10 10), (4, .pointer (some ⟨g3, 0, none⟩)), (3, .pointer (some ⟨g2, 0, none⟩)), (2, .pointer (some ⟨g1, 0, none⟩)), (0, .slice A n cap)] ((g14, 51, wv w0s) :: (g13, 51, wv (hornB (blB l j) k)) :: (g3, 46, wn 8 hh) :: (g2, 46, wn 8 ivB) :: (g1, 25, bvs (rb 32 b0s)) :: TT gO oO gP oP) → K28 a W := by
            try clear H a W
            intro a W H
            refine hK28 _ _ ?_
            clear hK28
            refine rgP H gs0 (rS 1 rfl <| rV rfl (does_binOp rfl rfl rfl (i_quo (k := (63 - k)) (m := 4) (by omega) (by omega) (by omega) _ _)) <| rS 1 rfl <| rV rfl (does_binOp rfl rfl rfl (i_quo (k := (63 - k)) (m := 4) (by omega) (by omega) (by omega) _ _)) <| rV rfl (does_indexAddr rfl rfl rfl (ia_w16 (j := ((63 - k) / 4)) (by omega))) <| rV rfl (does_loadAt (v := wc ((hornB (blB l j) k) ((63 - k) / 4))) rfl rfl (k := 1) rfl (ld_word (by omega))) <| rV rfl (does_binOp rfl rfl rfl (w_mul256 _ _ _)) <| rS 1 rfl <| rV rfl (does_binOp rfl rfl rfl (w_add _ _ _ _)) <| rV rfl (does_indexAddr rfl rfl rfl (ia_w16 (j := ((63 - k) / 4)) (by omega))) <| rX [0, 1] (c := wv (hornB (blB l j) (k + 1))) ⟨rfl, rfl⟩ rfl rfl rfl (st_word (by omega)) (sv_word hstep) <| rZ0 ?_)
            try clear H a W
            intro a W H
            refine blk_normal ?_
            refine hK26 _ _ ?_
            clear hK26
            refine rgP H gs0 (rS 1 rfl <| rV rfl (does_binOp rfl rfl rfl (z_dec (m := 63) (n := k) (by omega) (by omega) _ _)) <| rK [1, 1, 1, 1, 1, 1, 1, 1, 1, 1, 1, 1, 1, 1, 1, 0] [] [] <| rS 1 rfl <| rZ0 ?_)
            try clear H a W
            intro a W H
            refine ⟨k + 1, by omega, by omega, ?_⟩
            show St 214 w a W [(12, .int .i64 (dnI 63 (k + 1))), (11, .pointer (some ⟨g14, 0, none⟩)), (10, .pointer (some ⟨g13, 0, none⟩)), (9, .int .i64 ((j : Nat) : Int)), (8, .int .i64 ((N : Nat) : Int)), (7, .slice (some ⟨gP, 0, none⟩) 8 8), (6, .slice (some ⟨gO, 0, none⟩) 10 10), (4, .pointer (some ⟨g3, 0, none⟩)), (3, .pointer (some ⟨g2, 0, none⟩)), (2, .pointer (some ⟨g1, 0, none⟩)), (0, .slice A n cap)] ((g14, 51, wv w0s) :: (g13, 51, wv (hornB (blB l j) (k + 1))) :: (g3, 46, wn 8 hh) :: (g2, 46, wn 8 ivB) :: (g1, 25, bvs (rb 32 b0s)) :: TT gO oO gP oP)
            exact H.pickF (h := [(g14, 51, wv w0s), (g13, 51, wv (hornB (blB l j) (k + 1))), (g3, 46, wn 8 hh), (g2, 46, wn 8 ivB), (g1, 25, bvs (rb 32 b0s))]) (t := TT gO oO gP oP) [0, 16, 17, 18, 19, 20, 21, 22, 23, 24, 25] [0, 1, 2, 3, 4] rfl
          clear hK28
          rcases Nat.lt_or_ge (64 * j + (63 - k)) n with h5 | h5
          · obtain ⟨gb, ob, x, rfl, hgb, hx, hcell⟩ := hbs.at' (k := 64 * j + (63 - k)) h5
            obtain rfl : x = blB l j (63 - k) := by unfold blB; simp [List.getD, hx]
            rw [← bv_defB] at hcell
            refine sqR H gs0 fun Z_ z_ => rS 1 rfl <| rV rfl (does_binOp rfl rfl rfl (i_mul (k := 64) (m := j) (by omega) _ _)) <| rS 1 rfl <| rV rfl (does_binOp rfl rfl rfl (z_add (k := (64 * j)) (m := (63 - k)) (by omega) _ _)) <| rS 1 rfl <| rV rfl (does_len Tryd.underlying22 rfl rfl) <| rV rfl (does_binOp rfl rfl rfl (z_lss (k := ((64 * j + (63 - k) : Nat) : Int)) (m := ((n : Nat) : Int)) (decide_eq_true (by omega)) _ _)) <| rN0 z_ ?_
            try clear H a W
            intro a W H
            refine wp_cond_true (H.ev rfl) ?_
            refine rgP H gs0 (rS 2 rfl <| rV rfl (does_binOp rfl rfl rfl (i_mul (k := 64) (m := j) (by omega) _ _)) <| rS 1 rfl <| rV rfl (does_binOp rfl rfl rfl (z_add (k := (64 * j)) (m := (63 - k)) (by omega) _ _)) <| rV rfl (does_indexAddr rfl rfl rfl (ia_bytes (j := (64 * j + (63 - k))) (by omega))) <| rV rfl (does_loadCell (v := bv (blB l j (63 - k))) rfl rfl hcell hgb ld_cellB) <| rV rfl (does_convert rfl rfl (cv_bw _)) <| rK [1, 1, 1, 1, 1, 1, 1, 1, 1, 1, 1, 1, 1, 1, 1, 0] [] [] <| rS 1 rfl <| rZ0 ?_)
            try clear H a W
            intro a W H
            exact J28 _ _ (H.pickF (h := [(g14, 51, wv w0s), (g13, 51, wv (hornB (blB l j) k)), (g3, 46, wn 8 hh), (g2, 46, wn 8 ivB), (g1, 25, bvs (rb 32 b0s))]) (t := TT gO oO gP oP) [0, 16, 17, 18, 19, 20, 21, 22, 23, 24, 25, 26, 27, 28] [0, 1, 2, 3, 4] rfl)
          · have hz : byteW (blB l j (63 - k)) = 0 := by unfold blB; rw [List.getD_eq_getElem?_getD, List.getElem?_eq_none (by omega)]; rfl
            refine sqR H gs0 fun Z_ z_ => rS 1 rfl <| rV rfl (does_binOp rfl rfl rfl (i_mul (k := 64) (m := j) (by omega) _ _)) <| rS 1 rfl <| rV rfl (does_binOp rfl rfl rfl (z_add (k := (64 * j)) (m := (63 - k)) (by omega) _ _)) <| rS 1 rfl <| rV rfl (does_len Tryd.underlying22 rfl rfl) <| rV rfl (does_binOp rfl rfl rfl (z_lss (k := ((64 * j + (63 - k) : Nat) : Int)) (m := ((n : Nat) : Int)) (decide_eq_false (by omega)) _ _)) <| rN0 z_ ?_
            try clear H a W
            intro a W H
            refine wp_cond_false (H.ev rfl) ?_
            refine wp_skip ?_
            exact J28 _ _ (by rw [hz]; exact H.pickF (h := [(g14, 51, wv w0s), (g13, 51, wv (hornB (blB l j) k)), (g3, 46, wn 8 hh), (g2, 46, wn 8 ivB), (g1, 25, bvs (rb 32 b0s))]) (t := TT gO oO gP oP) [7, 8, 9, 10, 11, 12, 13, 14, 15, 16, 17, 18, 19, 20] [0, 1, 2, 3, 4] rfl)
        · obtain rfl : 64 = k := by omega
          refine wp_seq_k (fun K31 hK31 => ?_)
          refine sqR H gs0 fun Z_ z_ => rS 1 rfl <| rV rfl (does_binOp rfl rfl rfl (z_geq (k := dnI 63 64) (m := 0) (decide_eq_false (by unfold dnI; omega)) _ _)) <| rN0 z_ ?_
          try clear H a W
          intro a W H
          refine wp_cond_false (H.ev rfl) ?_
          refine wp_exit ?_
          repeat (with_reducible refine then_exit ?_)
          refine blk_exit ?_
          rw [hornB_all] at H
          refine hK22 _ _ ?_
          clear hK22
          refine sqR H gs0 fun Z_ z_ => rS 1 rfl <| rV rfl (does_binOp rfl rfl rfl (i_mul (k := 64) (m := j) (by omega) _ _)) <| rV rfl (does_binOp rfl rfl rfl (z_add (k := (64 * j)) (m := 64) (by omega) _ _)) <| rV rfl (does_convert rfl rfl (cv_in (by omega))) <| rS 1 rfl <| rN0 z_ ?_
          try clear H a W
          intro a W H
          refine wp_seq_k (fun K34 hK34 => ?_)
          refine sqR H gs0 fun Z_ z_ => rS 1 rfl <| rN0 z_ ?_
          try clear H a W
          intro a W H
          rw [pK_0 hh] at H
          refine wp_block ?_
          replace H : St 214 w a W [(15, .int .i64 ((0 : Nat) : Int)), (14, un (64 * j + 64)), (11, .pointer (some ⟨g14, 0, none⟩)), (10, .pointer (some ⟨g13, 0, none⟩)), (9, .int .i64 ((j : Nat) : Int)), (8, .int .i64 ((N : Nat) : Int)), (7, .slice (some ⟨gP, 0, none⟩) 8 8), (6, .slice (some ⟨gO, 0, none⟩) 10 10), (4, .pointer (some ⟨g3, 0, none⟩)), (3, .pointer (some ⟨g2, 0, none⟩)), (2, .pointer (some ⟨g1, 0, none⟩)), (0, .slice A n cap)] ((g14, 51, wv (pK hh 0)) :: (g13, 51, wv (blW l j)) :: (g3, 46, wn 8 hh) :: (g2, 46, wn 8 ivB) :: (g1, 25, bvs (rb 32 b0s)) :: TT gO oO gP oP) := H.pickF (h := [(g14, 51, wv (pK hh 0)), (g13, 51, wv (blW l j)), (g3, 46, wn 8 hh), (g2, 46, wn 8 ivB), (g1, 25, bvs (rb 32 b0s))]) (t := TT gO oO gP oP) [0, 1, 9, 10, 11, 12, 13, 14, 15, 16, 17, 18] [0, 1, 2, 3, 4] rfl
          refine wp_rounds 8 (fun k a W => St 214 w a W [(15, .int .i64 ((k : Nat) : Int)), (14, un (64 * j + 64)), (11, .pointer (some ⟨g14, 0, none⟩)), (10, .pointer (some ⟨g13, 0, none⟩)), (9, .int .i64 ((j : Nat) : Int)), (8, .int .i64 ((N : Nat) : Int)), (7, .slice (some ⟨gP, 0, none⟩) 8 8), (6, .slice (some ⟨gO, 0, none⟩) 10 10), (4, .pointer (some ⟨g3, 0, none⟩)), (3, .pointer (some ⟨g2, 0, none⟩)), (2, .pointer (some ⟨g1, 0, none⟩)), (0, .slice A n cap)] ((g14, 51, wv (pK hh k)) :: (g13, 51, wv (blW l j)) :: (g3, 46, wn 8 hh) :: (g2, 46, wn 8 ivB) :: (g1, 25, bvs (rb 32 b0s)) :: TT gO oO gP oP)) (k0 := 0) H (by omega) ?_
          try clear H a W
          intro k a W hk H
          by_cases hk2 : k < 8
          · refine wp_seq_k (fun K36 hK36 => ?_)
            refine sqR H gs0 fun Z_ z_ => rS 1 rfl <| rV rfl (does_binOp rfl rfl rfl (i_lss_yes (k := k) (m := 8) (by omega) _ _)) <| rN0 z_ ?_
            try clear H a W
            intro a W H
            refine wp_cond_true (H.ev rfl) ?_
            refine wp_skip ?_
            refine hK36 _ _ ?_
            clear hK36
            refine wp_seq_k (fun K38 hK38 => ?_)
            refine wp_block ?_
            refine drawnTF (h := [(g14, 51, wv (pK hh k)), (g13, 51, wv (blW l j)), (g3, 46, wn 8 hh), (g2, 46, wn 8 ivB), (g1, 25, bvs (rb 32 b0s))]) (t := TT gO oO gP oP) [.val 97 (.int .i64 ((k : Nat) : Int)) [] [], .val 98 (.int .i64 ((k : Nat) : Int)) [] [], .val 99 (.int .i64 ((8 + k : Nat) : Int)) [1] [], .val 100 (.int .i64 ((k : Nat) : Int)) [] [], .val 101 (.pointer (some ⟨g3, k, none⟩)) [3] [], .val 102 (wc (hh k)) [4] [2], .val 103 (.int .i64 ((k : Nat) : Int)) [] [], .val 104 (.pointer (some ⟨g2, k, none⟩)) [6] [], .val 105 (wc (ivB k)) [7] [3], .val 106 (.pointer (some ⟨g14, k, none⟩)) [0] [], .sto 0 g14 51 (wv (pK hh k)) (wv (upd (pK hh k) k (hh k))) [9, 5]] [0, 0, 2, 0, 8, 16, 0, 64, 128, 57, 569, 2047, 4095] (by kernel_rfl) (by kernel_rfl) (by kernel_rfl) H (by kernel_rfl) ⟨⟨does_move rfl rfl, wanted_none rfl⟩, ⟨does_move rfl rfl, wanted_none rfl⟩, ⟨does_binOp rfl rfl rfl (z_add (k := 8) (m := k) (by omega) _ _), wanted_none rfl⟩, ⟨does_move rfl rfl, wanted_none rfl⟩, ⟨does_indexAddr rfl rfl rfl (ia_h8 (j := k) (by omega)), wanted_none rfl⟩, ⟨does_loadAt (v := wc (hh k)) rfl rfl (k := 0) rfl (ld_wn (by omega) (rfl)), wanted_none rfl⟩, ⟨does_move rfl rfl, wanted_none rfl⟩, ⟨does_indexAddr rfl rfl rfl (ia_h8 (j := k) (by omega)), wanted_none rfl⟩, ⟨does_loadAt (v := wc (ivB k)) rfl rfl (k := 0) rfl (ld_wn (by omega) (rfl)), wanted_none rfl⟩, ⟨does_indexAddr rfl rfl rfl (ia_w16 (j := k) (by omega)), wanted_none rfl⟩, ⟨rfl, rfl, sto_at rfl rfl rfl (st_word (by omega)) (sv_word rfl)⟩, trivial⟩ ?_
            try clear H a W
            intro G15 a W H
            replace H : St 214 w a W [(97, .int .i64 ((k : Nat) : Int)), (98, .int .i64 ((k : Nat) : Int)), (99, .int .i64 ((8 + k : Nat) : Int)), (100, .int .i64 ((k : Nat) : Int)), (101, .pointer (some ⟨g3, k, none⟩)), (102, wc (hh k)), (103, .int .i64 ((k : Nat) : Int)), (104, .pointer (some ⟨g2, k, none⟩)), (105, wc (ivB k)), (106, .pointer (some ⟨g14, k, none⟩)), (94, .bool true), (93, .int .i64 ((k : Nat) : Int)), (15, .int .i64 ((k : Nat) : Int)), (14, un (64 * j + 64)), (11, .pointer (some ⟨g14, 0, none⟩)), (10, .pointer (some ⟨g13, 0, none⟩)), (9, .int .i64 ((j : Nat) : Int)), (8, .int .i64 ((N : Nat) : Int)), (7, .slice (some ⟨gP, 0, none⟩) 8 8), (6, .slice (some ⟨gO, 0, none⟩) 10 10), (4, .pointer (some ⟨g3, 0, none⟩)), (3, .pointer (some ⟨g2, 0, none⟩)), (2, .pointer (some ⟨g1, 0, none⟩)), (0, .slice A n cap)] ((g14, 51, wv (upd (pK hh k) k (hh k))) :: (g13, 51, wv (blW l j)) :: (g3, 46, wn 8 hh) :: (g2, 46, wn 8 ivB) :: (g1, 25, bvs (rb 32 b0s)) :: TT gO oO gP oP) := H
            refine rgO H gs0 (rV rfl (does_indexAddr rfl rfl rfl (ia_w16 (j := (8 + k)) (by omega))) <| rX [1] (c := wv (upd (upd (pK hh k) k (hh k)) (8 + k) (ivB k))) ⟨rfl, rfl⟩ rfl rfl rfl (st_word (by omega)) (sv_word rfl) <| rZ0 ?_)
            try clear H a W
            intro a W H
            refine blk_normal ?_
            refine hK38 _ _ ?_
            clear hK38
            refine rgP H gs0 (rS 1 rfl <| rV rfl (does_binOp rfl rfl rfl (i_inc (by omega) _ _)) <| rK [1, 1, 1, 1, 1, 1, 1, 1, 1, 1, 1, 1, 1, 1, 1, 0] [] [] <| rS 1 rfl <| rZ0 ?_)
            try clear H a W
            intro a W H
            refine ⟨k + 1, by omega, by omega, ?_⟩
            show St 214 w a W [(15, .int .i64 ((k + 1 : Nat) : Int)), (14, un (64 * j + 64)), (11, .pointer (some ⟨g14, 0, none⟩)), (10, .pointer (some ⟨g13, 0, none⟩)), (9, .int .i64 ((j : Nat) : Int)), (8, .int .i64 ((N : Nat) : Int)), (7, .slice (some ⟨gP, 0, none⟩) 8 8), (6, .slice (some ⟨gO, 0, none⟩) 10 10), (4, .pointer (some ⟨g3, 0, none⟩)), (3, .pointer (some ⟨g2, 0, none⟩)), (2, .pointer (some ⟨g1, 0, none⟩)), (0, .slice A n cap)] ((g14, 51, wv (pK hh (k + 1))) :: (g13, 51, wv (blW l j)) :: (g3, 46, wn 8 hh) :: (g2, 46, wn 8 ivB) :: (g1, 25, bvs (rb 32 b0s)) :: TT gO oO gP oP)
            rw [pK_step hh (by omega)] at H
            exact H.pickF (h := [(g14, 51, wv (pK hh (k + 1))), (g13, 51, wv (blW l j)), (g3, 46, wn 8 hh), (g2, 46, wn 8 ivB), (g1, 25, bvs (rb 32 b0s))]) (t := TT gO oO gP oP) [0, 16, 17, 18, 19, 20, 21, 22, 23, 24, 25, 26] [0, 1, 2, 3, 4] rfl
          · obtain rfl : 8 = k := by omega
            refine wp_seq_k (fun K39 hK39 => ?_)
            refine sqR H gs0 fun Z_ z_ => rS 1 rfl <| rV rfl (does_binOp rfl rfl rfl (i_lss_no (k := 8) (m := 8) (by omega) _ _)) <| rN0 z_ ?_
            try clear H a W
            intro a W H
            refine wp_cond_false (H.ev rfl) ?_
            refine wp_exit ?_
            repeat (with_reducible refine then_exit ?_)
            refine blk_exit ?_
            rw [pK_all] at H
            refine hK34 _ _ ?_
            clear hK34
            refine wp_seq_k (fun K41 hK41 => ?_)
            have J41 : ∀ a W, St 214 w a W [(14, un (bif L then n else 64 * j + 64)), (94, .bool false), (93, .int .i64 ((8 : Nat) : Int)), (15, .int .i64 ((8 : Nat) : Int)), (11, .pointer (some ⟨g14, 0, none⟩)), (10, .pointer (some ⟨g13, 0, none⟩)), (9, .int .i64 ((j : Nat) : Int)), (8, .int .i64 ((N : Nat) : Int)), (7, .slice (some ⟨gP, 0, none⟩) 8 8), (6, .slice (some ⟨gO, 0, none⟩) 10 10), (4, .pointer (some ⟨g3, 0, none⟩)), (3, .pointer (some ⟨g2, 0, none⟩)), (2, .pointer (some ⟨g1, 0, none⟩)), (0, .slice A n cap)] ((g14, 51, wv (lB L hh)) :: (g13, 51, wv (blW l j)) :: (g3, 46, wn 8 hh) :: (g2, 46, wn 8 ivB) :: (g1, 25, bvs (rb 32 b0s)) :: TT gO oO gP oP) → K41 a W := by
              try clear H a W
              intro a W H
              refine hK41 _ _ ?_
              clear hK41
              refine sqR H gs0 fun Z_ z_ => rV rfl (does_indexAddr rfl rfl rfl (ia_w16 (j := 12) (by omega))) <| rV rfl (does_loadAt (v := wc ((lB L hh) 12)) rfl rfl (k := 0) rfl (ld_word (by omega))) <| rS 1 rfl <| rV rfl (does_convert rfl rfl (cv_nw _)) <| rV rfl (does_binOp rfl rfl rfl (w_xor _ _ _ _)) <| rV rfl (does_indexAddr rfl rfl rfl (ia_w16 (j := 12) (by omega))) <| rX [1] (c := wv (upd (lB L hh) 12 (((lB L hh) 12) ^^^ (UInt32.ofNat (bif L then n else 64 * j + 64))))) ⟨rfl, rfl⟩ rfl rfl rfl (st_word (by omega)) (sv_word rfl) <| rN0 z_ ?_
              try clear H a W
              intro a W H
              refine sqR H gs0 fun Z_ z_ => rV rfl (does_indexAddr rfl rfl rfl (ia_w16 (j := 13) (by omega))) <| rV rfl (does_loadAt (v := wc ((upd (lB L hh) 12 (((lB L hh) 12) ^^^ (UInt32.ofNat (bif L then n else 64 * j + 64)))) 13)) rfl rfl (k := 0) rfl (ld_word (by omega))) <| rS 1 rfl <| rV rfl (does_binOp rfl rfl rfl (un_shr (x := (bif L then n else 64 * j + 64)) (s := 32) rfl (by omega) _ _)) <| rV rfl (does_convert rfl rfl (cv_nw _)) <| rV rfl (does_binOp rfl rfl rfl (w_xor _ _ _ _)) <| rV rfl (does_indexAddr rfl rfl rfl (ia_w16 (j := 13) (by omega))) <| rX [1] (c := wv (upd (upd (lB L hh) 12 (((lB L hh) 12) ^^^ (UInt32.ofNat (bif L then n else 64 * j + 64)))) 13 (((upd (lB L hh) 12 (((lB L hh) 12) ^^^ (UInt32.ofNat (bif L then n else 64 * j + 64)))) 13) ^^^ (UInt32.ofNat ((bif L then n else 64 * j + 64) / 4294967296))))) ⟨rfl, rfl⟩ rfl rfl rfl (st_word (by omega)) (sv_word rfl) <| rN0 z_ ?_
              try clear H a W
              intro a W H
              refine wp_seq_k (fun K44 hK44 => ?_)
              refine sqR H gs0 fun Z_ z_ => rS 1 rfl <| rN0 z_ ?_
              try clear H a W
              intro a W H
              rw [pre_all] at H
              obtain ⟨v0, hv0⟩ : ∃ x, preB hh (bif L then n else 64 * j + 64) L = x := ⟨_, rfl⟩
              obtain ⟨M, hM⟩ : ∃ x, blW l j = x := ⟨_, rfl⟩
              rw [hv0, hM] at H
              refine wp_block ?_
              replace H : St 214 w a W [(16, .int .i64 ((0 : Nat) : Int)), (11, .pointer (some ⟨g14, 0, none⟩)), (10, .pointer (some ⟨g13, 0, none⟩)), (9, .int .i64 ((j : Nat) : Int)), (8, .int .i64 ((N : Nat) : Int)), (7, .slice (some ⟨gP, 0, none⟩) 8 8), (6, .slice (some ⟨gO, 0, none⟩) 10 10), (4, .pointer (some ⟨g3, 0, none⟩)), (3, .pointer (some ⟨g2, 0, none⟩)), (2, .pointer (some ⟨g1, 0, none⟩)), (0, .slice A n cap)] ((g14, 51, wv (mixR M v0 0)) :: (g13, 51, wv M) :: (g3, 46, wn 8 hh) :: (g2, 46, wn 8 ivB) :: (g1, 25, bvs (rb 32 b0s)) :: TT gO oO gP oP) := H.pickF (h := [(g14, 51, wv v0), (g13, 51, wv M), (g3, 46, wn 8 hh), (g2, 46, wn 8 ivB), (g1, 25, bvs (rb 32 b0s))]) (t := TT gO oO gP oP) [0, 18, 19, 20, 21, 22, 23, 24, 25, 26, 27] [0, 1, 2, 3, 4] rfl
              refine wp_rounds 10 (fun r a W => St 214 w a W [(16, .int .i64 ((r : Nat) : Int)), (11, .pointer (some ⟨g14, 0, none⟩)), (10, .pointer (some ⟨g13, 0, none⟩)), (9, .int .i64 ((j : Nat) : Int)), (8, .int .i64 ((N : Nat) : Int)), (7, .slice (some ⟨gP, 0, none⟩) 8 8), (6, .slice (some ⟨gO, 0, none⟩) 10 10), (4, .pointer (some ⟨g3, 0, none⟩)), (3, .pointer (some ⟨g2, 0, none⟩)), (2, .pointer (some ⟨g1, 0, none⟩)), (0, .slice A n cap)] ((g14, 51, wv (mixR M v0 r)) :: (g13, 51, wv M) :: (g3, 46, wn 8 hh) :: (g2, 46, wn 8 ivB) :: (g1, 25, bvs (rb 32 b0s)) :: TT gO oO gP oP)) (k0 := 0) H (by omega) ?_
              try clear H a W
              intro r a W hr H
              by_cases hr2 : r < 10
              · refine wp_seq_k (fun K46 hK46 => ?_)
                refine sqR H gs0 fun Z_ z_ => rS 1 rfl <| rV rfl (does_binOp rfl rfl rfl (i_lss_yes (k := r) (m := 10) (by omega) _ _)) <| rN0 z_ ?_
                try clear H a W
                intro a W H
                refine wp_cond_true (H.ev rfl) ?_
                refine wp_skip ?_
                refine hK46 _ _ ?_
                clear hK46
                refine wp_seq_k (fun K48 hK48 => ?_)
                refine wp_block ?_
                refine sqR H gs0 fun Z_ z_ => rS 1 rfl <| rN0 z_ ?_
                try clear H a W
                intro a W H
                obtain ⟨F, hF⟩ : ∃ x, mixR M v0 r = x := ⟨_, rfl⟩
                rw [hF] at H
                refine wp_block ?_
                replace H : St 214 w a W [(17, .int .i64 ((0 : Nat) : Int)), (16, .int .i64 ((r : Nat) : Int)), (11, .pointer (some ⟨g14, 0, none⟩)), (10, .pointer (some ⟨g13, 0, none⟩)), (9, .int .i64 ((j : Nat) : Int)), (8, .int .i64 ((N : Nat) : Int)), (7, .slice (some ⟨gP, 0, none⟩) 8 8), (6, .slice (some ⟨gO, 0, none⟩) 10 10), (4, .pointer (some ⟨g3, 0, none⟩)), (3, .pointer (some ⟨g2, 0, none⟩)), (2, .pointer (some ⟨g1, 0, none⟩)), (0, .slice A n cap)] ((g14, 51, wv (mixI M r F 0)) :: (g13, 51, wv M) :: (g3, 46, wn 8 hh) :: (g2, 46, wn 8 ivB) :: (g1, 25, bvs (rb 32 b0s)) :: TT gO oO gP oP) := H.pickF (h := [(g14, 51, wv F), (g13, 51, wv M), (g3, 46, wn 8 hh), (g2, 46, wn 8 ivB), (g1, 25, bvs (rb 32 b0s))]) (t := TT gO oO gP oP) [0, 3, 4, 5, 6, 7, 8, 9, 10, 11, 12, 13] [0, 1, 2, 3, 4] rfl
                refine wp_rounds 8 (fun k a W => St 214 w a W [(17, .int .i64 ((k : Nat) : Int)), (16, .int .i64 ((r : Nat) : Int)), (11, .pointer (some ⟨g14, 0, none⟩)), (10, .pointer (some ⟨g13, 0, none⟩)), (9, .int .i64 ((j : Nat) : Int)), (8, .int .i64 ((N : Nat) : Int)), (7, .slice (some ⟨gP, 0, none⟩) 8 8), (6, .slice (some ⟨gO, 0, none⟩) 10 10), (4, .pointer (some ⟨g3, 0, none⟩)), (3, .pointer (some ⟨g2, 0, none⟩)), (2, .pointer (some ⟨g1, 0, none⟩)), (0, .slice A n cap)] ((g14, 51, wv (mixI M r F k)) :: (g13, 51, wv M) :: (g3, 46, wn 8 hh) :: (g2, 46, wn 8 ivB) :: (g1, 25, bvs (rb 32 b0s)) :: TT gO oO gP oP)) (k0 := 0) H (by omega) ?_
                try clear H a W
                intro k a W hk H
                by_cases hk2 : k < 8
                · refine wp_seq_k (fun K50 hK50 => ?_)
                  refine sqR H gs0 fun Z_ z_ => rS 1 rfl <| rV rfl (does_binOp rfl rfl rfl (i_lss_yes (k := k) (m := 8) (by omega) _ _)) <| rN0 z_ ?_
                  try clear H a W
                  intro a W H
                  refine wp_cond_true (H.ev rfl) ?_
                  refine wp_skip ?_
                  refine hK50 _ _ ?_
                  clear hK50
                  refine wp_seq_k (fun K52 hK52 => ?_)
                  refine wp_block ?_
                  refine sqR H gs0 fun Z_ z_ => rS 2 rfl <| rV rfl (does_indexAddr rfl rfl rfl (ia_intss (j := k) (by omega))) <| rV rfl (does_loadIn 5 _ rfl rfl rfl TT_p (ld_tab (j := k) (n := 8) (by omega))) <| rS 1 rfl <| rN0 z_ ?_
                  try clear H a W
                  intro a W H
                  refine d2 (.v 144 _ [] :: .v 145 _ [] :: .v 146 _ [1] :: .v 147 _ [2] :: .v 148 _ [] :: .v 149 _ [4] :: .v 150 _ [5] :: .v 151 _ [] :: .v 152 _ [7] :: .v 153 _ [8] :: .v 154 _ [] :: .v 155 _ [10] :: .v 156 _ [11] :: .v 157 _ [] :: .v 158 _ [] :: .v 159 _ [13, 14] :: .v 160 _ [15] :: .v 161 _ [] :: .v 162 _ [17] :: .v 163 _ [16, 18] :: .v 164 _ [19] :: .v 165 _ [20] :: .v 166 _ [21] :: .v 167 _ [] :: .v 168 _ [] :: .v 169 _ [23, 24] :: .v 170 _ [25] :: .v 171 _ [] :: .v 172 _ [27] :: .v 173 _ [28] :: .v 174 _ [26, 29] :: .v 175 _ [30] :: .v 176 _ [31] :: .v 177 _ [32] :: .v 178 _ [0, 3, 6, 9, 12, 22, 33] :: []) (by kernel_rfl) (by kernel_rfl) H gs0 ⟨oV rfl (does_load rfl rfl (k := 0) rfl Tryd.underlying51 rfl (info_w16 _)), oS rfl rfl, oV rfl (does_indexAddr rfl rfl rfl (ia_ints (j := 0) (by omega))), oV rfl (does_loadIn 5 _ rfl rfl rfl (TT_pr (k := k) (by omega)) (ld_iv (j := 0) (m := 4) (by omega))), oS rfl rfl, oV rfl (does_indexAddr rfl rfl rfl (ia_ints (j := 1) (by omega))), oV rfl (does_loadIn 5 _ rfl rfl rfl (TT_pr (k := k) (by omega)) (ld_iv (j := 1) (m := 4) (by omega))), oS rfl rfl, oV rfl (does_indexAddr rfl rfl rfl (ia_ints (j := 2) (by omega))), oV rfl (does_loadIn 5 _ rfl rfl rfl (TT_pr (k := k) (by omega)) (ld_iv (j := 2) (m := 4) (by omega))), oS rfl rfl, oV rfl (does_indexAddr rfl rfl rfl (ia_ints (j := 3) (by omega))), oV rfl (does_loadIn 5 _ rfl rfl rfl (TT_pr (k := k) (by omega)) (ld_iv (j := 3) (m := 4) (by omega))), oS rfl rfl, oS rfl rfl, oV rfl (does_indexAddr rfl rfl rfl (ia_intss (j := r) (by omega))), oV rfl (does_loadIn 5 _ rfl rfl rfl TT_o (ld_tab (j := r) (n := 10) (by omega))), oS rfl rfl, oV rfl (does_binOp rfl rfl rfl (i_mul (k := 2) (m := k) (by omega) _ _)), oV rfl (does_indexAddr rfl rfl rfl (ia_ints (j := (2 * k)) (by omega))), oV rfl (does_loadIn 5 _ rfl rfl rfl (TT_or (k := r) (by omega)) (ld_iv (j := (2 * k)) (m := 16) (by omega))), oV rfl (does_indexAddr rfl rfl rfl (ia_w16 (j := (ord r (2 * k))) (ord_lt _ _))), oV rfl (does_loadAt (v := wc (M (ord r (2 * k)))) rfl rfl (k := 1) rfl (ld_word (ord_lt _ _))), oS rfl rfl, oS rfl rfl, oV rfl (does_indexAddr rfl rfl rfl (ia_intss (j := r) (by omega))), oV rfl (does_loadIn 5 _ rfl rfl rfl TT_o (ld_tab (j := r) (n := 10) (by omega))), oS rfl rfl, oV rfl (does_binOp rfl rfl rfl (i_mul (k := 2) (m := k) (by omega) _ _)), oV rfl (does_binOp rfl rfl rfl (i_inc (by omega) _ _)), oV rfl (does_indexAddr rfl rfl rfl (ia_ints (j := (2 * k + 1)) (by omega))), oV rfl (does_loadIn 5 _ rfl rfl rfl (TT_or (k := r) (by omega)) (ld_iv (j := (2 * k + 1)) (m := 16) (by omega))), oV rfl (does_indexAddr rfl rfl rfl (ia_w16 (j := (ord r (2 * k + 1))) (ord_lt _ _))), oV rfl (does_loadAt (v := wc (M (ord r (2 * k + 1)))) rfl rfl (k := 1) rfl (ld_word (ord_lt _ _))), oV rfl (does_call rfl ⟨_, Tryd.func20, by kernel_rfl⟩ rfl (fun W hb => rmix_any _ _ _ (plc_all _ hk2 _ (by decide)) (plc_all _ hk2 _ (by decide)) (plc_all _ hk2 _ (by decide)) (plc_all _ hk2 _ (by decide)) W)), trivial⟩ (rW [1] ⟨rfl, rfl⟩ rfl rfl rfl (info_w16 _) (size_wv _ _) (wv_one _) <| rZ0 ?_)
                  try clear H a W
                  intro a W H
                  refine blk_normal ?_
                  refine hK52 _ _ ?_
                  clear hK52
                  refine rgP H gs0 (rS 1 rfl <| rV rfl (does_binOp rfl rfl rfl (i_inc (by omega) _ _)) <| rK [1, 1, 1, 1, 1, 1, 1, 1, 1, 1, 1, 1, 1, 1, 1, 1, 1, 1, 1, 1, 1, 1, 1, 1, 1, 1, 1, 1, 1, 1, 1, 1, 1, 1, 1, 1, 1, 1, 1, 1, 1, 1, 1, 1, 0] [] [] <| rS 1 rfl <| rZ0 ?_)
                  try clear H a W
                  intro a W H
                  refine ⟨k + 1, by omega, by omega, ?_⟩
                  show St 214 w a W [(17, .int .i64 ((k + 1 : Nat) : Int)), (16, .int .i64 ((r : Nat) : Int)), (11, .pointer (some ⟨g14, 0, none⟩)), (10, .pointer (some ⟨g13, 0, none⟩)), (9, .int .i64 ((j : Nat) : Int)), (8, .int .i64 ((N : Nat) : Int)), (7, .slice (some ⟨gP, 0, none⟩) 8 8), (6, .slice (some ⟨gO, 0, none⟩) 10 10), (4, .pointer (some ⟨g3, 0, none⟩)), (3, .pointer (some ⟨g2, 0, none⟩)), (2, .pointer (some ⟨g1, 0, none⟩)), (0, .slice A n cap)] ((g14, 51, wv (mixI M r F (k + 1))) :: (g13, 51, wv M) :: (g3, 46, wn 8 hh) :: (g2, 46, wn 8 ivB) :: (g1, 25, bvs (rb 32 b0s)) :: TT gO oO gP oP)
                  exact H.pickF (h := [(g14, 51, wv (mixB (mixI M r F k) (plc k 0) (plc k 1) (plc k 2) (plc k 3) (M (ord r (2 * k))) (M (ord r (2 * k + 1))))), (g13, 51, wv M), (g3, 46, wn 8 hh), (g2, 46, wn 8 ivB), (g1, 25, bvs (rb 32 b0s))]) (t := TT gO oO gP oP) [0, 45, 46, 47, 48, 49, 50, 51, 52, 53, 54, 55] [0, 1, 2, 3, 4] rfl
                · obtain rfl : 8 = k := by omega
                  refine wp_seq_k (fun K54 hK54 => ?_)
                  refine sqR H gs0 fun Z_ z_ => rS 1 rfl <| rV rfl (does_binOp rfl rfl rfl (i_lss_no (k := 8) (m := 8) (by omega) _ _)) <| rN0 z_ ?_
                  try clear H a W
                  intro a W H
                  refine wp_cond_false (H.ev rfl) ?_
                  refine wp_exit ?_
                  repeat (with_reducible refine then_exit ?_)
                  refine blk_exit ?_
                  have hmr : mixI M r F 8 = mixR M v0 (r + 1) := by rw [← hF]; rfl
                  rw [hmr] at H
                  refine blk_normal ?_
                  refine hK48 _ _ ?_
                  clear hK48
                  refine rgP H gs0 (rS 1 rfl <| rV rfl (does_binOp rfl rfl rfl (i_inc (by omega) _ _)) <| rK [1, 1, 1, 1, 1, 0] [] [] <| rS 1 rfl <| rZ0 ?_)
                  try clear H a W
                  intro a W H
                  refine ⟨r + 1, by omega, by omega, ?_⟩
                  show St 214 w a W [(16, .int .i64 ((r + 1 : Nat) : Int)), (11, .pointer (some ⟨g14, 0, none⟩)), (10, .pointer (some ⟨g13, 0, none⟩)), (9, .int .i64 ((j : Nat) : Int)), (8, .int .i64 ((N : Nat) : Int)), (7, .slice (some ⟨gP, 0, none⟩) 8 8), (6, .slice (some ⟨gO, 0, none⟩) 10 10), (4, .pointer (some ⟨g3, 0, none⟩)), (3, .pointer (some ⟨g2, 0, none⟩)), (2, .pointer (some ⟨g1, 0, none⟩)), (0, .slice A n cap)] ((g14, 51, wv (mixR M v0 (r + 1))) :: (g13, 51, wv M) :: (g3, 46, wn 8 hh) :: (g2, 46, wn 8 ivB) :: (g1, 25, bvs (rb 32 b0s)) :: TT gO oO gP oP)
                  exact H.pickF (h := [(g14, 51, wv (mixR M v0 (r + 1))), (g13, 51, wv M), (g3, 46, wn 8 hh), (g2, 46, wn 8 ivB), (g1, 25, bvs (rb 32 b0s))]) (t := TT gO oO gP oP) [0, 6, 7, 8, 9, 10, 11, 12, 13, 14, 15] [0, 1, 2, 3, 4] rfl
              · obtain rfl : 10 = r := by omega
                refine wp_seq_k (fun K56 hK56 => ?_)
                refine sqR H gs0 fun Z_ z_ => rS 1 rfl <| rV rfl (does_binOp rfl rfl rfl (i_lss_no (k := 10) (m := 10) (by omega) _ _)) <| rN0 z_ ?_
                try clear H a W
                intro a W H
                refine wp_cond_false (H.ev rfl) ?_
                refine wp_exit ?_
                repeat (with_reducible refine then_exit ?_)
                refine blk_exit ?_
                obtain ⟨v, hv⟩ : ∃ x, mixR M v0 10 = x := ⟨_, rfl⟩
                rw [hv] at H
                have hend : postB hh v = runB l (j + 1) := by rw [← hv, ← hM, ← hv0, ← hL, ← hhh, ← hN, ← hn]; exact run_step l j
                refine hK44 _ _ ?_
                clear hK44
                refine sqR H gs0 fun Z_ z_ => rS 1 rfl <| rN0 z_ ?_
                try clear H a W
                intro a W H
                replace H : St 214 w a W [(19, .int .i64 0), (133, .bool false), (132, .int .i64 ((10 : Nat) : Int)), (16, .int .i64 ((10 : Nat) : Int)), (11, .pointer (some ⟨g14, 0, none⟩)), (10, .pointer (some ⟨g13, 0, none⟩)), (9, .int .i64 ((j : Nat) : Int)), (8, .int .i64 ((N : Nat) : Int)), (7, .slice (some ⟨gP, 0, none⟩) 8 8), (6, .slice (some ⟨gO, 0, none⟩) 10 10), (4, .pointer (some ⟨g3, 0, none⟩)), (3, .pointer (some ⟨g2, 0, none⟩)), (2, .pointer (some ⟨g1, 0, none⟩)), (0, .slice A n cap)] ((g14, 51, wv v) :: (g13, 51, wv M) :: (g3, 46, wn 8 (mapU (postB hh v) hh 0)) :: (g2, 46, wn 8 ivB) :: (g1, 25, bvs (rb 32 b0s)) :: TT gO oO gP oP) := by rw [mapU_0]; exact H
                refine wp_block ?_
                replace H : St 214 w a W [(19, .int .i64 ((0 : Nat) : Int)), (11, .pointer (some ⟨g14, 0, none⟩)), (9, .int .i64 ((j : Nat) : Int)), (8, .int .i64 ((N : Nat) : Int)), (7, .slice (some ⟨gP, 0, none⟩) 8 8), (6, .slice (some ⟨gO, 0, none⟩) 10 10), (4, .pointer (some ⟨g3, 0, none⟩)), (3, .pointer (some ⟨g2, 0, none⟩)), (2, .pointer (some ⟨g1, 0, none⟩)), (0, .slice A n cap)] ((g14, 51, wv v) :: (g13, 51, wv M) :: (g3, 46, wn 8 (mapU (postB hh v) hh 0)) :: (g2, 46, wn 8 ivB) :: (g1, 25, bvs (rb 32 b0s)) :: TT gO oO gP oP) := H.pickF (h := [(g14, 51, wv v), (g13, 51, wv M), (g3, 46, wn 8 (mapU (postB hh v) hh 0)), (g2, 46, wn 8 ivB), (g1, 25, bvs (rb 32 b0s))]) (t := TT gO oO gP oP) [0, 4, 6, 7, 8, 9, 10, 11, 12, 13] [0, 1, 2, 3, 4] rfl
                refine wp_rounds 8 (fun k a W => St 214 w a W [(19, .int .i64 ((k : Nat) : Int)), (11, .pointer (some ⟨g14, 0, none⟩)), (9, .int .i64 ((j : Nat) : Int)), (8, .int .i64 ((N : Nat) : Int)), (7, .slice (some ⟨gP, 0, none⟩) 8 8), (6, .slice (some ⟨gO, 0, none⟩) 10 10), (4, .pointer (some ⟨g3, 0, none⟩)), (3, .pointer (some ⟨g2, 0, none⟩)), (2, .pointer (some ⟨g1, 0, none⟩)), (0, .slice A n cap)] ((g14, 51, wv v) :: (g13, 51, wv M) :: (g3, 46, wn 8 (mapU (postB hh v) hh k)) :: (g2, 46, wn 8 ivB) :: (g1, 25, bvs (rb 32 b0s)) :: TT gO oO gP oP)) (k0 := 0) H (by omega) ?_
                try clear H a W
                intro k a W hk H
                by_cases hk2 : k < 8
                · have hpost : postB hh v k = ((hh k ^^^ v k) ^^^ v (8 + k)) := post_at _ _ _
                  refine wp_seq_k (fun K59 hK59 => ?_)
                  refine sqR H gs0 fun Z_ z_ => rS 1 rfl <| rV rfl (does_binOp rfl rfl rfl (i_lss_yes (k := k) (m := 8) (by omega) _ _)) <| rN0 z_ ?_
                  try clear H a W
                  intro a W H
                  refine wp_cond_true (H.ev rfl) ?_
                  refine wp_skip ?_
                  refine hK59 _ _ ?_
                  clear hK59
                  refine wp_seq_k (fun K61 hK61 => ?_)
                  refine wp_block ?_
                  refine d2 [.v 183 _ [], .v 184 _ [], .v 185 _ [1], .v 186 _ [2], .v 187 _ [], .v 188 _ [4], .v 189 _ [5], .v 190 _ [3, 6], .v 191 _ [], .v 192 _ [8], .v 193 _ [9], .v 194 _ [10], .v 195 _ [7, 11], .v 196 _ [0]] (by kernel_rfl) (by kernel_rfl) H gs0 ⟨oS rfl rfl, oS rfl rfl, oV rfl (does_indexAddr rfl rfl rfl (ia_h8 (j := k) (by omega))), oV rfl (does_loadAt (v := wc (hh k)) rfl rfl (k := 2) rfl (ld_wn (by omega) (mapU_ge (by omega)))), oS rfl rfl, oV rfl (does_indexAddr rfl rfl rfl (ia_w16 (j := k) (by omega))), oV rfl (does_loadAt (v := wc (v k)) rfl rfl (k := 0) rfl (ld_word (by omega))), oV rfl (does_binOp rfl rfl rfl (w_xor _ _ _ _)), oS rfl rfl, oV rfl (does_binOp rfl rfl rfl (z_add (k := 8) (m := k) (by omega) _ _)), oV rfl (does_indexAddr rfl rfl rfl (ia_w16 (j := (8 + k)) (by omega))), oV rfl (does_loadAt (v := wc (v (8 + k))) rfl rfl (k := 0) rfl (ld_word (by omega))), oV rfl (does_binOp rfl rfl rfl (w_xor _ _ _ _)), oV rfl (does_indexAddr rfl rfl rfl (ia_h8 (j := k) (by omega))), trivial⟩ (rX [0, 0, 1] (c := wn 8 (mapU (postB hh v) hh (k + 1))) ⟨rfl, rfl⟩ rfl rfl rfl (st_wn (by omega)) (sv_wn (mapU_step hpost)) <| rZ0 ?_)
                  try clear H a W
                  intro a W H
                  refine blk_normal ?_
                  refine hK61 _ _ ?_
                  clear hK61
                  refine rgP H gs0 (rS 1 rfl <| rV rfl (does_binOp rfl rfl rfl (i_inc (by omega) _ _)) <| rK [1, 1, 1, 1, 1, 1, 1, 1, 1, 1, 1, 1, 1, 1, 1, 1, 1, 1, 0] [] [] <| rS 1 rfl <| rZ0 ?_)
                  try clear H a W
                  intro a W H
                  refine ⟨k + 1, by omega, by omega, ?_⟩
                  show St 214 w a W [(19, .int .i64 ((k + 1 : Nat) : Int)), (11, .pointer (some ⟨g14, 0, none⟩)), (9, .int .i64 ((j : Nat) : Int)), (8, .int .i64 ((N : Nat) : Int)), (7, .slice (some ⟨gP, 0, none⟩) 8 8), (6, .slice (some ⟨gO, 0, none⟩) 10 10), (4, .pointer (some ⟨g3, 0, none⟩)), (3, .pointer (some ⟨g2, 0, none⟩)), (2, .pointer (some ⟨g1, 0, none⟩)), (0, .slice A n cap)] ((g14, 51, wv v) :: (g13, 51, wv M) :: (g3, 46, wn 8 (mapU (postB hh v) hh (k + 1))) :: (g2, 46, wn 8 ivB) :: (g1, 25, bvs (rb 32 b0s)) :: TT gO oO gP oP)
                  exact H.pickF (h := [(g14, 51, wv v), (g13, 51, wv M), (g3, 46, wn 8 (mapU (postB hh v) hh (k + 1))), (g2, 46, wn 8 ivB), (g1, 25, bvs (rb 32 b0s))]) (t := TT gO oO gP oP) [0, 19, 20, 21, 22, 23, 24, 25, 26, 27] [0, 1, 2, 3, 4] rfl
                · obtain rfl : 8 = k := by omega
                  refine wp_seq_k (fun K62 hK62 => ?_)
                  refine sqR H gs0 fun Z_ z_ => rS 1 rfl <| rV rfl (does_binOp rfl rfl rfl (i_lss_no (k := 8) (m := 8) (by omega) _ _)) <| rN0 z_ ?_
                  try clear H a W
                  intro a W H
                  refine wp_cond_false (H.ev rfl) ?_
                  refine wp_exit ?_
                  repeat (with_reducible refine then_exit ?_)
                  refine blk_exit ?_
                  rw [mapU_all] at H
                  refine blk_normal ?_
                  refine hK20 _ _ ?_
                  clear hK20
                  refine rgP H gs0 (rS 1 rfl <| rV rfl (does_binOp rfl rfl rfl (i_inc (by omega) _ _)) <| rK [1, 1, 1, 1, 1, 1, 0] [] [] <| rS 1 rfl <| rZ0 ?_)
                  try clear H a W
                  intro a W H
                  refine ⟨j + 1, by omega, by omega, ?_⟩
                  show St 214 w a W [(9, .int .i64 ((j + 1 : Nat) : Int)), (8, .int .i64 ((N : Nat) : Int)), (7, .slice (some ⟨gP, 0, none⟩) 8 8), (6, .slice (some ⟨gO, 0, none⟩) 10 10), (4, .pointer (some ⟨g3, 0, none⟩)), (3, .pointer (some ⟨g2, 0, none⟩)), (2, .pointer (some ⟨g1, 0, none⟩)), (0, .slice A n cap)] ((g3, 46, wn 8 (runB l (j + 1))) :: (g2, 46, wn 8 ivB) :: (g1, 25, bvs (rb 32 b0s)) :: TT gO oO gP oP)
                  rw [hend] at H
                  exact H.pickF (h := [(g14, 51, wv v), (g13, 51, wv M), (g3, 46, wn 8 (runB l (j + 1))), (g2, 46, wn 8 ivB), (g1, 25, bvs (rb 32 b0s))]) (t := TT gO oO gP oP) [0, 7, 8, 9, 10, 11, 12, 13] [2, 3, 4] rfl
            clear hK41
            cases L
            · have h5 : ¬ j + 1 = N := fun e_ => by rw [e_, Nat.beq_refl] at hL; cases hL
              refine sqR H gs0 fun Z_ z_ => rS 2 rfl <| rV rfl (does_binOp rfl rfl rfl (z_sub (k := N) (m := 1) (by omega) (by omega) _ _)) <| rV rfl (does_binOp rfl rfl rfl (z_eql (k := j) (m := (N - 1)) (decide_eq_false (by omega)) _ _)) <| rN0 z_ ?_
              try clear H a W
              intro a W H
              refine wp_cond_false (H.ev rfl) ?_
              refine wp_skip ?_
              exact J41 _ _ (by rw [lB_false hh]; exact H.pickF (h := [(g14, 51, wv (vB hh)), (g13, 51, wv (blW l j)), (g3, 46, wn 8 hh), (g2, 46, wn 8 ivB), (g1, 25, bvs (rb 32 b0s))]) (t := TT gO oO gP oP) [7, 4, 5, 6, 8, 9, 10, 11, 12, 13, 14, 15, 16, 17] [0, 1, 2, 3, 4] rfl)
            · have h5 := Nat.eq_of_beq_eq_true hL
              refine sqR H gs0 fun Z_ z_ => rS 2 rfl <| rV rfl (does_binOp rfl rfl rfl (z_sub (k := N) (m := 1) (by omega) (by omega) _ _)) <| rV rfl (does_binOp rfl rfl rfl (z_eql (k := j) (m := (N - 1)) (decide_eq_true (by omega)) _ _)) <| rN0 z_ ?_
              try clear H a W
              intro a W H
              refine wp_cond_true (H.ev rfl) ?_
              refine sqR H gs0 fun Z_ z_ => rS 1 rfl <| rV rfl (does_len Tryd.underlying22 rfl rfl) <| rV rfl (does_convert rfl rfl (cv_in (by omega))) <| rK [1, 1, 1, 1, 1, 1, 1, 1, 1, 1, 0] [] [] <| rS 1 rfl <| rN0 z_ ?_
              try clear H a W
              intro a W H
              refine rgP H gs0 (rV rfl (does_indexAddr rfl rfl rfl (ia_w16 (j := 14) (by omega))) <| rV rfl (does_loadAt (v := wc ((vB hh) 14)) rfl rfl (k := 0) rfl (ld_word (by omega))) <| rV rfl (does_unOp rfl rfl (w_notB _)) <| rV rfl (does_indexAddr rfl rfl rfl (ia_w16 (j := 14) (by omega))) <| rX [1] (c := wv (upd (vB hh) 14 (~~~ ((vB hh) 14)))) ⟨rfl, rfl⟩ rfl rfl rfl (st_word (by omega)) (sv_word rfl) <| rZ0 ?_)
              try clear H a W
              intro a W H
              exact J41 _ _ (by rw [lB_true hh]; exact H.pickF (h := [(g14, 51, wv (upd (vB hh) 14 (~~~ ((vB hh) 14)))), (g13, 51, wv (blW l j)), (g3, 46, wn 8 hh), (g2, 46, wn 8 ivB), (g1, 25, bvs (rb 32 b0s))]) (t := TT gO oO gP oP) [4, 12, 13, 14, 15, 16, 17, 18, 19, 20, 21, 22, 23, 24] [0, 1, 2, 3, 4] rfl)
      · obtain rfl : N = j := by omega
        refine wp_seq_k (fun K67 hK67 => ?_)
        refine sqR H gs0 fun Z_ z_ => rS 2 rfl <| rV rfl (does_binOp rfl rfl rfl (i_lss_no (k := N) (m := N) (by omega) _ _)) <| rK [1, 0, 0] [] [] <| rN0 z_ ?_
        try clear H a W
        intro a W H
        refine wp_cond_false (H.ev rfl) ?_
        refine wp_exit ?_
        repeat (with_reducible refine then_exit ?_)
        refine blk_exit ?_
        obtain ⟨f, hf⟩ : ∃ f, runB l N = f := ⟨_, rfl⟩
        rw [hf] at H
        refine hK16 _ _ ?_
        clear hK16
        refine sqR H gs0 fun Z_ z_ => rA rfl rfl al_keyB fun g16 => rK [1, 0, 0, 0, 0, 0, 1, 0, 1, 0] [] [] <| rN0 z_ ?_
        try clear H a W
        intro a W H
        refine wp_seq_k (fun K70 hK70 => ?_)
        refine sqR H gs0 fun Z_ z_ => rS 1 rfl <| rN0 z_ ?_
        try clear H a W
        intro a W H
        replace H : St 214 w a W [(21, .int .i64 0), (20, .pointer (some ⟨g16, 0, none⟩)), (4, .pointer (some ⟨g3, 0, none⟩)), (2, .pointer (some ⟨g1, 0, none⟩))] ((g16, 25, bvs (rb 32 (mapY (outB f) b0s 0))) :: (g3, 46, wn 8 f) :: (g2, 46, wn 8 ivB) :: (g1, 25, bvs (rb 32 b0s)) :: TT gO oO gP oP) := by rw [mapY_0]; exact H
        refine wp_block ?_
        replace H : St 214 w a W [(21, .int .i64 ((0 : Nat) : Int)), (20, .pointer (some ⟨g16, 0, none⟩)), (4, .pointer (some ⟨g3, 0, none⟩)), (2, .pointer (some ⟨g1, 0, none⟩))] ((g16, 25, bvs (rb 32 (mapY (outB f) b0s 0))) :: (g3, 46, wn 8 f) :: (g2, 46, wn 8 ivB) :: (g1, 25, bvs (rb 32 b0s)) :: TT gO oO gP oP) := H.pickF (h := [(g16, 25, bvs (rb 32 (mapY (outB f) b0s 0))), (g3, 46, wn 8 f), (g2, 46, wn 8 ivB), (g1, 25, bvs (rb 32 b0s))]) (t := TT gO oO gP oP) [0, 1, 2, 3] [0, 1, 2, 3] rfl
        refine wp_rounds 32 (fun k a W => St 214 w a W [(21, .int .i64 ((k : Nat) : Int)), (20, .pointer (some ⟨g16, 0, none⟩)), (4, .pointer (some ⟨g3, 0, none⟩)), (2, .pointer (some ⟨g1, 0, none⟩))] ((g16, 25, bvs (rb 32 (mapY (outB f) b0s k))) :: (g3, 46, wn 8 f) :: (g2, 46, wn 8 ivB) :: (g1, 25, bvs (rb 32 b0s)) :: TT gO oO gP oP)) (k0 := 0) H (by omega) ?_
        try clear H a W
        intro k a W hk H
        by_cases hk2 : k < 32
        · have hout : outB f k = lowB (shrW (f (k / 4)) (8 * (k % 4))) := out_at _ _
          refine wp_seq_k (fun K72 hK72 => ?_)
          refine sqR H gs0 fun Z_ z_ => rS 1 rfl <| rV rfl (does_binOp rfl rfl rfl (i_lss_yes (k := k) (m := 32) (by omega) _ _)) <| rN0 z_ ?_
          try clear H a W
          intro a W H
          refine wp_cond_true (H.ev rfl) ?_
          refine wp_skip ?_
          refine hK72 _ _ ?_
          clear hK72
          refine wp_seq_k (fun K74 hK74 => ?_)
          refine wp_block ?_
          refine rgP H gs0 (rS 2 rfl <| rV rfl (does_binOp rfl rfl rfl (i_quo (k := k) (m := 4) (by omega) (by omega) (by omega) _ _)) <| rV rfl (does_indexAddr rfl rfl rfl (ia_h8 (j := (k / 4)) (by omega))) <| rV rfl (does_loadAt (v := wc (f (k / 4))) rfl rfl (k := 1) rfl (ld_wn (by omega) (rfl))) <| rS 1 rfl <| rV rfl (does_binOp rfl rfl rfl (i_rem (k := k) (m := 4) (by omega) _ _)) <| rV rfl (does_binOp rfl rfl rfl (i_mul (k := 8) (m := (k % 4)) (by omega) _ _)) <| rV rfl (does_convert rfl rfl (cv_iu (by omega))) <| rV rfl (does_binOp rfl rfl rfl (w_shru (s := (8 * (k % 4))) (by omega) _ _)) <| rV rfl (does_convert rfl rfl (cv_wb _)) <| rV rfl (does_indexAddr rfl rfl rfl (ia_keyB (j := k) (by omega))) <| rX [1] (c := bvs (rb 32 (mapY (outB f) b0s (k + 1)))) ⟨rfl, rfl⟩ rfl rfl rfl (st_byte (by omega)) (sv_byte (mapY_step hout)) <| rZ0 ?_)
          try clear H a W
          intro a W H
          refine blk_normal ?_
          refine hK74 _ _ ?_
          clear hK74
          refine rgP H gs0 (rS 1 rfl <| rV rfl (does_binOp rfl rfl rfl (i_inc (by omega) _ _)) <| rK [1, 1, 1, 1, 1, 1, 1, 1, 1, 1, 1, 1, 1, 1, 1, 1, 0] [] [] <| rS 1 rfl <| rZ0 ?_)
          try clear H a W
          intro a W H
          refine ⟨k + 1, by omega, by omega, ?_⟩
          show St 214 w a W [(21, .int .i64 ((k + 1 : Nat) : Int)), (20, .pointer (some ⟨g16, 0, none⟩)), (4, .pointer (some ⟨g3, 0, none⟩)), (2, .pointer (some ⟨g1, 0, none⟩))] ((g16, 25, bvs (rb 32 (mapY (outB f) b0s (k + 1)))) :: (g3, 46, wn 8 f) :: (g2, 46, wn 8 ivB) :: (g1, 25, bvs (rb 32 b0s)) :: TT gO oO gP oP)
          exact H.pickF (h := [(g16, 25, bvs (rb 32 (mapY (outB f) b0s (k + 1)))), (g3, 46, wn 8 f), (g2, 46, wn 8 ivB), (g1, 25, bvs (rb 32 b0s))]) (t := TT gO oO gP oP) [0, 17, 18, 19] [0, 1, 2, 3] rfl
        · obtain rfl : 32 = k := by omega
          refine wp_seq_k (fun K75 hK75 => ?_)
          refine sqR H gs0 fun Z_ z_ => rS 1 rfl <| rV rfl (does_binOp rfl rfl rfl (i_lss_no (k := 32) (m := 32) (by omega) _ _)) <| rK [1, 0] [] [] <| rN0 z_ ?_
          try clear H a W
          intro a W H
          refine wp_cond_false (H.ev rfl) ?_
          refine wp_exit ?_
          repeat (with_reducible refine then_exit ?_)
          refine blk_exit ?_
          rw [mapY_all] at H
          refine hK70 _ _ ?_
          clear hK70
          refine sqR H gs0 fun Z_ z_ => rV rfl (does_load rfl rfl (k := 0) rfl Tryd.underlying25 rfl (info_key _)) <| rW [0, 0, 0, 1] ⟨rfl, rfl⟩ rfl rfl rfl (info_key _) (size_rb _ _ _) (bvs_one _) <| rK [0, 0, 0, 0, 0] [] [] <| rN0 z_ ?_
          try clear H a W
          intro a W H
          refine wp_ret ?_
          repeat (first | (with_reducible refine then_ret ?_) | (with_reducible refine blk_ret ?_))
          refine end_cell (p := 2) rfl rfl (k := 3) rfl Tryd.underlying25 rfl (info_key _) H (fun hb => ?_)
          exact ⟨by rw [← hf, ← hN, ← hn]; unfold hashB; rfl, hb⟩
    clear hK15
    rcases Nat.eq_zero_or_pos n with h5 | h5
    · have hRe : N = 1 := by rw [← hN, nBl_0 h5]
      refine sqR H gs0 fun Z_ z_ => rS 1 rfl <| rV rfl (does_binOp rfl rfl rfl (z_eql (k := ((n + 63) / 64)) (m := 0) (decide_eq_true (by omega)) _ _)) <| rK [1, 0] [] [] <| rN0 z_ ?_
      try clear H a W
      intro a W H
      refine wp_cond_true (H.ev rfl) ?_
      refine rgP H gs0 (rK [1, 0] [] [] <| rS 1 rfl <| rK [1, 0] [] [] <| rZ0 ?_)
      try clear H a W
      intro a W H
      exact J15 _ _ (by rw [hRe]; exact H.pickF (h := [(g3, 46, wn 8 (upd ivB 0 ((ivB 0) ^^^ 16842784))), (g2, 46, wn 8 ivB), (g1, 25, bvs (rb 32 b0s))]) (t := TT gO oO gP oP) [0, 1, 2, 3, 4, 5, 6] [0, 1, 2] rfl)
    · have hRe : N = (n + 63) / 64 := by rw [← hN, nBl_pos h5]
      refine sqR H gs0 fun Z_ z_ => rS 1 rfl <| rV rfl (does_binOp rfl rfl rfl (z_eql (k := ((n + 63) / 64)) (m := 0) (decide_eq_false (by omega)) _ _)) <| rK [1, 0] [] [] <| rN0 z_ ?_
      try clear H a W
      intro a W H
      refine wp_cond_false (H.ev rfl) ?_
      refine wp_skip ?_
      exact J15 _ _ (by rw [hRe]; exact H.pickF (h := [(g3, 46, wn 8 (upd ivB 0 ((ivB 0) ^^^ 16842784))), (g2, 46, wn 8 ivB), (g1, 25, bvs (rb 32 b0s))]) (t := TT gO oO gP oP) [1, 2, 3, 4, 5, 6, 7] [0, 1, 2] rfl)
end Go.Proofs.YthjechjffhhiiaaDoor
