/- Layer 14's laws: rows of bytes; the chapter's rows (known). -/
import Derived.Test.YtiebelmglchbdaaPh
namespace Go.Proofs.Ytiebelmglchbdaa
set_option linter.unusedVariables false
set_option linter.unusedSimpArgs false
set_option maxRecDepth 100000
open Go Go.RowKit

abbrev b0s : Nat → UInt8 := fun _ => 0
theorem zeros_rb (n : Nat) : zeros n = rb n (fun _ => 0) := by
  show List.replicate n 0 = (List.range n).map (fun _ => 0)
  rw [List.map_const', List.length_range]
theorem cv_ib (x : Nat) (W : World) : (convert 3 5 (.int .i64 (x : Int))).run Try.prog W = .ok (bv (UInt8.ofNat x)) W := by
  have e : IntKind.u8.wrap (x : Int) = ((UInt8.ofNat x).toNat : Int) := by
    rw [IntKind.wrap_u8', UInt8.toNat_ofNat']
    show _ = ((x % 256 : Nat) : Int)
    omega
  unfold bv
  go_simp
theorem b_addP (x y : UInt8) (p q : Operand) (W : World) : (do eqGuard .add 5 p q (bv x) (bv y); binOp .add 5 (bv x) (bv y) : Sem Value).run Try.prog W = .ok (bv (x + y)) W := by
  have e : IntKind.u8.wrap ((x.toNat : Int) + (y.toNat : Int)) = ((x + y).toNat : Int) := by
    rw [IntKind.wrap_u8', UInt8.toNat_add]
    show _ = (((x.toNat + y.toNat) % 256 : Nat) : Int)
    omega
  unfold bv
  go_simp
theorem i_mulP {k m r : Nat} (e : k * m = r) (h : r ≤ 9223372036854775807) (p q : Operand) (W : World) : (do eqGuard .mul 3 p q (.int .i64 (k : Int)) (.int .i64 (m : Int)); binOp .mul 3 (.int .i64 (k : Int)) (.int .i64 (m : Int)) : Sem Value).run Try.prog W = .ok (.int .i64 (r : Int)) W := by
  subst e
  have e : IntKind.i64.wrap ((k : Int) * (m : Int)) = ((k * m : Nat) : Int) := by
    rw [← Int.natCast_mul]
    exact IntWalk.i64_in _ (by omega)
  go_simp
/-- The first k of a row that is being filled. -/
def tkF (f g : Nat → UInt8) (k i : Nat) : UInt8 := if i < k then f i else g i
theorem tk_0 (f g : Nat → UInt8) : tkF f g 0 = g := funext fun i => if_neg (by omega)
theorem tk_all {n : Nat} (f g : Nat → UInt8) : rb n (tkF f g n) = rb n f := rb_ext fun i hi => if_pos hi
theorem tk_get {n k : Nat} (h : k < n) (f g : Nat → UInt8) : (bvs (rb n (tkF f g k)))[k]? = some (bv (g k)) := by
  rw [bvs_get, rb_get h]
  unfold tkF
  rw [if_neg (by omega)]
  rfl
theorem tk_set {n k : Nat} (h : k < n) (f g : Nat → UInt8) : setV (bvs (rb n (tkF f g k))) k [bv (f k)] = bvs (rb n (tkF f g (k + 1))) := by
  have e : (rb n (tkF f g k)).set k (f k) = rb n (tkF f g (k + 1)) := by
    apply List.ext_getElem?
    intro i
    rw [List.getElem?_set]
    by_cases hi : i < n
    · rw [rb_get hi, rb_get hi, rb_len]
      unfold tkF
      by_cases e : k = i
      · subst e
        rw [if_pos rfl, if_pos h, if_pos (by omega)]
      · rw [if_neg e]
        by_cases h2 : i < k
        · rw [if_pos h2, if_pos (by omega)]
        · rw [if_neg h2, if_neg (by omega)]
    · rw [if_neg (by omega), List.getElem?_eq_none (by rw [rb_len]; omega), List.getElem?_eq_none (by rw [rb_len]; omega)]
  rw [← e]
  exact bvs_set _ k (f k)
def fillB (x : UInt8) : List UInt8 := rb 512 (fun _ => x)
def blkB (x : UInt8) (n : Nat) : List UInt8 := rb n (fun i => x + UInt8.ofNat i)
theorem fill_len (x : UInt8) : (fillB x).length = 512 := rb_len _ _
theorem blk_len (x : UInt8) (n : Nat) : (blkB x n).length = n := rb_len _ _
theorem ia_b {g o j n c : Nat} (hj : j < n) (W : World) : (Instr.indexAt 39 (.slice (some ⟨g, o, none⟩) n c) (.int .i64 (j : Int))).run Try.prog W = .ok (.pointer (some ⟨g, o + j, none⟩)) W := by
  have h1 : (0 : Int) ≤ (j : Int) := by omega
  have h2 : (j : Int) < (n : Int) := by omega
  go_simp
theorem ia_b0 {g j n c : Nat} (hj : j < n) (W : World) : (Instr.indexAt 39 (.slice (some ⟨g, 0, none⟩) n c) (.int .i64 (j : Int))).run Try.prog W = .ok (.pointer (some ⟨g, j, none⟩)) W := by
  have h := @ia_b g 0 j n c hj W
  rwa [Nat.zero_add] at h
/-- What a call makes that is a row of its own is told from now on. -/
theorem kn_new {w0 w w' : World} {h : Hep} {g : Nat} {t : Tid} {cs : Array Value} (K : Kn w0 w h) (hb : Below w.heap.size w w') (hg : w.heap.size ≤ g) (hB : Blk w' g t cs) : Kn w0 w' ((g, t, cs) :: h) := by
  have hlt : ∀ q ∈ h, q.1 < w.heap.size := fun q hq => (K.heap q hq).lt
  refine ⟨K.below.trans (hb.mono K.below.size), fun p hp => ?_, fun p hp => ?_, List.pairwise_cons.2 ⟨fun q hq => Nat.ne_of_gt (Nat.lt_of_lt_of_le (hlt q hq) hg), K.apart⟩⟩
  · rcases List.mem_cons.1 hp with rfl | hp
    · exact hB
    · exact (K.heap p hp).below hb (hlt p hp)
  · rcases List.mem_cons.1 hp with rfl | hp
    · exact Nat.le_trans K.below.size hg
    · exact K.own p hp
theorem St.dropR {n : Nat} {w0 w : World} {a : Act} {e : Env} {h r T : Hep} (H : St n w0 a w e (h ++ (r ++ T))) : St n w0 a w e (h ++ T) := H.sub (fun _ h => h) (fun p hp => by
  rcases List.mem_append.1 hp with hp | hp
  · exact List.mem_append_left _ hp
  · exact List.mem_append_right _ (List.mem_append_right _ hp)) (H.apart.sublist ((List.sublist_append_right r T).append_left h))
theorem sl_bf {W : World} {g : Nat} {t : TypeId} {n : Nat} {b : List UInt8} (hl : b.length = n) (h : Blk W g t (bvs b)) : BF b (.slice (some ⟨g, 0, none⟩) n n) W := ⟨_, _, _, rfl, BS.ofBlk h n hl.symm _ h.lt⟩
theorem Kn.none (w : World) : Kn w w ([] : Hep) := ⟨Below.refl _ _, fun p hp => (by cases hp), fun p hp => (by cases hp), List.Pairwise.nil⟩
section
variable {P : Program} {n : Nat} {w0 w w' : World} {a : Act} {e : Env} {h : Hep} {Q : Exit → Act → World → Prop} {ops : Array Oper} {o : Oper}
theorem made_bytes {x y : Operand} {n' : Nat} {m : Nat} (ho : o.op = .makeSlice 39 x y) (hx : sev e x = some (.int .i64 (m : Int))) (hy : sev e y = some (.int .i64 (m : Int))) (hm : m ≤ 281474976710656) : ∀ a w, St n' w0 a w e h → (execOp a.eval o).run Try.prog w = .ok (.value ((fun g => .slice (some ⟨g, 0, none⟩) m m) w.heap.size)) (w.alloc (.cells (bvs (rb m (fun _ => 0))) 5)) := fun a w H => by
  unfold execOp
  simp only [ho, H.ev hx, H.ev hy, Sem.run_bind, run_mkb (P := Try.prog) 39 5 Try.underlying39 u8_info m hm w, Result.andThen_ok, Sem.run_pure, zeros_rb]
theorem ob_strP {x : Operand} {v : Value} {l : List UInt8} (H : St n w0 a w e h) (hw : ∀ a w, St n w0 a w e h → Region.wanted o (yielded ops a.tmps) = true) (ho : o.op = .convert 39 9 x) (hx : sev e x = some v) (hv : BF l v w) :
    ObS Try.prog ops Q o a w (fun u _ => u = .string (strB l)) := by
  obtain ⟨A, k, c, rfl, hb⟩ := hv
  have hs := run_str (P := Try.prog) hb 39 5 9 Try.underlying39 Try.underlying5 Try.underlying9
  refine ob_runR H hw ⟨_, w, ?_, Below.refl _ _, rfl⟩
  simp [execOp, ho, H.ev hx, hs, Result.andThen]
end
theorem sd_neqP {l m : List UInt8} {b : Bool} (h : decide (l ≠ m) = b) (p q : Operand) (W : World) : (do eqGuard .neq 9 p q (.string (strB l)) (.string (strB m)); binOp .neq 9 (.string (strB l)) (.string (strB m)) : Sem Value).run Try.prog W = .ok (.bool b) W := by
  go_simp
  rw [strB_toList, strB_toList, ← h, decide_not]
  congr 1
  rw [Bool.eq_iff_iff]
  simp
/-! The chapter's rows. -/
def wantK (k : Nat) : List UInt8 := rb 512 (fun i => if i < 2 * k then 9 else 7)
def kd0 : Dk := ⟨[zeroB, zeroB], [], -1, false⟩
def kd1 : Dk := ⟨[zeroB, zeroB], [(0, fillB 7)], -1, false⟩
def kd2 : Dk := ⟨[fillB 7, zeroB], [], -1, false⟩
def kd3 : Dk := ⟨[fillB 7, zeroB], [(0, fillB 9)], -1, false⟩
theorem kd_0 : dNew 2 = kd0 := rfl
theorem kd_w (x : UInt8) (D : Dk) (hB : D.B.length = 2) (hf : D.fuse = -1) (hd : D.dead = false) : dWrite D 0 (fillB x) = ({ D with L := D.L ++ [(0, fillB x)] }, 0) := by
  have e : dStep D = (D, 0) := by
    unfold dStep
    rw [if_neg (by rw [hd]; decide), if_neg (by rw [hf]; decide), if_neg (by rw [hf]; decide)]
  unfold dWrite hasB
  rw [if_pos ⟨⟨Int.le_refl 0, by rw [hB]; decide⟩, fill_len x⟩, e, if_neg (by decide : ¬ (0 : Int) = 14)]
  rfl
theorem kd_1 : dWrite kd0 0 (fillB 7) = (kd1, 0) := kd_w 7 kd0 rfl rfl rfl
theorem kd_2 : dSync kd1 = (kd2, 0) := rfl
theorem kd_3 : dWrite kd2 0 (fillB 9) = (kd3, 0) := kd_w 9 kd2 rfl rfl rfl
theorem kd_4 {k : Nat} (hk : k < 2) : readB (dCrash kd3 [((8 * k : Nat) : Int)]) 0 = wantK k := by
  obtain rfl | rfl : k = 0 ∨ k = 1 := by omega
  · show fillB 7 = wantK 0
    exact rb_ext fun i hi => (if_neg (by omega)).symm
  · have e : readB (dCrash kd3 [((8 * 1 : Nat) : Int)]) 0 = tornB 2 (fillB 9) (fillB 7) := rfl
    rw [e]
    apply List.ext_getElem?
    intro i
    unfold tornB wantK fillB
    by_cases hi : i < 512
    · rw [rb_get hi]
      by_cases h2 : i < 2
      · rw [List.getElem?_append_left (by simp [rb_len]; omega), List.getElem?_take, if_pos h2, rb_get hi, if_pos (by omega)]
      · rw [List.getElem?_append_right (by simp [rb_len]; omega), List.getElem?_drop, List.length_take, rb_len, Nat.min_eq_left (by omega), show 2 + (i - 2) = i by omega, rb_get hi, if_neg (by omega)]
    · rw [List.getElem?_eq_none (by simp [rb_len]; omega), List.getElem?_eq_none (by rw [rb_len]; omega)]
theorem want_len (k : Nat) : (wantK k).length = 512 := rb_len _ _
attribute [local irreducible] bvs dwa entsI zeroB lastsB stepP lastN xorB bv rb
set_option maxHeartbeats 4000000 in
theorem num_any (n : Int) (w : World) : Calls Try.prog 13 #[.int .i64 n] w (fun rr w' => rr = .returned (.int .i64 n) ∧ Below w.heap.size w w') := by
  refine calls_st (vs := [.int .i64 n]) 4 Try.func13 rfl Try.ntmps13 rfl (fun a W H => ?_)
  replace H : St 4 w a W [(0, .int .i64 n)] [] := H
  refine sqR H gs0 fun Z_ z_ => rS 1 rfl <| rN0 z_ ?_
  try clear H a W
  intro a W H
  refine sqR H gs0 fun Z_ z_ => rS 1 rfl <| rK [1, 0] [] [] <| rS 1 rfl <| rK [1, 0, 0] [] [] <| rN0 z_ ?_
  try clear H a W
  intro a W H
  refine wp_ret ?_
  repeat (first | (with_reducible refine then_ret ?_) | (with_reducible refine blk_ret ?_))
  refine end_tmp (p := 2) rfl rfl H (fun hb => ?_)
  exact ⟨rfl, hb⟩
set_option maxHeartbeats 4000000 in
theorem fill_new (x : UInt8) (w : World) : Calls Try.prog 29 #[bv x] w (fun rr w' => ∃ g, rr = .returned (.slice (some ⟨g, 0, none⟩) 512 512) ∧ Below w.heap.size w w' ∧ w.heap.size ≤ g ∧ Blk w' g (.ty 5) (bvs (fillB x))) := by
  refine calls_st (vs := [bv x]) 17 Try.func29 rfl Try.ntmps29 rfl (fun a W H => ?_)
  replace H : St 17 w a W [(0, bv x)] [] := H
  refine sqR H gs0 fun Z_ z_ => rS 1 rfl <| rN0 z_ ?_
  try clear H a W
  intro a W H
  refine sqR H gs0 fun Z_ z_ => rM (F := fun g => .slice (some ⟨g, 0, none⟩) 512 512) rfl (made_bytes (m := 512) rfl rfl rfl (by omega)) fun g1 => rS 1 rfl <| rK [1, 0] [] [] <| rN0 z_ ?_
  try clear H a W
  intro a W H
  refine wp_seq_k (fun K3 hK3 => ?_)
  refine sqR H gs0 fun Z_ z_ => rS 1 rfl <| rN0 z_ ?_
  try clear H a W
  intro a W H
  refine wp_block ?_
  rw [show rb 512 b0s = rb 512 (tkF (fun _ => x) b0s 0) by rw [tk_0]] at H
  replace H : St 17 w a W [(4, .int .i64 ((0 : Nat) : Int)), (3, .slice (some ⟨g1, 0, none⟩) 512 512), (2, .slice none 0 0), (0, bv x)] [(g1, 5, bvs (rb 512 (tkF (fun _ => x) b0s 0)))] := H.pick [0, 1, 2, 3] [0] rfl
  refine wp_rounds 512 (fun k a W => St 17 w a W [(4, .int .i64 ((k : Nat) : Int)), (3, .slice (some ⟨g1, 0, none⟩) 512 512), (2, .slice none 0 0), (0, bv x)] [(g1, 5, bvs (rb 512 (tkF (fun _ => x) b0s k)))]) (k0 := 0) H (by omega) ?_
  try clear H a W
  intro k a W hk H
  by_cases hk2 : k < 512
  · refine wp_seq_k (fun K5 hK5 => ?_)
    refine sqR H gs0 fun Z_ z_ => rS 2 rfl <| rV rfl (does_len Try.underlying39 rfl rfl) <| rV rfl (does_binOp rfl rfl rfl (zd_lss_int (k := ((k : Nat) : Int)) (m := ((512 : Nat) : Int)) (decide_eq_true (by omega)) _ _)) <| rN0 z_ ?_
    try clear H a W
    intro a W H
    refine wp_cond_true (H.ev rfl) ?_
    refine wp_skip ?_
    refine hK5 _ _ ?_
    clear hK5
    refine wp_seq_k (fun K7 hK7 => ?_)
    refine wp_block ?_
    refine rgP H gs0 (rS 3 rfl <| rV rfl (does_indexAddr rfl rfl rfl (ia_b0 (j := k) (by omega))) <| rX [1] (c := bvs (rb 512 (tkF (fun _ => x) b0s (k + 1)))) ⟨rfl, rfl⟩ rfl rfl rfl (st_u8t (tk_get (by omega) (fun _ => x) b0s)) (tk_set (by omega) (fun _ => x) b0s) <| rZ0 ?_)
    try clear H a W
    intro a W H
    refine blk_normal ?_
    refine hK7 _ _ ?_
    clear hK7
    refine rgP H gs0 (rS 1 rfl <| rV rfl (does_binOp rfl rfl rfl (zd_add_int (k := ((k : Nat) : Int)) (m := 1) (c := ((k + 1 : Nat) : Int)) (by omega) (by omega) _ _)) <| rK [1, 1, 1, 1, 1, 1, 1, 1, 1, 1, 0] [] [] <| rS 1 rfl <| rZ0 ?_)
    try clear H a W
    intro a W H
    refine ⟨k + 1, by omega, by omega, ?_⟩
    show St 17 w a W [(4, .int .i64 ((k + 1 : Nat) : Int)), (3, .slice (some ⟨g1, 0, none⟩) 512 512), (2, .slice none 0 0), (0, bv x)] [(g1, 5, bvs (rb 512 (tkF (fun _ => x) b0s (k + 1))))]
    exact H.pick [0, 11, 12, 13] [0] rfl
  · obtain rfl : 512 = k := by omega
    refine wp_seq_k (fun K8 hK8 => ?_)
    refine sqR H gs0 fun Z_ z_ => rS 2 rfl <| rV rfl (does_len Try.underlying39 rfl rfl) <| rV rfl (does_binOp rfl rfl rfl (zd_lss_int (k := ((512 : Nat) : Int)) (m := ((512 : Nat) : Int)) (decide_eq_false (by omega)) _ _)) <| rK [1, 0, 0, 0] [] [] <| rN0 z_ ?_
    try clear H a W
    intro a W H
    refine wp_cond_false (H.ev rfl) ?_
    refine wp_exit ?_
    repeat (first | (with_reducible refine then_exit ?_) | (with_reducible refine blk_pass (by decide) ?_))
    refine blk_exit ?_
    refine hK3 _ _ ?_
    clear hK3
    refine sqR H gs0 fun Z_ z_ => rS 1 rfl <| rK [1, 1, 1, 1, 0] [] [] <| rS 1 rfl <| rK [1, 0, 0, 0, 0, 0] [] [] <| rN0 z_ ?_
    try clear H a W
    intro a W H
    refine wp_ret ?_
    repeat (first | (with_reducible refine then_ret ?_) | (with_reducible refine blk_ret ?_))
    refine end_tmp (p := 2) rfl rfl H (fun hb => ?_)
    rw [tk_all] at H
    refine ⟨g1, rfl, hb, H.own _ (List.mem_singleton.2 rfl), H.blk (k := 0) rfl⟩
set_option maxHeartbeats 4000000 in
theorem block_new (x : UInt8) (n : Nat) (hn : n ≤ 100000) (w : World) : Calls Try.prog 33 #[bv x, .int .i64 ((n : Nat) : Int)] w (fun rr w' => ∃ g, rr = .returned (.slice (some ⟨g, 0, none⟩) n n) ∧ Below w.heap.size w w' ∧ w.heap.size ≤ g ∧ Blk w' g (.ty 5) (bvs (blkB x n))) := by
  refine calls_st (vs := [bv x, .int .i64 ((n : Nat) : Int)]) 22 Try.func33 rfl Try.ntmps33 rfl (fun a W H => ?_)
  replace H : St 22 w a W [(0, bv x), (1, .int .i64 ((n : Nat) : Int))] [] := H
  refine sqR H gs0 fun Z_ z_ => rS 1 rfl <| rN0 z_ ?_
  try clear H a W
  intro a W H
  refine sqR H gs0 fun Z_ z_ => rS 1 rfl <| rM (F := fun g => .slice (some ⟨g, 0, none⟩) n n) rfl (made_bytes (m := n) rfl rfl rfl (by omega)) fun g1 => rS 1 rfl <| rK [1, 0, 0] [] [] <| rN0 z_ ?_
  try clear H a W
  intro a W H
  refine wp_seq_k (fun K3 hK3 => ?_)
  refine sqR H gs0 fun Z_ z_ => rS 1 rfl <| rN0 z_ ?_
  try clear H a W
  intro a W H
  refine wp_block ?_
  rw [show rb n b0s = rb n (tkF (fun i => x + UInt8.ofNat i) b0s 0) by rw [tk_0]] at H
  replace H : St 22 w a W [(6, .int .i64 ((0 : Nat) : Int)), (5, .slice (some ⟨g1, 0, none⟩) n n), (4, .slice none 0 0), (0, bv x), (1, .int .i64 ((n : Nat) : Int))] [(g1, 5, bvs (rb n (tkF (fun i => x + UInt8.ofNat i) b0s 0)))] := H.pick [0, 1, 2, 3, 4] [0] rfl
  refine wp_rounds n (fun k a W => St 22 w a W [(6, .int .i64 ((k : Nat) : Int)), (5, .slice (some ⟨g1, 0, none⟩) n n), (4, .slice none 0 0), (0, bv x), (1, .int .i64 ((n : Nat) : Int))] [(g1, 5, bvs (rb n (tkF (fun i => x + UInt8.ofNat i) b0s k)))]) (k0 := 0) H (by omega) ?_
  try clear H a W
  intro k a W hk H
  by_cases hk2 : k < n
  · refine wp_seq_k (fun K5 hK5 => ?_)
    refine sqR H gs0 fun Z_ z_ => rS 2 rfl <| rV rfl (does_binOp rfl rfl rfl (zd_lss_int (k := ((k : Nat) : Int)) (m := ((n : Nat) : Int)) (decide_eq_true (by omega)) _ _)) <| rN0 z_ ?_
    try clear H a W
    intro a W H
    refine wp_cond_true (H.ev rfl) ?_
    refine wp_skip ?_
    refine hK5 _ _ ?_
    clear hK5
    refine wp_seq_k (fun K7 hK7 => ?_)
    refine wp_block ?_
    refine rgP H gs0 (rS 4 rfl <| rV rfl (does_convert rfl rfl (cv_ib k)) <| rV rfl (does_binOp rfl rfl rfl (b_addP x (UInt8.ofNat k) _ _)) <| rV rfl (does_indexAddr rfl rfl rfl (ia_b0 (j := k) (by omega))) <| rX [1] (c := bvs (rb n (tkF (fun i => x + UInt8.ofNat i) b0s (k + 1)))) ⟨rfl, rfl⟩ rfl rfl rfl (st_u8t (tk_get (by omega) (fun i => x + UInt8.ofNat i) b0s)) (tk_set (by omega) (fun i => x + UInt8.ofNat i) b0s) <| rZ0 ?_)
    try clear H a W
    intro a W H
    refine blk_normal ?_
    refine hK7 _ _ ?_
    clear hK7
    refine rgP H gs0 (rS 1 rfl <| rV rfl (does_binOp rfl rfl rfl (zd_add_int (k := ((k : Nat) : Int)) (m := 1) (c := ((k + 1 : Nat) : Int)) (by omega) (by omega) _ _)) <| rK [1, 1, 1, 1, 1, 1, 1, 1, 1, 1, 1, 1, 0] [] [] <| rS 1 rfl <| rZ0 ?_)
    try clear H a W
    intro a W H
    refine ⟨k + 1, by omega, by omega, ?_⟩
    show St 22 w a W [(6, .int .i64 ((k + 1 : Nat) : Int)), (5, .slice (some ⟨g1, 0, none⟩) n n), (4, .slice none 0 0), (0, bv x), (1, .int .i64 ((n : Nat) : Int))] [(g1, 5, bvs (rb n (tkF (fun i => x + UInt8.ofNat i) b0s (k + 1))))]
    exact H.pick [0, 13, 14, 15, 16] [0] rfl
  · obtain rfl : n = k := by omega
    refine wp_seq_k (fun K8 hK8 => ?_)
    refine sqR H gs0 fun Z_ z_ => rS 2 rfl <| rV rfl (does_binOp rfl rfl rfl (zd_lss_int (k := ((n : Nat) : Int)) (m := ((n : Nat) : Int)) (decide_eq_false (by omega)) _ _)) <| rK [1, 0, 0, 1, 1, 1, 1, 0] [] [] <| rN0 z_ ?_
    try clear H a W
    intro a W H
    refine wp_cond_false (H.ev rfl) ?_
    refine wp_exit ?_
    repeat (first | (with_reducible refine then_exit ?_) | (with_reducible refine blk_pass (by decide) ?_))
    refine blk_exit ?_
    refine hK3 _ _ ?_
    clear hK3
    refine sqR H gs0 fun Z_ z_ => rS 1 rfl <| rK [1, 1, 1, 1, 0] [] [] <| rS 1 rfl <| rK [1, 0, 0, 0, 0, 0] [] [] <| rN0 z_ ?_
    try clear H a W
    intro a W H
    refine wp_ret ?_
    repeat (first | (with_reducible refine then_ret ?_) | (with_reducible refine blk_ret ?_))
    refine end_tmp (p := 4) rfl rfl H (fun hb => ?_)
    rw [tk_all] at H
    refine ⟨g1, rfl, hb, H.own _ (List.mem_singleton.2 rfl), H.blk (k := 0) rfl⟩
theorem fill_K {w0 w : World} {h : Hep} (x : UInt8) (K : Kn w0 w h) : Calls Try.prog 29 #[bv x] w (fun rr w' => ∃ g : Nat, rr = .returned (.slice (some ⟨g, 0, none⟩) 512 512) ∧ True ∧ Kn w0 w' ((g, .ty 5, bvs (fillB x)) :: h)) := by
  refine (fill_new x w).mono ?_
  rintro rr w' ⟨g, e, hb, hg, hB⟩
  exact ⟨g, e, trivial, kn_new K hb hg hB⟩
theorem block_K {w0 w : World} {h : Hep} (x : UInt8) (n : Nat) (hn : n ≤ 100000) (K : Kn w0 w h) : Calls Try.prog 33 #[bv x, .int .i64 ((n : Nat) : Int)] w (fun rr w' => ∃ g : Nat, rr = .returned (.slice (some ⟨g, 0, none⟩) n n) ∧ True ∧ Kn w0 w' ((g, .ty 5, bvs (blkB x n)) :: h)) := by
  refine (block_new x n hn w).mono ?_
  rintro rr w' ⟨g, e, hb, hg, hB⟩
  exact ⟨g, e, trivial, kn_new K hb hg hB⟩
theorem PK.nil (w0 : World) (hh : Hep) : PK w0 hh none 0 [] := ⟨rfl, fun x hx => (by cases hx), ⟨0, 0, fun h => absurd h (by decide)⟩⟩
end Go.Proofs.Ytiebelmglchbdaa
