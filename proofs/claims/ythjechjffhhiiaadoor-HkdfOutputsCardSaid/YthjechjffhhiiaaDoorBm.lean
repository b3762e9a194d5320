/- Package blake purely, its rows (the message, the state) and its two variables; operations on them. -/
import Derived.Test.YthjechjffhhiiaaDoorBe
import Derived.Test.YthjechjffhhiiaaDoorZd
import Derived.Test.YthjechjffhhiiaaDoorQe
import Derived.Deep.MidRow
import Derived.Lib.SliceRun
namespace Go.Proofs.YthjechjffhhiiaaDoor
set_option linter.unusedVariables false
set_option linter.unusedSimpArgs false
set_option maxRecDepth 100000
open Go Go.RowKit

/-! Purely. -/
/-- Half a mix. -/
def halfB (f : Wd) (a b c d : Nat) (x : UInt32) (r s : Nat) : Wd :=
  let f1 := upd f a (f a + (f b + x))
  let f2 := upd f1 d (rorW (f1 d ^^^ f1 a) r)
  let f3 := upd f2 c (f2 c + f2 d)
  upd f3 b (rorW (f3 b ^^^ f3 c) s)
theorem half_half (f : Wd) (a b c d : Nat) (x y : UInt32) : halfB (halfB f a b c d x 16 12) a b c d y 8 7 = mixB f a b c d x y := by
  unfold halfB mixB
  simp only [UInt32.add_assoc]
/-- A block's words. -/
def wordsB (B : Nat → UInt8) : Wd := fun i => leW (B (4 * i)) (B (4 * i + 1)) (B (4 * i + 2)) (B (4 * i + 3))
theorem words_bl (l : List UInt8) (d : Nat) : wordsB (blB l d) = blW l d := rfl
/-- The words, while bytes are put into them. -/
def wrK (B : Nat → UInt8) : Nat → Wd
  | 0 => w0s
  | k + 1 => upd (wrK B k) (k / 4) (wrK B k (k / 4) ||| shlW (byteW (B k)) (8 * (k % 4)))
theorem wrK_step (B : Nat → UInt8) {i j : Nat} (hj : j < 4) : upd (wrK B (4 * i + j)) i (wrK B (4 * i + j) i ||| shlW (byteW (B (4 * i + j))) (8 * j)) = wrK B (4 * i + (j + 1)) := by
  show _ = upd (wrK B (4 * i + j)) ((4 * i + j) / 4) (wrK B (4 * i + j) ((4 * i + j) / 4) ||| shlW (byteW (B (4 * i + j))) (8 * ((4 * i + j) % 4)))
  rw [show (4 * i + j) / 4 = i by omega, show (4 * i + j) % 4 = j by omega]
theorem or_0B (x : UInt32) : 0 ||| x = x := by simp
theorem wrK_all (B : Nat → UInt8) : wv (wrK B 64) = wv (wordsB B) := wv_ext fun i hi => by
  have h : ∀ a b c d : UInt32, (((0 ||| a) ||| b) ||| c) ||| d = ((a ||| b) ||| c) ||| d := fun a b c d => by rw [or_0B]
  rcases i with _ | _ | _ | _ | _ | _ | _ | _ | _ | _ | _ | _ | _ | _ | _ | _ | i <;> first | exact h _ _ _ _ | exact absurd hi (by omega)
theorem pK_step8 (h : Wd) {k : Nat} (hk : k < 8) : upd (upd (pK h k) k (h k)) (k + 8) (ivB k) = pK h (k + 1) := by
  rw [Nat.add_comm k 8]
  exact pK_step h hk
/-- The state ahead of the rounds, as the program comes to it. -/
def tB (h : Wd) (t : Nat) : Wd := upd (upd (vB h) 12 (vB h 12 ^^^ UInt32.ofNat t)) 13 ((upd (vB h) 12 (vB h 12 ^^^ UInt32.ofNat t)) 13 ^^^ UInt32.ofNat (t / 4294967296))
theorem tB_true (h : Wd) (t : Nat) : wv (upd (tB h t) 14 (~~~ (tB h t 14))) = wv (preB h t true) := wv_ext fun i hi => by
  rcases i with _ | _ | _ | _ | _ | _ | _ | _ | _ | _ | _ | _ | _ | _ | _ | _ | i <;> first | rfl | exact absurd hi (by omega)
theorem tB_false (h : Wd) (t : Nat) : wv (tB h t) = wv (preB h t false) := wv_ext fun i hi => by
  rcases i with _ | _ | _ | _ | _ | _ | _ | _ | _ | _ | _ | _ | _ | _ | _ | _ | i <;> first | rfl | exact absurd hi (by omega)
theorem post_at8 (h v : Wd) (k : Nat) : postB h v k = (h k ^^^ (v k ^^^ v (k + 8))) := by
  show (h k ^^^ v k) ^^^ v (8 + k) = _
  rw [UInt32.xor_assoc, Nat.add_comm 8 k]
theorem pre_eqB {h : Wd} {t : Nat} {b : Bool} {f : Wd} (e : wv f = wv (preB h t b)) : ∀ i, i < 16 → f i = preB h t b i := fun i hi => by
  have h1 := congrArg (fun v : Array Value => v[i]?) e
  simp only [wv_get _ hi] at h1
  injection h1 with h1
  unfold wc at h1
  injection h1 with _ h1
  exact UInt32.toNat_inj.1 (by omega)
/-! What came so far: q bytes of l. -/
/-- The state behind d blocks of which none is the last one. -/
def npB (l : List UInt8) : Nat → Wd
  | 0 => h0B
  | d + 1 => postB (npB l d) (mixR (blW l d) (preB (npB l d) (64 * d + 64) false) 10)
def dB (q : Nat) : Nat := (q - 1) / 64
def bkB (l : List UInt8) (q : Nat) : Nat → UInt8 := fun i => bif Nat.blt i (q - 64 * dB q) then l.getD (64 * dB q + i) 0 else bif Nat.beq (dB q) 0 then 0 else l.getD (64 * (dB q - 1) + i) 0
/-- A message's row: the state, the block, how many of it wait, how many bytes. -/
def msg (h : Wd) (b : Nat → UInt8) (n t : Nat) : Array Value := ((List.range 74).map (fun i => bif Nat.blt i 8 then wc (h i) else bif Nat.blt i 72 then bv (b (i - 8)) else bif Nat.blt i 73 then .int .i64 (n : Int) else un t)).toArray
def mQ (l : List UInt8) (q : Nat) : Array Value := msg (npB l (dB q)) (bkB l q) (q - 64 * dB q) q
theorem msg_size (h : Wd) (b : Nat → UInt8) (n t : Nat) : (msg h b n t).size = 74 := by simp [msg]
theorem msg_get (h : Wd) (b : Nat → UInt8) (n t : Nat) {i : Nat} (hi : i < 74) : (msg h b n t)[i]? = some (bif Nat.blt i 8 then wc (h i) else bif Nat.blt i 72 then bv (b (i - 8)) else bif Nat.blt i 73 then .int .i64 (n : Int) else un t) := by simp [msg, hi]
theorem msg_w (h : Wd) (b : Nat → UInt8) (n t : Nat) {i : Nat} (hi : i < 8) : (msg h b n t)[i]? = some (wc (h i)) := by
  rw [msg_get _ _ _ _ (by omega), bltY hi, cond_true]
theorem msg_b (h : Wd) (b : Nat → UInt8) (n t : Nat) {i : Nat} (hi : i < 64) : (msg h b n t)[8 + i]? = some (bv (b i)) := by
  rw [msg_get _ _ _ _ (by omega), bltN (show 8 ≤ 8 + i by omega), cond_false, bltY (show 8 + i < 72 by omega), cond_true, show 8 + i - 8 = i by omega]
theorem msg_n (h : Wd) (b : Nat → UInt8) (n t : Nat) : (msg h b n t)[72]? = some (.int .i64 (n : Int)) := by
  rw [msg_get _ _ _ _ (by omega)]
  rfl
theorem msg_t (h : Wd) (b : Nat → UInt8) (n t : Nat) : (msg h b n t)[73]? = some (un t) := by
  rw [msg_get _ _ _ _ (by omega)]
  rfl
theorem msg_one (h : Wd) (b : Nat → UInt8) (n t : Nat) : (msg h b n t).all (·.oneCell') = true := by
  rw [Array.all_eq_true']
  intro x hx
  simp only [msg, List.mem_toArray, List.mem_map] at hx
  obtain ⟨i, _, rfl⟩ := hx
  cases Nat.blt i 8 with
  | true => rfl
  | false => cases Nat.blt i 72 with
    | true => rfl
    | false => cases Nat.blt i 73 <;> rfl
theorem msg_ext {h h' : Wd} {b b' : Nat → UInt8} (n t : Nat) (e1 : ∀ i, i < 8 → h i = h' i) (e2 : ∀ i, i < 64 → b i = b' i) : msg h b n t = msg h' b' n t := by
  unfold msg
  congr 1
  refine List.map_congr_left fun i hi => ?_
  have hi := List.mem_range.1 hi
  rcases Nat.lt_or_ge i 8 with h1 | h1
  · rw [bltY h1, cond_true, cond_true, e1 i h1]
  · rw [bltN h1, cond_false, cond_false]
    rcases Nat.lt_or_ge i 72 with h2 | h2
    · rw [bltY h2, cond_true, cond_true, e2 _ (by omega)]
    · rw [bltN h2, cond_false, cond_false]
/-- A row of which some are set is one whose cells are told. -/
theorem setV_size : ∀ (vs : List Value) (cs : Array Value) (o : Nat), (setV cs o vs).size = cs.size
  | [], _, _ => rfl
  | v :: r, cs, o => by
    show (setV (cs.setIfInBounds o v) (o + 1) r).size = _
    rw [setV_size r, Array.size_setIfInBounds]
theorem setV_get : ∀ (vs : List Value) (cs : Array Value) (o i : Nat), o + vs.length ≤ cs.size → (setV cs o vs)[i]? = if o ≤ i ∧ i < o + vs.length then vs[i - o]? else cs[i]?
  | [], cs, o, i, _ => by
    rw [if_neg (by simp)]
    rfl
  | v :: r, cs, o, i, h => by
    show (setV (cs.setIfInBounds o v) (o + 1) r)[i]? = _
    simp only [List.length_cons] at h ⊢
    rw [setV_get r _ _ _ (by rw [Array.size_setIfInBounds]; omega)]
    by_cases h1 : o + 1 ≤ i ∧ i < o + 1 + r.length
    · rw [if_pos h1, if_pos (by omega), show i - o = (i - (o + 1)) + 1 by omega]
      rfl
    · rw [if_neg h1]
      by_cases h2 : i = o
      · subst h2
        rw [if_pos (by omega), Nat.sub_self, Array.getElem?_setIfInBounds_self_of_lt (by omega)]
        rfl
      · rw [if_neg (by omega), Array.getElem?_setIfInBounds_ne (Ne.symm h2)]
theorem msg_of {cs : Array Value} {h : Wd} {b : Nat → UInt8} {n t : Nat} (hs : cs.size = 74) (h1 : ∀ i, i < 8 → cs[i]? = some (wc (h i))) (h2 : ∀ i, i < 64 → cs[8 + i]? = some (bv (b i))) (h3 : cs[72]? = some (.int .i64 (n : Int))) (h4 : cs[73]? = some (un t)) : cs = msg h b n t := by
  apply Array.ext_getElem?
  intro i
  rcases Nat.lt_or_ge i 8 with a | a
  · rw [h1 i a, msg_w _ _ _ _ a]
  · rcases Nat.lt_or_ge i 72 with a2 | a2
    · rw [show i = 8 + (i - 8) by omega, h2 _ (by omega), msg_b _ _ _ _ (by omega)]
    · rcases Nat.lt_or_ge i 74 with a3 | a3
      · obtain rfl | rfl : i = 72 ∨ i = 73 := by omega
        · rw [h3, msg_n]
        · rw [h4, msg_t]
      · rw [Array.getElem?_eq_none (by omega), Array.getElem?_eq_none (by rw [msg_size]; omega)]
theorem sv_msgW {h : Wd} {b : Nat → UInt8} {n t j : Nat} {x : UInt32} (hj : j < 8) : setV (msg h b n t) j [wc x] = msg (upd h j x) b n t := by
  have hg := setV_get [wc x] (msg h b n t) j
  refine msg_of (by rw [setV_size, msg_size]) (fun i hi => ?_) (fun i hi => ?_) ?_ ?_
  · rw [hg _ (by rw [msg_size]; simp; omega)]
    by_cases e : i = j
    · subst e
      rw [if_pos (by simp), Nat.sub_self, upd_self]
      rfl
    · rw [if_neg (by simp; omega), upd_ne e, msg_w _ _ _ _ hi]
  · rw [hg _ (by rw [msg_size]; simp; omega), if_neg (by simp; omega), msg_b _ _ _ _ hi]
  · rw [hg _ (by rw [msg_size]; simp; omega), if_neg (by simp; omega), msg_n]
  · rw [hg _ (by rw [msg_size]; simp; omega), if_neg (by simp; omega), msg_t]
theorem wn_len (n : Nat) (f : Wd) : (wn n f).toList.length = n := by simp [wn]
theorem sv_msgS {h h' : Wd} {b : Nat → UInt8} {n t : Nat} : setV (msg h b n t) 0 (wn 8 h').toList = msg h' b n t := by
  have hg := setV_get (wn 8 h').toList (msg h b n t) 0
  refine msg_of (by rw [setV_size, msg_size]) (fun i hi => ?_) (fun i hi => ?_) ?_ ?_
  · rw [hg _ (by rw [msg_size, wn_len]; omega), if_pos (by rw [wn_len]; omega), Nat.sub_zero, Array.getElem?_toList, wn_get hi]
  · rw [hg _ (by rw [msg_size, wn_len]; omega), if_neg (by rw [wn_len]; omega), msg_b _ _ _ _ hi]
  · rw [hg _ (by rw [msg_size, wn_len]; omega), if_neg (by rw [wn_len]; omega), msg_n]
  · rw [hg _ (by rw [msg_size, wn_len]; omega), if_neg (by rw [wn_len]; omega), msg_t]
theorem sv_msgN {h : Wd} {b : Nat → UInt8} {n n' t : Nat} : setV (msg h b n t) 72 [.int .i64 (n' : Int)] = msg h b n' t := by
  have hg := setV_get [.int .i64 (n' : Int)] (msg h b n t) 72
  refine msg_of (by rw [setV_size, msg_size]) (fun i hi => ?_) (fun i hi => ?_) ?_ ?_
  · rw [hg _ (by rw [msg_size]; simp), if_neg (by simp; omega), msg_w _ _ _ _ hi]
  · rw [hg _ (by rw [msg_size]; simp), if_neg (by simp; omega), msg_b _ _ _ _ hi]
  · rw [hg _ (by rw [msg_size]; simp), if_pos (by simp)]
    rfl
  · rw [hg _ (by rw [msg_size]; simp), if_neg (by simp), msg_t]
theorem sv_msgT {h : Wd} {b : Nat → UInt8} {n t t' : Nat} : setV (msg h b n t) 73 [un t'] = msg h b n t' := by
  have hg := setV_get [un t'] (msg h b n t) 73
  refine msg_of (by rw [setV_size, msg_size]) (fun i hi => ?_) (fun i hi => ?_) ?_ ?_
  · rw [hg _ (by rw [msg_size]; simp), if_neg (by simp; omega), msg_w _ _ _ _ hi]
  · rw [hg _ (by rw [msg_size]; simp), if_neg (by simp; omega), msg_b _ _ _ _ hi]
  · rw [hg _ (by rw [msg_size]; simp), if_neg (by simp), msg_n]
  · rw [hg _ (by rw [msg_size]; simp), if_pos (by simp)]
    rfl
/-- Bytes onto the block, from the f-th one on. -/
theorem sp_msg {h : Wd} {b b' : Nat → UInt8} {n t f : Nat} {xs : List Value} (hf : f + xs.length ≤ 64) (h1 : ∀ i, f ≤ i → i < f + xs.length → xs[i - f]? = some (bv (b' i))) (h2 : ∀ i, i < 64 → (i < f ∨ f + xs.length ≤ i) → b i = b' i) :
    spliceA (msg h b n t) (8 + f) xs = msg h b' n t := by
  have hsz := msg_size h b n t
  have hg : ∀ i, (spliceA (msg h b n t) (8 + f) xs)[i]? = if 8 + f ≤ i ∧ i < 8 + f + xs.length then xs[i - (8 + f)]? else (msg h b n t)[i]? := fun i => by
    unfold spliceA
    rw [List.getElem?_toArray, List.append_assoc, List.getElem?_append, List.length_take, Array.length_toList, hsz]
    by_cases c1 : i < 8 + f
    · rw [if_pos (by omega), if_neg (by omega), List.getElem?_take, if_pos c1, Array.getElem?_toList]
    · rw [if_neg (by omega), show min (8 + f) 74 = 8 + f by omega, List.getElem?_append]
      by_cases c2 : i < 8 + f + xs.length
      · rw [if_pos (by omega), if_pos (by omega)]
      · rw [if_neg (by omega), if_neg (by omega), List.getElem?_drop, Array.getElem?_toList]
        congr 1
        omega
  refine msg_of (by unfold spliceA; simp [hsz]; omega) (fun i hi => ?_) (fun i hi => ?_) ?_ ?_
  · rw [hg, if_neg (by omega), msg_w _ _ _ _ hi]
  · rw [hg]
    by_cases c : f ≤ i ∧ i < f + xs.length
    · rw [if_pos (by omega), show 8 + i - (8 + f) = i - f by omega]
      exact h1 i c.1 c.2
    · rw [if_neg (by omega), msg_b _ _ _ _ hi, h2 i hi (by omega)]
  · rw [hg, if_neg (by omega), msg_n]
  · rw [hg, if_neg (by omega), msg_t]
/-! The message's beginning; a full block; what is put onto it; its end. -/
theorem mQ_0 (l : List UInt8) : msg (upd ivB 0 (ivB 0 ^^^ 16842784)) b0s 0 0 = mQ l 0 := msg_ext 0 0 (fun _ _ => rfl) (fun i _ => by
  unfold bkB
  rw [bltN (show 0 - 64 * dB 0 ≤ i by omega)]
  rfl)
theorem d_open {p : Nat} (h : ¬ p - 64 * dB p = 64) : dB p = p / 64 ∧ p - 64 * dB p = p % 64 := by
  unfold dB at h ⊢
  omega
theorem d_full {p : Nat} (h : p - 64 * dB p = 64) : dB p + 1 = p / 64 ∧ p % 64 = 0 ∧ 64 * dB p + 64 = p := by
  unfold dB at h ⊢
  omega
theorem bk_full {l : List UInt8} {p : Nat} (h : p - 64 * dB p = 64) : rb 64 (bkB l p) = rb 64 (blB l (dB p)) := rb_ext fun i hi => by
  unfold bkB
  rw [h, bltY hi]
  rfl
theorem np_full {l : List UInt8} {p : Nat} (h : p - 64 * dB p = 64) : postB (npB l (dB p)) (mixR (wordsB (blB l (dB p))) (preB (npB l (dB p)) p false) 10) = npB l (p / 64) := by
  obtain ⟨h1, h2, h3⟩ := d_full h
  rw [← h1, words_bl]
  show _ = postB (npB l (dB p)) (mixR (blW l (dB p)) (preB (npB l (dB p)) (64 * dB p + 64) false) 10)
  rw [h3]
theorem put_msg {l : List UInt8} {p m : Nat} (hm : 0 < m) (h : p % 64 + m ≤ 64) {xs : List Value} (hx : xs.length = m) (hxs : ∀ i, i < m → xs[i]? = some (bv (l.getD (p + i) 0))) :
    spliceA (msg (npB l (p / 64)) (bkB l p) (p % 64) p) (8 + p % 64) xs = msg (npB l (p / 64)) (bkB l (p + m)) (p % 64) p := by
  have e1 : dB (p + m) = p / 64 := by unfold dB; omega
  have e2 : p + m - 64 * dB (p + m) = p % 64 + m := by omega
  refine sp_msg (by omega) (fun i h1 h2 => ?_) (fun i hi h2 => ?_)
  · rw [hxs _ (by omega)]
    unfold bkB
    rw [e2, bltY (show i < p % 64 + m by omega), cond_true, e1]
    congr 3
    omega
  · unfold bkB
    rw [e2]
    rcases h2 with h2 | h2
    · rw [bltY (show i < p % 64 + m by omega), cond_true, e1]
      have h3 : ¬ p - 64 * dB p = 64 := by unfold dB; omega
      obtain ⟨d1, d2⟩ := d_open h3
      rw [d2, bltY h2, cond_true, d1]
    · rw [bltN (show p % 64 + m ≤ i by omega), cond_false, e1]
      by_cases h3 : p - 64 * dB p = 64
      · obtain ⟨d1, d2, d3⟩ := d_full h3
        rw [h3, bltY hi, cond_true, ← d1]
        show _ = bif Nat.beq (dB p + 1) 0 then (0 : UInt8) else l.getD (64 * (dB p + 1 - 1) + i) 0
        rw [show Nat.beq (dB p + 1) 0 = false from rfl, cond_false, Nat.add_sub_cancel]
      · obtain ⟨d1, d2⟩ := d_open h3
        rw [d2, bltN (show p % 64 ≤ i by omega), cond_false, d1]
theorem mQ_put {l : List UInt8} {p m : Nat} (hm : 0 < m) (h : p % 64 + m ≤ 64) : msg (npB l (p / 64)) (bkB l (p + m)) (p % 64 + m) (p + m) = mQ l (p + m) := by
  have e1 : dB (p + m) = p / 64 := by unfold dB; omega
  unfold mQ
  rw [e1, show p + m - 64 * (p / 64) = p % 64 + m by omega]
theorem clr_msg {l : List UInt8} {n : Nat} (hn : l.length = n) {xs : List Value} (hx : xs.length = 64 - (n - 64 * dB n)) (hxs : ∀ i, i < xs.length → xs[i]? = some (bv 0)) :
    setV (mQ l n) (8 + (n - 64 * dB n)) xs = msg (npB l (dB n)) (blB l (dB n)) (n - 64 * dB n) n := by
  have hle : n - 64 * dB n ≤ 64 := by unfold dB; omega
  have hsz : (mQ l n).size = 74 := msg_size _ _ _ _
  have hg := setV_get xs (mQ l n) (8 + (n - 64 * dB n))
  refine msg_of (by rw [setV_size, hsz]) (fun i hi => ?_) (fun i hi => ?_) ?_ ?_
  · rw [hg _ (by omega), if_neg (by omega)]
    exact msg_w _ _ _ _ hi
  · rw [hg _ (by omega)]
    by_cases c : n - 64 * dB n ≤ i
    · rw [if_pos (by omega), hxs _ (by omega)]
      unfold blB
      rw [List.getD_eq_getElem?_getD, List.getElem?_eq_none (by omega)]
      rfl
    · rw [if_neg (by omega), show (mQ l n)[8 + i]? = some (bv (bkB l n i)) from msg_b _ _ _ _ hi]
      unfold bkB
      rw [bltY (show i < n - 64 * dB n by omega), cond_true]
      rfl
  · rw [hg _ (by omega), if_neg (by omega)]
    exact msg_n _ _ _ _
  · rw [hg _ (by omega), if_neg (by omega)]
    exact msg_t _ _ _ _
theorem clr_none {l : List UInt8} {n : Nat} (h : 64 ≤ n - 64 * dB n) : mQ l n = msg (npB l (dB n)) (blB l (dB n)) (n - 64 * dB n) n := msg_ext _ _ (fun _ _ => rfl) (fun i hi => by
  unfold bkB
  rw [bltY (show i < n - 64 * dB n by omega)]
  rfl)
theorem run_np (l : List UInt8) : ∀ d, d + 1 ≤ nBl l.length → runB l d = npB l d
  | 0, _ => rfl
  | d + 1, h => by
    show pressB l d (runB l d) = _
    rw [run_np l d (by omega)]
    unfold pressB
    have e : Nat.beq (d + 1) (nBl l.length) = false := nb_ne (show d + 1 ≠ nBl l.length by omega)
    rw [e]
    rfl
theorem nBl_d (n : Nat) : nBl n = dB n + 1 := by
  unfold dB
  rcases Nat.eq_zero_or_pos n with h | h
  · rw [nBl_0 h]
    omega
  · rw [nBl_pos h]
    omega
theorem hash_end (l : List UInt8) : outB (postB (npB l (dB l.length)) (mixR (wordsB (blB l (dB l.length))) (preB (npB l (dB l.length)) l.length true) 10)) = hashB l := by
  unfold hashB
  have e := nBl_d l.length
  rw [e, words_bl]
  show _ = outB (pressB l (dB l.length) (runB l (dB l.length)))
  rw [run_np l _ (by omega)]
  unfold pressB
  rw [e, Nat.beq_refl]
  rfl
end Go.Proofs.YthjechjffhhiiaaDoor
