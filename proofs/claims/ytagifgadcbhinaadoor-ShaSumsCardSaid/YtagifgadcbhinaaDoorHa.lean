/- Words for the document's Sum: the padded message, a block's words byte by byte, the bytes of the hash; append of noughts. -/
import Derived.Test.YtagifgadcbhinaaDoorHb
import Derived.Lib.AppendZerosOnto
namespace Go.Proofs.YtagifgadcbhinaaDoor
set_option linter.unusedVariables false
set_option linter.unusedSimpArgs false
open Go Go.RowKit

def m8 (x : Nat) : Nat := if x < 8 then x else 8
/-- The words of a block of which the first i bytes were taken in. -/
def pw (bl : List Nat) (i : Nat) : List Nat := (List.range 80).map fun t => be ((bl.drop (8 * t)).take (m8 (i - 8 * t)))
theorem pw_len (bl : List Nat) (i : Nat) : (pw bl i).length = 80 := by simp [pw]
theorem pw_get (bl : List Nat) (i : Nat) {t : Nat} (h : t < 80) : (pw bl i).getD t 0 = be ((bl.drop (8 * t)).take (m8 (i - 8 * t))) := by simp [pw, List.getD, h]
theorem be_nil : be [] = 0 := rfl
theorem pw_zero (bl : List Nat) : pw bl 0 = List.replicate 80 0 := by
  apply List.ext_getElem?
  intro t
  by_cases h : t < 80
  · rw [List.getElem?_replicate, if_pos h]
    simp [pw, h, m8, be_nil]
  · rw [List.getElem?_replicate, if_neg h]
    simp [pw, h]
theorem pw_all {bl : List Nat} (h : bl.length = 128) : pw bl 128 = wordsTo bl 16 := by
  apply List.ext_getElem?
  intro t
  by_cases h1 : t < 16
  · rw [wordsTo, List.getElem?_append_left (by simp; omega)]
    have : m8 (128 - 8 * t) = 8 := by unfold m8; split <;> omega
    simp [pw, h1, show t < 80 by omega, word8, this]
  · rw [wordsTo, List.getElem?_append_right (by simp; omega)]
    by_cases h2 : t < 80
    · have : m8 (128 - 8 * t) = 0 := by unfold m8; split <;> omega
      rw [List.getElem?_replicate, if_pos (by simp; omega)]
      simp [pw, h2, this, be_nil]
    · rw [List.getElem?_replicate, if_neg (by simp; omega)]
      simp [pw, h2]
theorem be_takeS (l : List Nat) (k : Nat) (h : k < l.length) : be (l.take (k + 1)) = be (l.take k) * 256 + l.getD k 0 := by
  rw [List.take_succ_eq_append_getElem h, be_snoc]
  simp [List.getD, h]
theorem pw_step {bl : List Nat} (hl : bl.length = 128) {i : Nat} (hi : i < 128) : (pw bl i).set (i / 8) ((pw bl i).getD (i / 8) 0 * 256 + bl.getD i 0) = pw bl (i + 1) := by
  apply List.ext_getElem?
  intro t
  rw [List.getElem?_set]
  by_cases ht : t < 80
  · by_cases e : i / 8 = t
    · rw [if_pos e, if_pos (by rw [pw_len]; omega), e, pw_get _ _ ht]
      have e1 : m8 (i - 8 * t) = i - 8 * t := by unfold m8; split <;> omega
      have e2 : m8 (i + 1 - 8 * t) = i - 8 * t + 1 := by unfold m8; split <;> omega
      have e3 := be_takeS (bl.drop (8 * t)) (i - 8 * t) (by rw [List.length_drop]; omega)
      have e4 : (bl.drop (8 * t)).getD (i - 8 * t) 0 = bl.getD i 0 := by simp [List.getD, show 8 * t + (i - 8 * t) = i by omega]
      rw [e4] at e3
      simp [pw, ht, e1, e2, e3]
    · rw [if_neg e]
      have e1 : m8 (i + 1 - 8 * t) = m8 (i - 8 * t) := by unfold m8; split <;> split <;> omega
      simp [pw, ht, e1]
  · have : i / 8 ≠ t := by omega
    simp [pw, ht, this]
theorem pw_room {bl : List Nat} (hb : ∀ x ∈ bl, x < 256) (hl : bl.length = 128) {i : Nat} (hi : i < 128) : (pw bl i).getD (i / 8) 0 * 256 + bl.getD i 0 < 18446744073709551616 := by
  rw [pw_get _ _ (by omega)]
  have e1 : m8 (i - 8 * (i / 8)) = i - 8 * (i / 8) := by unfold m8; split <;> omega
  have h1 := be_lt (i - 8 * (i / 8)) ((bl.drop (8 * (i / 8))).take (i - 8 * (i / 8))) (by simp; omega) (fun x hx => hb x (List.mem_of_mem_drop (List.mem_of_mem_take hx)))
  have h2 : bl.getD i 0 < 256 := hb _ (getD_mem (by omega))
  have h3 : (256 : Nat) ^ (i - 8 * (i / 8)) ≤ 256 ^ 7 := Nat.pow_le_pow_right (by omega) (by omega)
  rw [e1]
  have e7 : (256 : Nat) ^ 7 = 72057594037927936 := by decide
  rw [e7] at h3
  omega
/-- The i-th byte of a word, from the lowest on; the bytes of the hash. -/
theorem b8_at (x : Nat) {i : Nat} (h : i < 8) : (b8 x)[7 - i]? = some (x / 256 ^ i % 256) := by
  match i, h with
  | 0, _ => simp [b8]
  | 1, _ => simp [b8]
  | 2, _ => simp [b8]
  | 3, _ => simp [b8]
  | 4, _ => simp [b8]
  | 5, _ => simp [b8]
  | 6, _ => simp [b8]
  | 7, _ => simp [b8]
theorem b8_len8 (x : Nat) : (b8 x).length = 8 := rfl
theorem b8_zero : b8 0 = List.replicate 8 0 := rfl
theorem outS_at (S : S8) {i : Nat} (h : i < 64) : (outS S)[i]? = some (S.l.getD (i / 8) 0 / 256 ^ (7 - i % 8) % 256) := by
  have hq : i / 8 < 8 := by omega
  have hr : i % 8 < 8 := by omega
  have e : i = 8 * (i / 8) + i % 8 := by omega
  generalize i / 8 = q at *
  generalize i % 8 = r at *
  subst e
  have hb := fun x => b8_at x (i := 7 - r) (by omega)
  simp only [show 7 - (7 - r) = r by omega] at hb
  match q, hq with
  | 0, _ => rw [outS, List.getElem?_append_left (by rw [b8_len8]; omega)]; simpa [S8.l] using hb S.a
  | 1, _ => rw [outS, List.getElem?_append_right (by rw [b8_len8]; omega), b8_len8, List.getElem?_append_left (by rw [b8_len8]; omega), show 8 * 1 + r - 8 = r by omega]; simpa [S8.l] using hb S.b
  | 2, _ => rw [outS, List.getElem?_append_right (by rw [b8_len8]; omega), b8_len8, List.getElem?_append_right (by rw [b8_len8]; omega), b8_len8, List.getElem?_append_left (by rw [b8_len8]; omega), show 8 * 2 + r - 8 - 8 = r by omega]; simpa [S8.l] using hb S.c
  | 3, _ => rw [outS, List.getElem?_append_right (by rw [b8_len8]; omega), b8_len8, List.getElem?_append_right (by rw [b8_len8]; omega), b8_len8, List.getElem?_append_right (by rw [b8_len8]; omega), b8_len8, List.getElem?_append_left (by rw [b8_len8]; omega), show 8 * 3 + r - 8 - 8 - 8 = r by omega]; simpa [S8.l] using hb S.d
  | 4, _ => rw [outS, List.getElem?_append_right (by rw [b8_len8]; omega), b8_len8, List.getElem?_append_right (by rw [b8_len8]; omega), b8_len8, List.getElem?_append_right (by rw [b8_len8]; omega), b8_len8, List.getElem?_append_right (by rw [b8_len8]; omega), b8_len8, List.getElem?_append_left (by rw [b8_len8]; omega), show 8 * 4 + r - 8 - 8 - 8 - 8 = r by omega]; simpa [S8.l] using hb S.e
  | 5, _ => rw [outS, List.getElem?_append_right (by rw [b8_len8]; omega), b8_len8, List.getElem?_append_right (by rw [b8_len8]; omega), b8_len8, List.getElem?_append_right (by rw [b8_len8]; omega), b8_len8, List.getElem?_append_right (by rw [b8_len8]; omega), b8_len8, List.getElem?_append_right (by rw [b8_len8]; omega), b8_len8, List.getElem?_append_left (by rw [b8_len8]; omega), show 8 * 5 + r - 8 - 8 - 8 - 8 - 8 = r by omega]; simpa [S8.l] using hb S.f
  | 6, _ => rw [outS, List.getElem?_append_right (by rw [b8_len8]; omega), b8_len8, List.getElem?_append_right (by rw [b8_len8]; omega), b8_len8, List.getElem?_append_right (by rw [b8_len8]; omega), b8_len8, List.getElem?_append_right (by rw [b8_len8]; omega), b8_len8, List.getElem?_append_right (by rw [b8_len8]; omega), b8_len8, List.getElem?_append_right (by rw [b8_len8]; omega), b8_len8, List.getElem?_append_left (by rw [b8_len8]; omega), show 8 * 6 + r - 8 - 8 - 8 - 8 - 8 - 8 = r by omega]; simpa [S8.l] using hb S.g
  | 7, _ => rw [outS, List.getElem?_append_right (by rw [b8_len8]; omega), b8_len8, List.getElem?_append_right (by rw [b8_len8]; omega), b8_len8, List.getElem?_append_right (by rw [b8_len8]; omega), b8_len8, List.getElem?_append_right (by rw [b8_len8]; omega), b8_len8, List.getElem?_append_right (by rw [b8_len8]; omega), b8_len8, List.getElem?_append_right (by rw [b8_len8]; omega), b8_len8, List.getElem?_append_right (by rw [b8_len8]; omega), b8_len8, show 8 * 7 + r - 8 - 8 - 8 - 8 - 8 - 8 - 8 = r by omega]; simpa [S8.l] using hb S.h
/-- The padded message, as bytes, on the way: k noughts behind the 128; then the length's highest j bytes. -/
def padz (l : List UInt8) (k : Nat) : List UInt8 := l ++ (128 :: List.replicate k 0)
def padl (l : List UInt8) (j : Nat) : List UInt8 := padz l (padL l.length - 17 + 8) ++ ((b8 (8 * l.length)).take j).map UInt8.ofNat
theorem padz_len (l : List UInt8) (k : Nat) : (padz l k).length = l.length + 1 + k := by simp [padz]; omega
theorem padz_app (l : List UInt8) (k j : Nat) : padz l k ++ List.replicate j 0 = padz l (k + j) := by simp [padz, List.append_assoc]
theorem padl_zero (l : List UInt8) : padl l 0 = padz l (padL l.length - 17 + 8) := by simp [padl]
theorem padl_step (l : List UInt8) {i : Nat} (h : i < 8) : padl l (7 - i) ++ [UInt8.ofNat (8 * l.length / 256 ^ i % 256)] = padl l (7 - i + 1) := by
  have h1 := b8_at (8 * l.length) h
  have h2 : (b8 (8 * l.length)).take (7 - i + 1) = (b8 (8 * l.length)).take (7 - i) ++ [8 * l.length / 256 ^ i % 256] := by
    obtain ⟨h3, h4⟩ := List.getElem?_eq_some_iff.1 h1
    rw [List.take_succ_eq_append_getElem h3, h4]
  rw [padl, padl, h2, List.map_append, List.append_assoc]
  rfl
theorem padl_all (l : List UInt8) (h : 8 * l.length < 18446744073709551616) : bn (padl l 8) = full (bn l) := by
  have h1 : (b8 (8 * l.length)).take 8 = b8 (8 * l.length) := List.take_of_length_le (by rw [b8_len8]; omega)
  have h2 : bn ((b8 (8 * l.length)).map UInt8.ofNat) = b8 (8 * l.length) := bn_ofNat (b8_lt _)
  have h3 : bn (128 :: List.replicate (padL l.length - 17 + 8) 0) = 128 :: List.replicate (padL l.length - 17 + 8) 0 := by simp [bn]
  rw [padl, bn_append, h1, h2, padz, bn_append, h3, full, pad, bn_len, Nat.div_eq_of_lt h, Nat.mod_eq_of_lt h, b8_zero]
  rw [show List.replicate (padL l.length - 17 + 8) 0 = List.replicate (padL l.length - 17) 0 ++ List.replicate 8 (0 : Nat) by rw [List.replicate_append_replicate]]
  simp [List.append_assoc]
theorem padl_len (l : List UInt8) {j : Nat} (h : j ≤ 8) : (padl l j).length = l.length + padL l.length - 8 + j := by
  have := padL_le l.length
  rw [padl, List.length_append, padz_len, List.length_map, List.length_take, b8_len8]
  omega
/-- 'append(v, make([]byte, 8)...)', v the call's own and not empty. -/
theorem run_app_zerosB {P : Program} {w : World} (t tn ty e : TypeId) (kn : IntKind) (ht : P.underlying t = some (.slice e)) (htn : P.underlying tn = some (.int kn)) (he : (P.info? e).map (fun i => (i.zero, i.size, i.bytes)) = some (some (.int .u8 0), 1, 1))
    (base : Nat) (v : Value) (l : List UInt8) (hown : OwnB w base e v l) (hl : 0 < l.length) (hbig : l.length + 8 ≤ 1000000000) (hbase : base ≤ w.heap.size) :
    ∃ v' w', (Builtin.append_ #[t, tn] ty #[v, .int .i64 8]).run P w = .ok v' w' ∧ OwnB w' base e v' (l ++ List.replicate 8 0) ∧ w.grownBy w' v.ownBlock ∧ (v'.ownBlock = v.ownBlock ∨ v'.ownBlock = some w.heap.size) := by
  obtain ⟨i, hi, hz, hs, hb⟩ := info_parts he
  have hz8 : Builtin.zeroCells (Value.int .u8 0).cells 8 = (((List.replicate 8 (0 : UInt8)).map bv).toArray) := by kernel_rfl
  have hlen : ((l ++ List.replicate 8 (0 : UInt8)).map bv).length = (l.length + 8) * 1 := by simp
  rcases hown.2 with ⟨rfl, h0⟩ | ⟨g, cap, cur, rfl, hbg, hg, hnc, hcm, hcs, htake⟩
  · omega
  · by_cases hroom : l.length + 8 ≤ cap
    · have hst := run_storeCells_at P g (l.length * 1) e ((List.replicate 8 (0 : UInt8)).map bv) 0 cur w hg (by simp; omega) (bv_all _)
      simp only [Nat.add_zero] at hst
      have hr : (Builtin.append_ #[t, tn] ty #[.slice (some ⟨g, 0, none⟩) l.length cap, .int .i64 8]).run P w = .ok (.slice (some ⟨g, 0, none⟩) (l.length + 8) cap) (w.setRow g (cur.toList.take (l.length * 1) ++ (List.replicate 8 (0 : UInt8)).map bv ++ cur.toList.drop (l.length * 1 + ((List.replicate 8 (0 : UInt8)).map bv).length)).toArray) := by
        have hw : IntKind.i64.wrap (8 : Int) = 8 := by decide
        simp [Builtin.append_, run_underlying ht, run_underlying htn, sizeOf, typeInfo, zeroValue, hi, hz, hs, hb, asInt, asIntOf, hw, hroom, Addr.add_lit, hz8]
        simp at hst
        rw [hst]
        rfl
      refine ⟨_, _, hr, ⟨by simp, .inr ⟨g, cap, _, by simp, hbg, setRow_heap w g cur _ e _ hg, by simpa using hroom, hcm, ?_, ?_⟩⟩, ⟨rfl, rfl, rfl, by simp [World.setRow], fun k _ hk => Go.setRow_other w g k _ (fun e => hk (by simp [Value.ownBlock, e]))⟩, Or.inl rfl⟩
      · simp at hcs ⊢
        omega
      · simp at htake ⊢
        have h9 : ∀ D : List Value, l.map bv ++ bv 0 :: bv 0 :: bv 0 :: bv 0 :: bv 0 :: bv 0 :: bv 0 :: bv 0 :: D = (l.map bv ++ [bv 0, bv 0, bv 0, bv 0, bv 0, bv 0, bv 0, bv 0]) ++ D := fun D => by simp
        rw [htake, h9]
        exact List.take_left' (by simp)
    · have holds : ∀ j u, (l.map bv)[j]? = some u → w.cell? ((⟨g, 0, none⟩ : Addr).add j) = some u := World.ownsRow.cells hown (g := g) rfl
      have hf := run_firstCells_some (P := P) w.drew i.size l.length ⟨g, 0, none⟩ l.length cap (l.map bv) (by simp [hs]) (by simpa using holds)
      have hr := Lib.run_append_grow_zeros (P := P) w t tn ty e i (.int .u8 0) .i64 kn ht htn hi hz (some ⟨g, 0, none⟩) l.length cap (l.map bv) hf 8 (by omega) (by omega) (by omega) (by omega) (by omega) (growslice_fits (by omega) (by rw [hb]; omega))
      rw [hz8] at hr
      have hge := grownCap_ge w (l.length + 8) cap e
      have hcm2 : grownCap w (l.length + 8) cap e ≤ maxLen := grownCap_le_maxLen w (l.length + 8) cap e (by simp only [maxLen]; omega)
      refine ⟨_, _, hr, ⟨by simp, .inr ⟨w.heap.size, _, _, by simp, hbase, heap_alloc_new w.drew _, by simpa using hge, hcm2, ?_, ?_⟩⟩, ⟨rfl, rfl, rfl, by simp, fun k hk _ => heap_alloc_old w.drew _ hk⟩, Or.inr rfl⟩
      · simp only [Array.size_append, List.size_toArray, size_zeroCells, List.length_map, List.length_replicate, Value.cells]
        simp
        omega
      · simp only [Array.toList_append, List.append_assoc]
        rw [← List.append_assoc, ← List.map_append]
        exact List.take_left' (by simp)
end Go.Proofs.YtagifgadcbhinaaDoor
