/- The hash, purely: a block's words and schedule, its rounds, the message padded, its blocks one behind the other; the hash of 'abc'. No dump is imported. -/
import Derived.Test.YtagifgadcbhinaaDoorHw
import Derived.Test.YtagifgadcbhinaaDoorHp
namespace Go.Proofs.YtagifgadcbhinaaDoor
set_option linter.unusedVariables false
set_option linter.unusedSimpArgs false

/-- A state: eight words. -/
structure S8 where
  a : Nat
  b : Nat
  c : Nat
  d : Nat
  e : Nat
  f : Nat
  g : Nat
  h : Nat
def S8.l (s : S8) : List Nat := [s.a, s.b, s.c, s.d, s.e, s.f, s.g, s.h]
structure S8.ok (s : S8) : Prop where
  a : s.a < 18446744073709551616
  b : s.b < 18446744073709551616
  c : s.c < 18446744073709551616
  d : s.d < 18446744073709551616
  e : s.e < 18446744073709551616
  f : s.f < 18446744073709551616
  g : s.g < 18446744073709551616
  h : s.h < 18446744073709551616
def chN (e f g : Nat) : Nat := e &&& f ^^^ (18446744073709551615 - e) &&& g
def majN (a b c : Nat) : Nat := a &&& b ^^^ a &&& c ^^^ b &&& c
theorem chN_lt {e f g : Nat} (he : e < 18446744073709551616) (hf : f < 18446744073709551616) (hg : g < 18446744073709551616) : chN e f g < 18446744073709551616 := xor_lt (and_lt he hf) (and_lt (by omega) hg)
theorem majN_lt {a b c : Nat} (ha : a < 18446744073709551616) (hb : b < 18446744073709551616) (hc : c < 18446744073709551616) : majN a b c < 18446744073709551616 := xor_lt (xor_lt (and_lt ha hb) (and_lt ha hc)) (and_lt hb hc)
/-- A round's two numbers, and the round. -/
def xN (k w : Nat) (s : S8) : Nat := ((((s.h + turnN s.e 14 18 41) % 18446744073709551616 + chN s.e s.f s.g) % 18446744073709551616 + k) % 18446744073709551616 + w) % 18446744073709551616
def yN (s : S8) : Nat := (turnN s.a 28 34 39 + majN s.a s.b s.c) % 18446744073709551616
def rnd (k w : Nat) (s : S8) : S8 := ⟨(xN k w s + yN s) % 18446744073709551616, s.a, s.b, s.c, (s.d + xN k w s) % 18446744073709551616, s.e, s.f, s.g⟩
theorem rnd_ok {k w : Nat} {s : S8} (h : s.ok) : (rnd k w s).ok := ⟨Nat.mod_lt _ (by omega), h.a, h.b, h.c, Nat.mod_lt _ (by omega), h.e, h.f, h.g⟩
def rnds (K W : List Nat) (s : S8) : Nat → S8
  | 0 => s
  | n + 1 => rnd (K.getD n 0) (W.getD n 0) (rnds K W s n)
theorem rnds_ok {K W : List Nat} {s : S8} (h : s.ok) : ∀ n, (rnds K W s n).ok
  | 0 => h
  | n + 1 => rnd_ok (rnds_ok h n)
/-- The words from the 16th on. -/
def sw (p : List Nat) (t : Nat) : Nat := (((p.getD (t - 16) 0 + mixN (p.getD (t - 15) 0) 1 8 7) % 18446744073709551616 + p.getD (t - 7) 0) % 18446744073709551616 + mixN (p.getD (t - 2) 0) 19 61 6) % 18446744073709551616
def sched (l : List Nat) : Nat → List Nat
  | 0 => l
  | n + 1 => (sched l n).set (16 + n) (sw (sched l n) (16 + n))
theorem sched_len (l : List Nat) : ∀ n, (sched l n).length = l.length
  | 0 => rfl
  | n + 1 => by rw [sched, List.length_set, sched_len l n]
theorem sched_lt {l : List Nat} (h : ∀ x ∈ l, x < 18446744073709551616) : ∀ n, ∀ x ∈ sched l n, x < 18446744073709551616
  | 0 => h
  | n + 1 => fun x hx => by
    rcases List.mem_or_eq_of_mem_set hx with hx | rfl
    · exact sched_lt h n x hx
    · exact Nat.mod_lt _ (by omega)
/-- Bytes as a number, the highest first. -/
def be (l : List Nat) : Nat := l.foldl (fun w x => w * 256 + x) 0
theorem be_snoc (l : List Nat) (x : Nat) : be (l ++ [x]) = be l * 256 + x := by simp [be]
theorem be_lt : ∀ (n : Nat) (l : List Nat), l.length = n → (∀ x ∈ l, x < 256) → be l < 256 ^ n
  | 0, l, h, _ => by rw [List.eq_nil_of_length_eq_zero h]; decide
  | n + 1, l, h, hb => by
    have hne : l ≠ [] := by intro e; rw [e] at h; simp at h
    rw [← List.dropLast_concat_getLast hne, be_snoc, Nat.pow_succ]
    have h1 := be_lt n l.dropLast (by simp [h]) (fun x hx => hb x (List.dropLast_subset l hx))
    have h2 := hb _ (List.getLast_mem hne)
    omega
def word8 (bl : List Nat) (i : Nat) : Nat := be ((bl.drop (8 * i)).take 8)
theorem word8_lt {bl : List Nat} (hb : ∀ x ∈ bl, x < 256) {i : Nat} (hi : 8 * i + 8 ≤ bl.length) : word8 bl i < 18446744073709551616 := by
  have := be_lt 8 ((bl.drop (8 * i)).take 8) (by simp; omega) (fun x hx => hb x (List.mem_of_mem_drop (List.mem_of_mem_take hx)))
  exact this
/-- The first n words of a block, then noughts. -/
def wordsTo (bl : List Nat) (n : Nat) : List Nat := (List.range n).map (word8 bl) ++ List.replicate (80 - n) 0
theorem wordsTo_len {bl : List Nat} {n : Nat} (h : n ≤ 80) : (wordsTo bl n).length = 80 := by simp [wordsTo]; omega
theorem wordsTo_set {bl : List Nat} {n : Nat} (h : n < 80) : (wordsTo bl n).set n (word8 bl n) = wordsTo bl (n + 1) := by
  have e : 80 - n = (80 - (n + 1)) + 1 := by omega
  unfold wordsTo
  rw [e, List.replicate_succ, List.set_append_right _ _ (by simp), List.range_succ, List.map_append]
  simp
theorem wordsTo_lt {bl : List Nat} (hb : ∀ x ∈ bl, x < 256) (hl : bl.length = 128) {n : Nat} (hn : n ≤ 16) : ∀ x ∈ wordsTo bl n, x < 18446744073709551616 := by
  intro x hx
  rcases List.mem_append.1 hx with hx | hx
  · obtain ⟨i, hi, rfl⟩ := List.mem_map.1 hx
    exact word8_lt hb (by have := List.mem_range.1 hi; omega)
  · rw [(List.mem_replicate.1 hx).2]; omega
def addS (s t : S8) : S8 := ⟨(s.a + t.a) % 18446744073709551616, (s.b + t.b) % 18446744073709551616, (s.c + t.c) % 18446744073709551616, (s.d + t.d) % 18446744073709551616, (s.e + t.e) % 18446744073709551616, (s.f + t.f) % 18446744073709551616, (s.g + t.g) % 18446744073709551616, (s.h + t.h) % 18446744073709551616⟩
theorem addS_ok (s t : S8) : (addS s t).ok := ⟨Nat.mod_lt _ (by omega), Nat.mod_lt _ (by omega), Nat.mod_lt _ (by omega), Nat.mod_lt _ (by omega), Nat.mod_lt _ (by omega), Nat.mod_lt _ (by omega), Nat.mod_lt _ (by omega), Nat.mod_lt _ (by omega)⟩
/-- The state behind a block. -/
def press (bl : List Nat) (h : S8) : S8 := addS (rnds HK (sched (wordsTo bl 16) 64) h 80) h
/-- The state behind the first n blocks of l. -/
def blocks (l : List Nat) (h : S8) : Nat → S8
  | 0 => h
  | n + 1 => press ((l.drop (128 * n)).take 128) (blocks l h n)
theorem blocks_ok {l : List Nat} {h : S8} (hh : h.ok) : ∀ n, (blocks l h n).ok
  | 0 => hh
  | n + 1 => addS_ok _ _
theorem blocks_append (l m : List Nat) (h : S8) : ∀ n, 128 * n ≤ l.length → blocks (l ++ m) h n = blocks l h n
  | 0, _ => rfl
  | n + 1, hn => by
    rw [blocks, blocks, blocks_append l m h n (by omega), List.drop_append_of_le_length (by omega), List.take_append_of_le_length (by simp; omega)]
def H0 : S8 := ⟨7640891576956012808, 13503953896175478587, 4354685564936845355, 11912009170470909681, 5840696475078001361, 11170449401992604703, 2270897969802886507, 6620516959819538809⟩
theorem H0_l : H0.l = HS := rfl
theorem H0_ok : H0.ok := by constructor <;> decide
/-- A word's eight bytes, the highest first. -/
def b8 (x : Nat) : List Nat := [x / 72057594037927936 % 256, x / 281474976710656 % 256, x / 1099511627776 % 256, x / 4294967296 % 256, x / 16777216 % 256, x / 65536 % 256, x / 256 % 256, x % 256]
/-- How many bytes stand behind a message of n bytes; what they are. -/
def padL (n : Nat) : Nat := if 128 - n % 128 < 17 then 128 - n % 128 + 128 else 128 - n % 128
def pad (n : Nat) : List Nat := 128 :: (List.replicate (padL n - 17) 0 ++ (b8 (8 * n / 18446744073709551616) ++ b8 (8 * n % 18446744073709551616)))
theorem padL_le (n : Nat) : 17 ≤ padL n := by unfold padL; split <;> omega
theorem pad_len (n : Nat) : (pad n).length = padL n := by
  have := padL_le n
  simp [pad, b8]; omega
theorem pad_whole (n : Nat) : (n + padL n) % 128 = 0 := by unfold padL; split <;> omega
def full (l : List Nat) : List Nat := l ++ pad l.length
def outS (s : S8) : List Nat := b8 s.a ++ (b8 s.b ++ (b8 s.c ++ (b8 s.d ++ (b8 s.e ++ (b8 s.f ++ (b8 s.g ++ b8 s.h))))))
def hashS (l : List Nat) : S8 := blocks (full l) H0 ((full l).length / 128)
def hashN (l : List Nat) : List Nat := outS (hashS l)
theorem abc : (hashN [97, 98, 99]).take 4 = [221, 175, 53, 161] := by decide +kernel
end Go.Proofs.YtagifgadcbhinaaDoor
