/- Plain facts on hexadecimal digits, and a step law for append in a region that draws its order. -/
import Derived.Test.YtfjjpepnadcaaaaWords
import Derived.Test.YtfjjpepnadcaaaaPure
import Derived.Deep.RegionLaw
import Derived.Laws.BitsAllLaws
namespace Go.Proofs.Ytfjjpepnadcaaaa
set_option linter.unusedVariables false
open Go Go.RowKit

/-- The digit of a number below 16. -/
def hexd (n : Nat) : UInt8 := UInt8.ofNat (if n < 10 then 48 + n else 87 + n)
def hex2 (x : UInt8) : List UInt8 := [hexd (x.toNat / 16), hexd (x.toNat % 16)]
def hex (l : List UInt8) : List UInt8 := l.flatMap hex2
theorem hex_nil : hex [] = [] := rfl
theorem hex_len (l : List UInt8) : (hex l).length = 2 * l.length := by
  induction l with
  | nil => rfl
  | cons x l ih =>
    have : hex (x :: l) = hex2 x ++ hex l := rfl
    rw [this, List.length_append, ih, List.length_cons]
    simp [hex2]; omega
theorem hex_take {l : List UInt8} {k : Nat} {x : UInt8} (h : l[k]? = some x) : hex (l.take (k + 1)) = hex (l.take k) ++ hex2 x := by
  rw [take_snoc h, hex, List.flatMap_append]
  simp [hex]
/-- The string of digits. -/
def digs : ByteArray := ⟨#[48, 49, 50, 51, 52, 53, 54, 55, 56, 57, 97, 98, 99, 100, 101, 102]⟩
theorem hexd_at (n : Nat) (h : n < 16) : (digs.data[n]'(by simp [digs]; exact h)) = hexd n := by
  have : ∀ m : Fin 16, (digs.data[m.1]'(by have := m.2; simp [digs])) = hexd m.1 := by decide
  exact this ⟨n, h⟩
/-- 'digits[i]'. -/
theorem run_dig {P : Program} (t : TypeId) (ht : P.underlying t = some .string) (n : Nat) (h : n < 16) (W : World) : (Instr.index t (.string digs) (.int .u8 (n : Int))).run P W = .ok (.int .u8 ((hexd n).toNat : Int)) W := by
  have hs : digs.size = 16 := rfl
  rw [run_index_string (P := P) W t digs .u8 (n : Int) ht, dif_pos (by rw [hs]; omega)]
  simp only [Int.toNat_natCast]
  congr 3
  have := hexd_at n h
  rw [← this]
  rfl

theorem run_dig_hi {P : Program} (t : TypeId) (ht : P.underlying t = some .string) (x : UInt8) (W : World) :
    (Instr.index t (.string ⟨#[48, 49, 50, 51, 52, 53, 54, 55, 56, 57, 97, 98, 99, 100, 101, 102]⟩) (.int .u8 ((x.toNat : Int) / 16))).run P W = .ok (.int .u8 ((hexd (x.toNat / 16)).toNat : Int)) W := by
  have hx := byte_lt x
  have := run_dig (P := P) t ht (x.toNat / 16) (by omega) W
  rw [show ((x.toNat / 16 : Nat) : Int) = (x.toNat : Int) / 16 by omega] at this
  exact this
theorem wrap_u8_id (n : Int) (h0 : 0 ≤ n) (h : n < 256) : IntKind.u8.wrap n = n := by rw [IntKind.wrap_u8']; omega
theorem run_dig_hi_w {P : Program} (t : TypeId) (ht : P.underlying t = some .string) (x : UInt8) (W : World) :
    (Instr.index t (.string ⟨#[48, 49, 50, 51, 52, 53, 54, 55, 56, 57, 97, 98, 99, 100, 101, 102]⟩) (.int .u8 (IntKind.u8.wrap ((x.toNat : Int) / 16)))).run P W = .ok (.int .u8 ((hexd (x.toNat / 16)).toNat : Int)) W := by
  have hx := byte_lt x
  rw [wrap_u8_id _ (by omega) (by omega)]
  exact run_dig_hi t ht x W
theorem and15 (x : UInt8) : bits .and .u8 (x.toNat : Int) 15 = ((x.toNat % 16 : Nat) : Int) := by
  have hx := byte_lt x
  have h := u8_and_nat x.toNat 15 hx (by omega)
  rw [show ((15 : Nat) : Int) = 15 from rfl] at h
  rw [h, show (15 : Nat) = 2 ^ 4 - 1 by decide, Nat.and_two_pow_sub_one_eq_mod]
theorem run_dig_lo {P : Program} (t : TypeId) (ht : P.underlying t = some .string) (x : UInt8) (W : World) :
    (Instr.index t (.string ⟨#[48, 49, 50, 51, 52, 53, 54, 55, 56, 57, 97, 98, 99, 100, 101, 102]⟩) (.int .u8 (bits .and .u8 (x.toNat : Int) 15))).run P W = .ok (.int .u8 ((hexd (x.toNat % 16)).toNat : Int)) W := by
  rw [and15]
  exact run_dig (P := P) t ht (x.toNat % 16) (by omega) W
theorem run_dig_rem {P : Program} (t : TypeId) (ht : P.underlying t = some .string) (x : UInt8) (W : World) :
    (Instr.index t (.string ⟨#[48, 49, 50, 51, 52, 53, 54, 55, 56, 57, 97, 98, 99, 100, 101, 102]⟩) (.int .u8 ((x.toNat : Int) % 16))).run P W = .ok (.int .u8 ((hexd (x.toNat % 16)).toNat : Int)) W := by
  have := run_dig (P := P) t ht (x.toNat % 16) (by omega) W
  rw [show ((x.toNat % 16 : Nat) : Int) = (x.toNat : Int) % 16 by omega] at this
  exact this
theorem run_dig_rem_t {P : Program} (t : TypeId) (ht : P.underlying t = some .string) (x : UInt8) (W : World) :
    (Instr.index t (.string ⟨#[48, 49, 50, 51, 52, 53, 54, 55, 56, 57, 97, 98, 99, 100, 101, 102]⟩) (.int .u8 ((x.toNat : Int).tmod 16))).run P W = .ok (.int .u8 ((hexd (x.toNat % 16)).toNat : Int)) W := by
  rw [Int.tmod_eq_emod_of_nonneg (by omega)]
  exact run_dig_rem t ht x W

section
variable {P : Program} {w : World} {ops : Array Oper} {o : Oper} {a : Act} {K : Act → World → Prop} {Q : Exit → Act → World → Prop} {E : Prop}
theorem step_app_own (hg : o.guard = none) (s x : Operand) (t : TypeId) (ho : o.op = .call { callee := .builtin .append, args := #[s, x], argTypes := #[t, t] })
    (e : TypeId) (ht : P.underlying t = some (.slice e)) (he : (P.info? e).map (fun i => (i.zero, i.size, i.bytes)) = some (some (.int .u8 0), 1, 1))
    (base : Nat) (v : Value) (l : List UInt8) (hs : a.eval s = v) (hown : OwnB w base e v l)
    (B m c : Nat) (A : Option Addr) (l2 : List UInt8) (hx : a.eval x = .slice A m c) (hr : BS w B A m c l2) (hbig : l.length + m ≤ 140737488355328) (hbase : base ≤ w.heap.size)
    (h : ∀ v' w', OwnB w' base e v' (l ++ l2) → w.grownBy w' v.ownBlock → (v'.ownBlock = v.ownBlock ∨ v'.ownBlock = some w.heap.size) → K (a.put o.dst v') w') :
    if Region.wanted o (yielded ops a.tmps) = true then Oper.wp P o a w K Q else E := by
  have hw : Region.wanted o (yielded ops a.tmps) = true := by simp [Region.wanted, hg]
  rw [if_pos hw]
  obtain ⟨v', w', hrun, h1, h2, h3⟩ := run_app_own (P := P) (w := w) t o.type e ht he base v l hown B m c A l2 hr hbig hbase
  unfold Oper.wp
  simp [execOp, ho, resolve, invoke, builtin, hs, hx, hrun, Result.andThen]
  exact h v' w' h1 h2 h3
theorem step_app_fit (hg : o.guard = none) (s x : Operand) (t : TypeId) (ho : o.op = .call { callee := .builtin .append, args := #[s, x], argTypes := #[t, t] })
    (e : TypeId) (ht : P.underlying t = some (.slice e)) (he : (P.info? e).map (fun i => (i.zero, i.size, i.bytes)) = some (some (.int .u8 0), 1, 1))
    (base g k cap : Nat) (l : List UInt8) (hs : a.eval s = .slice (some ⟨g, 0, none⟩) k cap) (hk : Hid (k = l.length)) (hown : OwnB w base e (.slice (some ⟨g, 0, none⟩) k cap) l)
    (B m c : Nat) (ad : Addr) (l2 : List UInt8) (hx : a.eval x = .slice (some ad) m c) (hr : BS w B (some ad) m c l2) (hroom : k + m ≤ cap)
    (h : ∀ w', OwnB w' base e (.slice (some ⟨g, 0, none⟩) (k + m) cap) (l ++ l2) → w.grownBy w' (some g) → K (a.put o.dst (.slice (some ⟨g, 0, none⟩) (k + m) cap)) w') :
    if Region.wanted o (yielded ops a.tmps) = true then Oper.wp P o a w K Q else E := by
  have hw : Region.wanted o (yielded ops a.tmps) = true := by simp [Region.wanted, hg]
  rw [if_pos hw]
  obtain ⟨i, hi, hz, hsz, hby⟩ := info_parts he
  have hk := hk.out
  subst hk
  have hm := hr.len
  subst hm
  obtain ⟨w', hrun, h1, h2⟩ := run_append_fits (P := P) w base t o.type e i 1 ht hi hsz g _ cap (l.map bv) hown ad l2.length c (l2.map bv) (by simp) (bs_cells hr _ rfl) (bv_all _) hroom
  unfold Oper.wp
  simp [execOp, ho, resolve, invoke, builtin, hs, hx, hrun, Result.andThen]
  exact h w' (by unfold OwnB; rw [List.length_append, List.map_append]; exact h1) h2
end
/-- Two bytes in a new block. -/
theorem bs_new2 (w : World) (t : TypeId) (x y : UInt8) : BS (w.alloc (.cells #[.int .u8 (x.toNat : Int), .int .u8 (y.toNat : Int)] t)) (w.heap.size + 1) (some ⟨w.heap.size, 0, none⟩) 2 2 [x, y] :=
  BS.ofBlk (l := [x, y]) (Blk.new w t #[.int .u8 (x.toNat : Int), .int .u8 (y.toNat : Int)]) 2 rfl _ (by omega)
theorem bs_new1 (w : World) (t : TypeId) (x : UInt8) : BS (w.alloc (.cells #[.int .u8 (x.toNat : Int)] t)) (w.heap.size + 1) (some ⟨w.heap.size, 0, none⟩) 1 1 [x] :=
  BS.ofBlk (l := [x]) (Blk.new w t #[.int .u8 (x.toNat : Int)]) 1 rfl _ (by omega)
end Go.Proofs.Ytfjjpepnadcaaaa
