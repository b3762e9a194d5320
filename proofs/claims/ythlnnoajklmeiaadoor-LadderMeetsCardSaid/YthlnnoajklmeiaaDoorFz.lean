/- The contracts of the field's calls over numbers modulo p; the walks of Inv and rootOfMinusOne. -/
import Derived.Test.YthlnnoajklmeiaaDoorFw
import Derived.Test.YthlnnoajklmeiaaDoorFsw
namespace Go.Proofs.YthlnnoajklmeiaaDoor
set_option linter.unusedVariables false
set_option linter.unusedSimpArgs false
open Go.RowKit

/-- An element's cells. -/
def ev (x : Fin PP) : Array Value := es x.val
theorem ev_size (x : Fin PP) : (ev x).size = 4 := rfl
theorem ev_one (x : Fin PP) : (ev x).all (·.oneCell') = true := es_one _
theorem info_ev (x : Fin PP) : (Tryd.prog.info? 46).map (·.size) = some (ev x).size := info_elem
def EPost (x : Fin PP) (w : World) (e : Ending) (w' : World) : Prop := e = .returned (.agg (ev x)) ∧ Below w.heap.size w w'
def BPost (b : Bool) (w : World) (e : Ending) (w' : World) : Prop := e = .returned (.bool b) ∧ Below w.heap.size w w'
section
variable (x y : Fin PP) (w : World)
theorem addF (hp : PG w) : Calls Tryd.prog 40 #[.agg (ev x), .agg (ev y)] w (EPost (x + y) w) := add_any x.val y.val w hp x.isLt y.isLt
theorem subF (hp : PG w) : Calls Tryd.prog 41 #[.agg (ev x), .agg (ev y)] w (EPost (x - y) w) := by
  have h := sub_any x.val y.val w hp x.isLt y.isLt
  rw [Nat.add_comm] at h
  exact h
theorem mulF (hp : PG w) : Calls Tryd.prog 29 #[.agg (ev x), .agg (ev y)] w (EPost (x * y) w) := mul_any x.val y.val w hp x.isLt y.isLt
theorem squareF (hp : PG w) : Calls Tryd.prog 42 #[.agg (ev x)] w (EPost (x * x) w) := square_any x.val w hp x.isLt
theorem powerF (e : Nat) (hp : PG w) (he : e < 115792089237316195423570985008687907853269984665640564039457584007913129639936) : Calls Tryd.prog 44 #[.agg (ev x), .agg (ks e)] w (EPost (x ^ e) w) := by
  have h := power_any x.val e w hp x.isLt he
  rw [← fp_pow_val] at h
  exact h
theorem selF_no : Calls Tryd.prog 50 #[.agg (ev x), .agg (ev y), .bool false] w (EPost x w) := select_no x.val y.val w
theorem selF_yes : Calls Tryd.prog 50 #[.agg (ev x), .agg (ev y), .bool true] w (EPost y w) := select_yes x.val y.val w
theorem swapF_no : Calls Tryd.prog 39 #[.agg (ev x), .agg (ev y), .bool false] w fun e w' => e = .returned (.tuple #[.agg (ev x), .agg (ev y)]) ∧ Below w.heap.size w w' := swap_no x.val y.val w
theorem swapF_yes : Calls Tryd.prog 39 #[.agg (ev x), .agg (ev y), .bool true] w fun e w' => e = .returned (.tuple #[.agg (ev y), .agg (ev x)]) ∧ Below w.heap.size w w' := swap_yes x.val y.val w
theorem bytesF : Calls Tryd.prog 31 #[.agg (ev x)] w (KeyPost x.val w) := bytes_any x.val w (PP_lt256 x.isLt)
end
/-- The number of a key's lowest 255 bits. -/
def ofK (n : Nat) : Fin PP := Fin.ofNat PP (n % 57896044618658097711785492504343953926634992332820282019728792003956564819968)
theorem ofF (n : Nat) (w : World) (hp : PG w) (hn : n < 115792089237316195423570985008687907853269984665640564039457584007913129639936) : Calls Tryd.prog 24 #[.agg (ks n)] w (EPost (ofK n) w) := of_any n w hp hn
/-- A small number. -/
def sm (n : Nat) : Fin PP := Fin.ofNat PP n
theorem smallF (n : Nat) (w : World) (hn : n < 18446744073709551616) : Calls Tryd.prog 25 #[.int .u64 (n : Int)] w (EPost (sm n) w) := by
  have h := small_any n w hn
  have e : n = (Fin.ofNat PP n).val := by
    show n = n % PP
    rw [Nat.mod_eq_of_lt (by rw [PP_eq]; omega)]
  rw [e] at h
  have h2 : ((Fin.ofNat PP n).val : Int) = (n : Int) := by rw [← e]
  rw [h2] at h
  exact h

/-! -1's root. -/
theorem fourth_num : num4 18446744073709551611 18446744073709551615 18446744073709551615 2305843009213693951 = 2 * EE + 1 := by decide +kernel
theorem two_pow_II : sm 2 ^ (2 * EE + 1) = II := II_eq
end Go.Proofs.YthlnnoajklmeiaaDoor
