/- The contracts of the document's numbers (layer 2) over numbers modulo p. -/
import Derived.Test.YtnfckoamjeafhaaDoorRmi
import Derived.Test.YtnfckoamjeafhaaDoorRu
import Derived.Test.YtnfckoamjeafhaaDoorFz
namespace Go.Proofs.YtnfckoamjeafhaaDoor
set_option linter.unusedVariables false
set_option linter.unusedSimpArgs false
open Go.RowKit

/-- A number's digits, of a number modulo p. -/
def dv (x : Fin PP) : Array Value := ds x.val
theorem dv_size (x : Fin PP) : (dv x).size = 16 := ds_size _
theorem dv_one (x : Fin PP) : (dv x).all (·.oneCell') = true := ds_one _
theorem info_dv (x : Fin PP) : (Tryd.prog.info? 32).map (·.size) = some (dv x).size := info_ds _
def DPost (x : Fin PP) (w : World) (e : Ending) (w' : World) : Prop := e = .returned (.agg (dv x)) ∧ Below w.heap.size w w'
theorem lim {x : Fin PP} : x.val < 115792089237316195423570985008687907853269984665640564039457584007913129639936 := by have := x.isLt; have := PP_lim; omega
theorem npost {n : Nat} {x : Fin PP} (h : n = x.val) {w : World} {e : Ending} {w' : World} (hp : NumPost n w e w') : DPost x w e w' := by subst h; exact hp
theorem neg_neg_sub (x y : Fin PP) : x - y = x + -y := by grind
section
variable {x y z : Fin PP}
theorem addD' (h : z = x + y) (w : World) : Calls Tryd.prog 18 #[.agg (dv x), .agg (dv y)] w (DPost z w) :=
  (radd_any x.val y.val w lim lim).mono fun e w' hp => npost (by rw [h, Fin.val_add]) hp
theorem negD (h : z = -x) (w : World) : Calls Tryd.prog 31 #[.agg (dv x)] w (DPost z w) :=
  (rneg_any x.val w lim).mono fun e w' hp => npost (by rw [h, Fin.val_neg', Nat.mod_eq_of_lt x.isLt]) hp
theorem mulD (h : z = x * y) (w : World) : Calls Tryd.prog 26 #[.agg (dv x), .agg (dv y)] w (DPost z w) :=
  (rmul_any x.val y.val w lim lim).mono fun e w' hp => npost (by rw [h, Fin.val_mul]) hp
theorem powerD {e : Nat} (h : z = x ^ e) (he : e < 115792089237316195423570985008687907853269984665640564039457584007913129639936) (w : World) : Calls Tryd.prog 28 #[.agg (dv x), .agg (ks e)] w (DPost z w) :=
  (rpower_any x.val e w lim he).mono fun r w' hp => npost (by rw [h, fp_pow_val]) hp
theorem invD (h : z = x ^ (PP - 2)) (w : World) : Calls Tryd.prog 27 #[.agg (dv x)] w (DPost z w) :=
  (rinv_any x.val w lim).mono fun r w' hp => npost (by rw [h, fp_pow_val]) hp
theorem bytesD (x : Fin PP) (w : World) : Calls Tryd.prog 32 #[.agg (dv x)] w (KeyPost x.val w) := rbytes_any x.val w lim
theorem smallD (n : Nat) (h : z = sm n) (hn : n < 18446744073709551616) (w : World) : Calls Tryd.prog 30 #[.int .u64 (n : Int)] w (DPost z w) :=
  (rsmall_any n w hn).mono fun r w' hp => npost (by
    rw [h]
    show n = n % PP
    rw [Nat.mod_eq_of_lt (by rw [PP_eq]; omega)]) hp
theorem dv_zero : dv 0 = ds 0 := rfl
end
/-- The number of 255 bits, by the document's way: Of, and nought added. -/
theorem numD {n : Nat} {z : Fin PP} (hn : n < 57896044618658097711785492504343953926634992332820282019728792003956564819968) (h : z = ofK n) (w : World) : Calls Tryd.prog 18 #[.agg (ds n), .agg (ds 0)] w (DPost z w) :=
  (radd_any n 0 w (by omega) (by omega)).mono fun e w' hp => npost (by
    rw [h, Nat.add_zero]
    show n % PP = n % 57896044618658097711785492504343953926634992332820282019728792003956564819968 % PP
    rw [Nat.mod_eq_of_lt hn]) hp
end Go.Proofs.YtnfckoamjeafhaaDoor
