/- The walk of Swap. -/
import Derived.Test.YtnfckoamjeafhaaDoorFq
import Derived.Test.YtnfckoamjeafhaaDoorFr
namespace Go.Proofs.YtnfckoamjeafhaaDoor
set_option linter.unusedVariables false
set_option linter.unusedSimpArgs false
open Go.RowKit

theorem es_size (n : Nat) : (es n).size = 4 := rfl
theorem select_no (x y : Nat) (w : World) : Calls Tryd.prog 25 #[.agg (es x), .agg (es y), .bool false] w (ElemPost x w) := select_any x y false w
theorem select_yes (x y : Nat) (w : World) : Calls Tryd.prog 25 #[.agg (es x), .agg (es y), .bool true] w (ElemPost y w) := select_any x y true w
end Go.Proofs.YtnfckoamjeafhaaDoor
