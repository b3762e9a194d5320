/- The walk of FieldInverts. -/
import Derived.Test.YtcmlfenjjaanpaaDoorLi1
import Derived.Test.YtcmlfenjjaanpaaDoorLi2
import Derived.Deep.DeepCutAuto
import Derived.Deep.CutBlock
namespace Go.Proofs.YtcmlfenjjaanpaaDoor
set_option linter.unusedVariables false
set_option linter.unusedSimpArgs false
open Go.RowKit

theorem law_inverts (a b : Nat) (w : World) (hpg : PG w) (ha : a < 115792089237316195423570985008687907853269984665640564039457584007913129639936) (hb : b < 115792089237316195423570985008687907853269984665640564039457584007913129639936) : Calls Tryd.prog 9 #[.agg (ks a), .agg (ks b)] w (BPost true w) := by
  rcases Bool.eq_false_or_eq_true (rootC EE II (ofK a) (sm 1)).2 with h | h
  · exact law_inverts_yes a b w hpg ha hb h
  · exact law_inverts_no a b w hpg ha hb h
end Go.Proofs.YtcmlfenjjaanpaaDoor
