/- The document's Sub. -/
import Derived.Test.YtnfckoamjeafhaaDoorRc
import Derived.Test.YtnfckoamjeafhaaDoorRg
namespace Go.Proofs.YtnfckoamjeafhaaDoor
set_option linter.unusedVariables false
set_option linter.unusedSimpArgs false
open Go Go.RowKit

end Go.Proofs.YtnfckoamjeafhaaDoor
