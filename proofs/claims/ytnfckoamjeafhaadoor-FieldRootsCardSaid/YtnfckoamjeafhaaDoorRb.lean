/- The base of the document's numbers in layer 2. -/
import Derived.Test.YtnfckoamjeafhaaDoorFb
import Derived.Test.YtnfckoamjeafhaaDoorFq
import Derived.Test.YtnfckoamjeafhaaDoorDg
