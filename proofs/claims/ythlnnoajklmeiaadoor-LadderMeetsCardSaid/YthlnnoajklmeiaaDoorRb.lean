/- The base of the document's numbers in layer 2. -/
import Derived.Test.YthlnnoajklmeiaaDoorFb
import Derived.Test.YthlnnoajklmeiaaDoorFq
import Derived.Test.YthlnnoajklmeiaaDoorDg
