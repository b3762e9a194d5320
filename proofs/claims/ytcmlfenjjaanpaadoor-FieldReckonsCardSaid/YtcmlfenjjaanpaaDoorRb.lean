/- The base of the document's numbers in layer 2. -/
import Derived.Test.YtcmlfenjjaanpaaDoorFb
import Derived.Test.YtcmlfenjjaanpaaDoorFq
import Derived.Test.YtcmlfenjjaanpaaDoorDg
