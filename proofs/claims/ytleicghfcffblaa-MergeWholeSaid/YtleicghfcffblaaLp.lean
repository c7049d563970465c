/- The chart's side, as far as merge wants it. -/
import Derived.Test.YtleicghfcffblaaML
import Derived.Test.YtleicghfcffblaaMI
import Derived.Test.YtleicghfcffblaaHl
import Derived.Test.YtleicghfcffblaaHe
import Derived.Handy
namespace Go.Proofs.Ytleicghfcffblaa
open Go.RowKit
set_option maxRecDepth 20000
end Go.Proofs.Ytleicghfcffblaa
