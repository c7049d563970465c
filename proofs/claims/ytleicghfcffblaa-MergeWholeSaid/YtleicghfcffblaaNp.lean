/- merge's Rows, Back and Least: their contracts in one place. -/
import Derived.Test.YtleicghfcffblaaMX
import Derived.Test.YtleicghfcffblaaVc
import Derived.Test.YtleicghfcffblaaLo
namespace Go.Proofs.Ytleicghfcffblaa
end Go.Proofs.Ytleicghfcffblaa
