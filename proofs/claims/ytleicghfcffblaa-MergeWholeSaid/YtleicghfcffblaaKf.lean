/- The contract of the document's Get. -/
import Derived.Test.YtleicghfcffblaaMK
namespace Go.Proofs.Ytleicghfcffblaa
open Go.RowKit
set_option maxRecDepth 20000
set_option linter.unusedVariables false
set_option linter.unusedSimpArgs false
def getS (o : Option ByteArray) : ByteArray := o.getD { data := #[] }
theorem getG_step (a b : Int) (l : List ByteArray) (k : Nat) (t : ByteArray) (h : l[k]? = some t) :
    getG a b (l.drop k) (totF (l.take k)) = if ((totF (l.take k) : Nat) : Int) = a ∧ (t.size : Int) = b then some t else getG a b (l.drop (k + 1)) (totF (l.take (k + 1))) := by
  rw [drop_at l k t h, getG, totF_step l k t h]
end Go.Proofs.Ytleicghfcffblaa
