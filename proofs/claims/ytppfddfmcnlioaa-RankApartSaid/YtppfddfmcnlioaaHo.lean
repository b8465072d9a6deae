/- What the functions answer that the laws call, one after another (Ho). -/
import Derived.Test.YtppfddfmcnlioaaAs6
import Derived.Test.YtppfddfmcnlioaaB11

set_option linter.unusedVariables false
namespace Go.Proofs.J
open Go.As
set_option maxRecDepth 20000
set_option linter.unusedVariables false
set_option linter.unusedSimpArgs false

/-- Is no star brighter than itself? -/
def hoB (S : Nat) (br : Nat → Nat) : Bool := allF S fun k => !(br k).testBit k
end Go.Proofs.J

namespace Go.Proofs.J
open Go.As
set_option maxRecDepth 20000
set_option linter.unusedVariables false
set_option linter.unusedSimpArgs false

end Go.Proofs.J

