/- What the functions answer that the laws call, one after another (LawN). -/
import Derived.Test.YtmfohdhnpanfeaaAs6
import Derived.Test.YtmfohdhnpanfeaaLn
import Derived.Test.YtmfohdhnpanfeaaWk

set_option linter.unusedVariables false
namespace Go.Proofs.Q
open Go.As
set_option maxRecDepth 20000
set_option linter.unusedVariables false
set_option linter.unusedSimpArgs false
theorem lawNear (h : H) (a : List UInt8) (hA : a.length ≤ 9223372036854775807) (b : List UInt8) (hB : b.length ≤ 9223372036854775807) (c : List UInt8) (hC : c.length ≤ 9223372036854775807) :
    CallOk Try.prog 9 [tx a, tx b, tx c] h (.bool true) h := proofNear_ok works_any h a b c hA hB hC
end Go.Proofs.Q
