/- What the functions answer that the laws call, one after another (LawJ). -/
import Derived.Test.YtmfohdhnpanfeaaAs6
import Derived.Test.YtmfohdhnpanfeaaJn
import Derived.Test.YtmfohdhnpanfeaaWk

set_option linter.unusedVariables false
namespace Go.Proofs.Q
open Go.As
set_option maxRecDepth 20000
set_option linter.unusedVariables false
set_option linter.unusedSimpArgs false
theorem lawJoined (h : H) (a : List UInt8) (hA : a.length ≤ 9223372036854775807) (b : List UInt8) (hB : b.length ≤ 9223372036854775807) (c : List UInt8) (hC : c.length ≤ 9223372036854775807) (d : List UInt8) (hD : d.length ≤ 9223372036854775807) :
    CallOk Try.prog 14 [tx a, tx b, tx c, tx d] h (.bool true) h := proofJoined_ok works_any h a b c d
end Go.Proofs.Q
