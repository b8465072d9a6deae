/- What the functions answer that the laws call, one after another (LawU). -/
import Derived.Test.YtmfohdhnpanfeaaAs6
import Derived.Test.YtmfohdhnpanfeaaUn
import Derived.Test.YtmfohdhnpanfeaaWk

set_option linter.unusedVariables false
namespace Go.Proofs.Q
open Go.As
set_option maxRecDepth 20000
set_option linter.unusedVariables false
set_option linter.unusedSimpArgs false
theorem lawUnseens (h : H) (a b c p q : Int) : CallOk Try.prog 7 [.int .i64 a, .int .i64 b, .int .i64 c, .agg [.int .i64 p, .int .i64 q]] h (.bool true) h := proofUnseens_ok works_any h a b c p q
end Go.Proofs.Q
