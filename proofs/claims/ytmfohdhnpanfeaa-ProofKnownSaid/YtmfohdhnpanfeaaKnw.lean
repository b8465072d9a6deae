/- What the functions answer that the laws call, one after another (Knw). -/
import Derived.Test.YtmfohdhnpanfeaaAs6
import Derived.Test.YtmfohdhnpanfeaaWk

set_option linter.unusedVariables false
namespace Go.Proofs.Q
open Go.As
set_option maxRecDepth 20000
set_option linter.unusedVariables false
set_option linter.unusedSimpArgs false
theorem kwhole : CallOk Try.prog 16 [] H.empty (.bool .true) H.empty := .of_chk mixed (.ever kWk_ok wwhole rfl) 3000 (by kernel_rfl)
end Go.Proofs.Q
