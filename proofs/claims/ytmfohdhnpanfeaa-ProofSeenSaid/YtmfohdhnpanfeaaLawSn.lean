/- What the functions answer that the laws call, one after another (LawSn). -/
import Derived.Test.YtmfohdhnpanfeaaAs6
import Derived.Test.YtmfohdhnpanfeaaUn2
import Derived.Test.YtmfohdhnpanfeaaWk

set_option linter.unusedVariables false
namespace Go.Proofs.Q
open Go.As
set_option maxRecDepth 20000
set_option linter.unusedVariables false
set_option linter.unusedSimpArgs false
theorem lawSeen (h : H) (a : Int) (ha : 0 ≤ a ∧ a ≤ 255) (o : Int) (_ho : 0 ≤ o ∧ o ≤ 18446744073709551615) (t : Int) (_ht : 0 ≤ t ∧ t ≤ 18446744073709551615) (nu : Int) (hnu : 0 ≤ nu ∧ nu ≤ 255) (de : Int) (hde : 0 ≤ de ∧ de ≤ 255) (le : Int) (hle : 0 ≤ le ∧ le ≤ 255) :
    CallOk Try.prog 15 [.int .u8 a, .int .u64 o, .int .u64 t, .int .u8 nu, .int .u8 de, .int .u8 le] h (.bool true) h := proofSeen_ok works_any h a o t nu de le ha hnu hde hle
end Go.Proofs.Q
