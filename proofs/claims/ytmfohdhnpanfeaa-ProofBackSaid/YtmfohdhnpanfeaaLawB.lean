/- What the functions answer that the laws call, one after another (LawB). -/
import Derived.Test.YtmfohdhnpanfeaaAs6
import Derived.Test.YtmfohdhnpanfeaaBk3
import Derived.Test.YtmfohdhnpanfeaaWk

set_option linter.unusedVariables false
namespace Go.Proofs.Q
open Go.As
set_option maxRecDepth 20000
set_option linter.unusedVariables false
set_option linter.unusedSimpArgs false
theorem lawBack (h : H) (T : List UInt8) (hT : T.length ≤ 9223372036854775807) (n : Nat) (s : Nat → Int) (k : Nat) (A : Nat → List UInt8) (hn : n ≤ 9223372036854775807) (hk : k ≤ 9223372036854775807) (hA : ∀ i, (A i).length ≤ 9223372036854775807) :
    CallOk Try.prog 11 [tx T, marksV n s k A false false] h (.bool true) h := proofBack_ok works_any h T n s k A hn hk
end Go.Proofs.Q
