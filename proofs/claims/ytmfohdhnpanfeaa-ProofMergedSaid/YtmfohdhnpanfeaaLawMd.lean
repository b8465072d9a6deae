/- What the functions answer that the laws call, one after another (LawMd). -/
import Derived.Test.YtmfohdhnpanfeaaAs6
import Derived.Test.YtmfohdhnpanfeaaMd
import Derived.Test.YtmfohdhnpanfeaaWk

set_option linter.unusedVariables false
namespace Go.Proofs.Q
open Go.As
set_option maxRecDepth 20000
set_option linter.unusedVariables false
set_option linter.unusedSimpArgs false
theorem lawMerged (h : H) (T : List UInt8) (hT : T.length ≤ 9223372036854775807) (n : Nat) (s : Nat → Int) (k : Nat) (A : Nat → List UInt8) (hn : n ≤ 9223372036854775807) (hk : k ≤ 9223372036854775807) (hA : ∀ i, (A i).length ≤ 9223372036854775807)
    (n' : Nat) (s' : Nat → Int) (k' : Nat) (B : Nat → List UInt8) (hn' : n' ≤ 9223372036854775807) (hk' : k' ≤ 9223372036854775807) (hB : ∀ i, (B i).length ≤ 9223372036854775807)
    (o : Nat) (t : Nat → Int) (k'' : Nat) (C : Nat → List UInt8) (ho : o ≤ 9223372036854775807) (hk'' : k'' ≤ 9223372036854775807) (hC : ∀ i, (C i).length ≤ 9223372036854775807) :
    CallOk Try.prog 12 [tx T, marksV n s k A false false, marksV n' s' k' B false false, marksV o t k'' C false false] h (.bool true) h := proofMerged_ok works_any h T n s k A hn hk n' s' k' B hn' hk' o t k'' C ho hk''
end Go.Proofs.Q
