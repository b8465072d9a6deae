/- What the functions answer that the laws call, one after another (LawF). -/
import Derived.Test.YtgopneibaajgbaaAs6
import Derived.Test.YtgopneibaajgbaaL2
import Derived.Test.YtgopneibaajgbaaWk

set_option linter.unusedVariables false
namespace Go.Proofs.H
open Go.As
set_option maxRecDepth 20000
set_option linter.unusedVariables false
set_option linter.unusedSimpArgs false
theorem lawFlats (h : As.H) (W H : Int) (k : Nat) (d : Nat → Int) (hk : k ≤ 9223372036854775807) : CallOk Try.prog 4 [plV W H false k d] h (.bool true) h := mendFlats_ok (fun h => wwhole.everywhere rfl h) h W H k d hk
end Go.Proofs.H
