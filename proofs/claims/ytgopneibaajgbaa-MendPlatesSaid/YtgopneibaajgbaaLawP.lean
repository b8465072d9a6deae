/- What the functions answer that the laws call, one after another (LawP). -/
import Derived.Test.YtgopneibaajgbaaAs6
import Derived.Test.YtgopneibaajgbaaL1
import Derived.Test.YtgopneibaajgbaaWk

set_option linter.unusedVariables false
namespace Go.Proofs.H
open Go.As
set_option maxRecDepth 20000
set_option linter.unusedVariables false
set_option linter.unusedSimpArgs false
theorem lawPlates (h : As.H) (W H : Int) (k : Nat) (d : Nat → Int) (hk : k ≤ 9223372036854775807) (p : Int) (kb : Nat) (bl : Nat → Int) (hkb : kb ≤ 9223372036854775807) :
    CallOk Try.prog 3 [plV W H false k d, .int .i64 p, .rsl false 1 kb (iG bl)] h (.bool true) h := mendPlates_ok (fun h => wwhole.everywhere rfl h) h W H k d hk p kb bl hkb
end Go.Proofs.H
