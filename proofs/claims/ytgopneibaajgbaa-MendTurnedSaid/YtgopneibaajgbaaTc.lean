/- What the functions answer that the laws call, one after another (Tc). -/
import Derived.Test.YtgopneibaajgbaaAs6
import Derived.Test.YtgopneibaajgbaaTa
import Derived.Test.YtgopneibaajgbaaTb

set_option linter.unusedVariables false
namespace Go.Proofs.H
open Go.As
set_option maxRecDepth 20000
set_option linter.unusedVariables false
set_option linter.unusedSimpArgs false
theorem lawTurned (h : As.H) (W H : Int) (k : Nat) (d : Nat → Int) (hk : k ≤ 9223372036854775807) (co ro ex : Bool) :
    CallOk Try.prog 13 [plV W H false k d, .bool co, .bool ro, .bool ex] h (.bool true) h := by
  cases ex <;> cases co <;> cases ro
  · exact turned_000 h W H k d hk
  · exact turned_001 h W H k d hk
  · exact turned_010 h W H k d hk
  · exact turned_011 h W H k d hk
  · exact turned_100 h W H k d hk
  · exact turned_101 h W H k d hk
  · exact turned_110 h W H k d hk
  · exact turned_111 h W H k d hk
end Go.Proofs.H

