/- What the functions answer that the laws call, one after another (G0). -/
import Derived.Test.YtgopneibaajgbaaAs6
import Derived.Test.YtgopneibaajgbaaR1

set_option linter.unusedVariables false
namespace Go.Proofs.H
open Go.As
set_option maxRecDepth 20000
set_option linter.unusedVariables false
set_option linter.unusedSimpArgs false

/-! ### Lists of numbers that grow -/

theorem gI_bare (l : List Int) : ∀ v ∈ gR eI l, bare0 v = true := gR_bare eI_bare
end Go.Proofs.H

