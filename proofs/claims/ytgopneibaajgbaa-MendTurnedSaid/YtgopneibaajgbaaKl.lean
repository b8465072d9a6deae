/- What the functions answer that the laws call, one after another (Kl). -/
import Derived.Test.YtgopneibaajgbaaAs6
import Derived.Test.YtgopneibaajgbaaL5
import Derived.Test.YtgopneibaajgbaaTh
import Derived.Test.YtgopneibaajgbaaR2
import Derived.Test.YtgopneibaajgbaaG0
import Derived.Test.YtgopneibaajgbaaWk
import Derived.Test.YtgopneibaajgbaaRead

set_option linter.unusedVariables false
namespace Go.Proofs.H
open Go.As
set_option maxRecDepth 20000
set_option linter.unusedVariables false
set_option linter.unusedSimpArgs false

def lsL (f : Nat → Int) : Nat → List Int
  | 0 => []
  | i + 1 => f i :: lsL f i
theorem lsL_len (f : Nat → Int) : ∀ i, (lsL f i).length = i
  | 0 => rfl
  | i + 1 => by show (lsL f i).length + 1 = _; rw [lsL_len f i]
theorem lsL_rev (f : Nat → Int) : ∀ n, gR eI (lsL f n) = arrV n fun k => .int .i64 (f k)
  | 0 => rfl
  | n + 1 => by
    have e : gR eI (lsL f (n + 1)) = gR eI (lsL f n) ++ [.int .i64 (f n)] := rfl
    rw [e, lsL_rev f n]
    unfold arrV
    rw [List.range_succ, List.map_append]
    rfl
section
variable {W H n : Nat} {d : Nat → Int}
end
end Go.Proofs.H

namespace Go.Proofs.H
open Go.As Go.ChangeShapes Go.WideShapes Go.Deep Go.ChangeAt Go.RowKit
set_option maxRecDepth 20000
set_option linter.unusedVariables false

section
variable {H : Type} {enc : TypeId × Value → H} {P : Program} {w : World}
end
section
variable {H : Type} {enc : TypeId × Value → H} {W : World}
end
end Go.Proofs.H

