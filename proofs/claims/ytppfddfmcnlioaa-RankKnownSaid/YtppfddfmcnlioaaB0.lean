/- What the functions answer that the laws call, one after another (B0). -/
import Derived.Test.YtppfddfmcnlioaaAs6
import Derived.Test.YtppfddfmcnlioaaProg

set_option linter.unusedVariables false
namespace Go.Proofs.J
open Go.As
set_option maxRecDepth 20000
set_option linter.unusedVariables false
set_option linter.unusedSimpArgs false

/-! ### Equality of arrays of 16-bit numbers -/

namespace U16
def intVs (l : List Int) : List Value := l.map (Value.int .u16)

/-- A value of numbers: one alone, or an aggregate. -/
inductive FlatV (P : Program) (t : TypeId) (l : List Int) : Value → Prop
  | one {x : Int} (hu : P.underlying t = some (.int .u16)) (h : l = [x]) : FlatV P t l (.int .u16 x)
  | agg (ha : isAgg? P t = some true) : FlatV P t l (.agg (intVs l).toArray)

section
variable {P : Program}
end
end U16
end Go.Proofs.J

namespace Go.Proofs.J
open Go.As
set_option maxRecDepth 20000
set_option linter.unusedVariables false
set_option linter.unusedSimpArgs false

section
variable {P : Program} {t : TypeId} {x y : Operand}
end
end Go.Proofs.J

namespace Go.Proofs.J
open Go.As
set_option maxRecDepth 20000
set_option linter.unusedVariables false
set_option linter.unusedSimpArgs false

theorem mixed : Try.prog.follows .mixedOrders = true := by kernel_rfl

theorem SlC.own {h : H} {L : List V} {b n cap : Nat} {ex w : Bool} {g : Option (Nat × Nat)} (hb : h.get b = some (.cells (ofL L 0) w g)) : SlC h L n (.sl b 0 n cap ex) :=
  SlC.sl hb (fun _ _ h => by rw [Nat.zero_add]; exact get_ofL0 h)
end Go.Proofs.J

