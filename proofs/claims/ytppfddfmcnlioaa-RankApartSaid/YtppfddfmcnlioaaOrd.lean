/- What the functions answer that the laws call, one after another (Ord). -/
import Derived.Test.YtppfddfmcnlioaaAs6
import Derived.Test.YtppfddfmcnlioaaHo

set_option linter.unusedVariables false
namespace Go.Proofs.J
open Go.As
set_option maxRecDepth 20000
set_option linter.unusedVariables false
set_option linter.unusedSimpArgs false

/-- A table of what is brighter: of S stars, with all that follows, and no star brighter than itself. -/
structure Ac (S : Nat) (br : Nat → Nat) : Prop where
  tb : Tb br
  st : ∀ i j, i < 10 → (br i).testBit j = true → j < S
  tr : ∀ i j, i < 10 → (br i).testBit j = true → ∀ k, (br j).testBit k = true → (br i).testBit k = true
  no : ∀ i, i < S → (br i).testBit i = false
end Go.Proofs.J

namespace Go.Proofs.J
open Go.As
set_option maxRecDepth 20000
set_option linter.unusedVariables false
set_option linter.unusedSimpArgs false

theorem AppX.room {sz : Nat} {h : As.H} {n len cap b o : Nat} {ex : Bool} {r : List V} {c c' : Tr V} {g : Option (Nat × Nat)} {K : V → As.H → Prop} (hg : h.get b = some (.cells c true g)) (hle : len + n ≤ cap) (hp : putN r c (o + len * sz) = some c')
    (hK : K (.sl b o (len + n) cap ex) (h.put b (.cells c' true g))) : AppX sz h n r (.sl b o len cap ex) K := .all (by
  refine som_mk (a := (.sl b o (len + n) cap ex, h.put b (.cells c' true g))) ?_ hK
  unfold appendTo
  simp only [hg]
  rw [if_pos hle, hp])
end Go.Proofs.J

namespace Go.Proofs.J
open Go.As
set_option maxRecDepth 20000
set_option linter.unusedVariables false
set_option linter.unusedSimpArgs false

end Go.Proofs.J

