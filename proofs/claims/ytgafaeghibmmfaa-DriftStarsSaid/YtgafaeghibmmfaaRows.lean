/-
  No cell of these rows narrows 'for every input' (looked for: loops, veiled, ifaces, maps, wideKeys, modest, calm, conditions, laid).
  DERIVED. THE GIVEN ROWS OF THIS SEAT. 3 by the template 'for every input the law returns true; each argument reads behind the call as it read before'; 0 by the template 'total and deterministic' (their statements: YtgafaeghibmmfaaTotals.lean).
  GIVEN WITH THE SEED: the statements are not yours to turn. If you find one false, say at which input.
  Laid BY PROGRAM, IN A SANDBOX (cutbox-rows.mjs): the forced cells as the released guide's own fill.sh prints them over the translation 2831ca49ef164876… (all of the seat's roots in one cut). By AI agents, Wed Nov 11 2026. No macro, syntax, notation, axiom, sorry.
-/
import Derived.Test.YtgafaeghibmmfaaChecked
import GoSem.Claim
import GoSem.ClaimJoined
import GoSem.ClaimMapViews
import Derived.JoinedTies
import Derived.KernelRfl
namespace Go.Proofs.Ytgafaeghibmmfaa
/- THE CELL 'sum', in the pinned program and in every row, IS THE sha256 OF THE DUMP (.gsa) THAT YtgafaeghibmmfaaProg.lean LOADS. Nothing in Lean hashes anything: it is a label: what it is worth is what the hold of that sum in a sandbox is worth. -/
noncomputable def Try.pinned : Pinned := { name := "ytgafaeghibmmfaa", sum := "2831ca49ef164876d9bf188329b94a3ac6610bcd83e5e5d99328acd629e195c2", checked := Try.checked }
namespace Rows
def none {H : Type} : Left H := { results := [], args := [] }

/-- 'burinlaw01.DriftStars': WHATEVER THE INPUT: true; the input reads as it did. -/
def driftStarsSpec : ChangeSpec := { name := "driftStars", fn := fun _ => fun
  | [d1, d2] => { results := [.lit (.bool true)], args := [d1, d2] }
  | _ => none }
def driftStarsRow : OpenClaim := { program := "ytgafaeghibmmfaa", sum := "2831ca49ef164876d9bf188329b94a3ac6610bcd83e5e5d99328acd629e195c2", func := "burin/burinlaw01.DriftStars", spec := "driftStars", unfollowed := true, recurses := true, plainKeys := false, apart := false }
def DriftStarsSaid : Prop := driftStarsRow.holds Try.pinned (OpenSpec.ofChange driftStarsSpec)

/-- ITS FALSE NEIGHBOUR: 'it returns false'. Refute it at one input. -/
def driftStarsWrong : ChangeSpec := { name := "driftStars", fn := fun _ => fun
  | [d1, d2] => { results := [.lit (.bool false)], args := [d1, d2] }
  | _ => none }
def DriftStarsWrongFalsely : Prop := driftStarsRow.holds Try.pinned (OpenSpec.ofChange driftStarsWrong)

/-- 'burinlaw02.NameSheets': WHATEVER THE INPUT: true; the input reads as it did. -/
def nameSheetsSpec : ChangeSpec := { name := "nameSheets", fn := fun _ => fun
  | [d1, d2] => { results := [.lit (.bool true)], args := [d1, d2] }
  | _ => none }
def nameSheetsRow : OpenClaim := { program := "ytgafaeghibmmfaa", sum := "2831ca49ef164876d9bf188329b94a3ac6610bcd83e5e5d99328acd629e195c2", func := "burin/burinlaw02.NameSheets", spec := "nameSheets", unfollowed := true, recurses := true, plainKeys := false, apart := false }
def NameSheetsSaid : Prop := nameSheetsRow.holds Try.pinned (OpenSpec.ofChange nameSheetsSpec)

/-- ITS FALSE NEIGHBOUR: 'it returns false'. Refute it at one input. -/
def nameSheetsWrong : ChangeSpec := { name := "nameSheets", fn := fun _ => fun
  | [d1, d2] => { results := [.lit (.bool false)], args := [d1, d2] }
  | _ => none }
def NameSheetsWrongFalsely : Prop := nameSheetsRow.holds Try.pinned (OpenSpec.ofChange nameSheetsWrong)

/-- 'burinlaw02.NameKnown': WHATEVER THE INPUT: true; the input reads as it did. -/
def nameKnownSpec : ChangeSpec := { name := "nameKnown", fn := fun _ => fun
  | [] => { results := [.lit (.bool true)], args := [] }
  | _ => none }
def nameKnownRow : OpenClaim := { program := "ytgafaeghibmmfaa", sum := "2831ca49ef164876d9bf188329b94a3ac6610bcd83e5e5d99328acd629e195c2", func := "burin/burinlaw02.NameKnown", spec := "nameKnown", unfollowed := true, recurses := true, plainKeys := false, apart := false }
def NameKnownSaid : Prop := nameKnownRow.holds Try.pinned (OpenSpec.ofChange nameKnownSpec)

/-- ITS FALSE NEIGHBOUR: 'it returns false'. Refute it at one input. -/
def nameKnownWrong : ChangeSpec := { name := "nameKnown", fn := fun _ => fun
  | [] => { results := [.lit (.bool false)], args := [] }
  | _ => none }
def NameKnownWrongFalsely : Prop := nameKnownRow.holds Try.pinned (OpenSpec.ofChange nameKnownWrong)

/- THE SECOND FORM. 'bulk': how many values and letters a reading holds, each counted each time it is reached (what is shared counts as often as it is met; a slice's spare places count too). A statement '..UptoSaid' is the law's where the arguments, and the package variables that the reading takes, are together of bulk at most 1048576: NARROWER than '..Said'. Prove '..Said' where nothing that the law and all that it calls make is longer than what came in: it says more and counts as full. Else prove '..UptoSaid'. A law counts once. -/
mutual
def uptoBulk {H : Type} : DataW H → Nat
  | .lit (.string bytes) => bytes.length + 1
  | .lit _ => 1
  | .nil => 1
  | .ptr d => uptoBulk d + 1
  | .slice elems spare => uptoBulkAll elems + uptoBulkAll spare + 1
  | .agg parts => uptoBulkAll parts + 1
  | .iface _ d => uptoBulk d + 1
  | .map entries => uptoBulkEntries entries + 1
  | .held _ => 1
def uptoBulkAll {H : Type} : List (DataW H) → Nat
  | [] => 0
  | d :: r => uptoBulk d + uptoBulkAll r
def uptoBulkEntries {H : Type} : List (Lit × DataW H) → Nat
  | [] => 0
  | x :: r => uptoBulkEntry x + uptoBulkEntries r
def uptoBulkEntry {H : Type} : Lit × DataW H → Nat
  | (.string bytes, d) => bytes.length + uptoBulk d + 1
  | (_, d) => uptoBulk d + 1
 end
def uptoSmall : (H : Type) → List (DataW H) → Bool := fun _ ds => decide (uptoBulkAll ds ≤ 1048576)
def OpenSpec.upto (s : _root_.Go.ChangeSpec) : _root_.Go.OpenSpec := { _root_.Go.OpenSpec.ofChange s with cond := some uptoSmall }

/-- 'burinlaw01.DriftStars', WHERE WHAT IT READS IS OF BULK AT MOST 1048576: true; the input reads as it did. -/
def driftStarsUptoRow : OpenClaim := { program := "ytgafaeghibmmfaa", sum := "2831ca49ef164876d9bf188329b94a3ac6610bcd83e5e5d99328acd629e195c2", func := "burin/burinlaw01.DriftStars", spec := "driftStars", unfollowed := true, recurses := true, plainKeys := false, apart := false, narrowed := true }
def DriftStarsUptoSaid : Prop := driftStarsUptoRow.holds Try.pinned (OpenSpec.upto driftStarsSpec)

/-- 'burinlaw02.NameSheets', WHERE WHAT IT READS IS OF BULK AT MOST 1048576: true; the input reads as it did. -/
def nameSheetsUptoRow : OpenClaim := { program := "ytgafaeghibmmfaa", sum := "2831ca49ef164876d9bf188329b94a3ac6610bcd83e5e5d99328acd629e195c2", func := "burin/burinlaw02.NameSheets", spec := "nameSheets", unfollowed := true, recurses := true, plainKeys := false, apart := false, narrowed := true }
def NameSheetsUptoSaid : Prop := nameSheetsUptoRow.holds Try.pinned (OpenSpec.upto nameSheetsSpec)

/-- 'burinlaw02.NameKnown', WHERE WHAT IT READS IS OF BULK AT MOST 1048576: true; the input reads as it did. -/
def nameKnownUptoRow : OpenClaim := { program := "ytgafaeghibmmfaa", sum := "2831ca49ef164876d9bf188329b94a3ac6610bcd83e5e5d99328acd629e195c2", func := "burin/burinlaw02.NameKnown", spec := "nameKnown", unfollowed := true, recurses := true, plainKeys := false, apart := false, narrowed := true }
def NameKnownUptoSaid : Prop := nameKnownUptoRow.holds Try.pinned (OpenSpec.upto nameKnownSpec)

end Rows
end Go.Proofs.Ytgafaeghibmmfaa
