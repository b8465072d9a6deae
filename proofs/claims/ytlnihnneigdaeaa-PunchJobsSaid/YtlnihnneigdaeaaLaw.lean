/- What the functions answer that the laws call, one after another (Law). -/
import Derived.Test.YtlnihnneigdaeaaAs6
import Derived.Test.YtlnihnneigdaeaaWin
import Derived.Test.YtlnihnneigdaeaaWk

set_option linter.unusedVariables false
namespace Go.Proofs.U
open Go.As
set_option maxRecDepth 20000
set_option linter.unusedVariables false
set_option linter.unusedSimpArgs false
theorem lawWindows (h : H) (P L : Int) (n : Nat) (ex : Bool) (fr to wt : Nat → Int) (hn : n ≤ 9223372036854775807) (a b : Int) : CallOk Try.prog 5 [jobV P L n ex fr to wt, .int .i64 a, .int .i64 b] h (.bool true) h := punchWindows_ok works_any h P L n ex fr to wt hn a b
theorem lawJobs (h : H) (P L : Int) (n : Nat) (ex : Bool) (fr to wt : Nat → Int) (hn : n ≤ 9223372036854775807) (ex2 : Bool) (np : Nat) (a : Nat → Int) (hnp : np ≤ 9223372036854775807) : CallOk Try.prog 3 [jobV P L n ex fr to wt, pV ex2 np a] h (.bool true) h := punchJobs_ok works_any h P L n ex fr to wt hn ex2 np a hnp
end Go.Proofs.U
