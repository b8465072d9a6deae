/- What the functions answer that the laws call, one after another, part 6. -/
import Derived.Test.YtcfblgemkgijmaaOwn5

set_option linter.unusedVariables false
namespace Go.Proofs.D
open Go.As
set_option maxRecDepth 20000
set_option linter.unusedVariables false
set_option linter.unusedSimpArgs false

/-- A star whose bounds are those of another one, turned round. -/
structure Opp (lo hi lo' hi' : Int) (l l' : List E) : Prop where
  ok : OkS lo hi l
  ok' : OkS lo' hi' l'
  el : rq (loQ lo' hi' l') = -rq (hiQ lo hi l)
  eh : rq (hiQ lo' hi' l') = -rq (loQ lo hi l)

end Go.Proofs.D

namespace Go.Proofs.D
open Go.As
set_option maxRecDepth 20000
set_option linter.unusedVariables false
set_option linter.unusedSimpArgs false

end Go.Proofs.D

namespace Go.Proofs.D
open Go.As
set_option maxRecDepth 20000
set_option linter.unusedVariables false
set_option linter.unusedSimpArgs false

theorem entry_ok (h : H) (a b c : Int) : CallOk Try.prog 50 [.int .i64 a, .int .i64 b, .int .i64 c] h (.agg [.int .i64 a, .int .i64 b, .int .i64 c]) h := by
  refine CallOk.run0 Try.func50 rfl rfl rfl rfl rfl (WpR.of_vc ?_)
  (conv => whnf); (repeat' (first | ((with_reducible refine ifb_mk (fun hc => ?_) (fun hc => ?_)) <;> ((try simp only [decide_eq_true_eq, decide_eq_false_iff_not, Bool.not_eq_true', Bool.not_eq_false', Int.not_lt, Int.not_le, ne_eq, Decidable.not_not, beq_iff_eq, List.cons.injEq, and_true] at hc); (first | (exfalso; omega) | conv => whnf))) | ((with_reducible refine And.intro True.intro ?_); conv => whnf) | ((with_reducible refine And.intro ?hh ?_); (case hh => (unfold InR; (try dsimp only); omega)); conv => whnf) | ((with_reducible refine And.intro ?hh ?_); (case hh => ((try dsimp only); omega)); conv => whnf) | ((with_reducible refine And.intro ?hh ?_); (case hh => ((conv => whnf); (repeat' (first | exact True.intro | rfl | refine And.intro ?_ ?_)); done)); conv => whnf) | fail))
  all_goals (refine ⟨[], ?_, rfl, rfl, trivial, (by (repeat' (first | exact True.intro | rfl | refine And.intro ?_ ?_)))⟩; first | rfl | (simp only [renV, renL]; first | done | rfl | (congr 1; grind []) | grind []))

end Go.Proofs.D

