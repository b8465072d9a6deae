/- What the functions answer that the laws call, one after another (Sti). -/
import Derived.Test.YtgcnflpgolnjeaaAs6
import Derived.Test.YtgcnflpgolnjeaaWk
set_option linter.unusedVariables false
set_option linter.unusedSimpArgs false
namespace Go.Proofs.K
open Go.As
set_option maxRecDepth 20000
def byV (p : Nat → Int) : V := .agg [.int .i8 (p 0), .int .i8 (p 1), .int .i8 (p 2), .int .i8 (p 3)]
def gvF (p : Nat → Int) (k : Nat) : Int := (IntKind.i64.wrap (p k)).tmod 21
theorem gvF_bd (p : Nat → Int) (k : Nat) : -20 ≤ gvF p k ∧ gvF p k ≤ 20 := by
  have h1 := Int.tmod_lt_of_pos (IntKind.i64.wrap (p k)) (b := 21) (by decide)
  have h2 := Int.lt_tmod_of_pos (IntKind.i64.wrap (p k)) (b := 21) (by decide)
  unfold gvF; omega
theorem given_new (h : As.H) (p : Nat → Int) (D : Nat) (hD : D ≤ 3) : CallOk Try.prog 41 [.int .i64 D, byV p] h (.sl (h.n + 0) 0 (D + 1) (D + 1) false) (addBs h [paB (D + 1) (gvF p)]) := by
  have y0 : InR (gvF p 0) := by have := gvF_bd p 0; unfold InR; omega
  have y1 : InR (gvF p 1) := by have := gvF_bd p 1; unfold InR; omega
  have y2 : InR (gvF p 2) := by have := gvF_bd p 2; unfold InR; omega
  have y3 : InR (gvF p 3) := by have := gvF_bd p 3; unfold InR; omega
  refine CallOk.runN Try.func41 rfl rfl (argsC := [.int .i64 D, byV p]) (fun N => .sl (N + 0) 0 (D + 1) (D + 1) false) (fun _ => [paB (D + 1) (gvF p)]) (Nat.le_of_ble_eq_true rfl) [] (.cons (.bare rfl) (.cons (.lt0 rfl) .nil)) (viewM0 h) (.sl (i := 0) (Nat.le_of_ble_eq_true rfl) rfl rfl) rfl (fun i b hi => ?_) (WpR.of_vc ?_)
  · match i, hi with
    | 0, hi => cases hi; exact ⟨_, rfl, rfl, .bare (ofL_bare (arrV_bare fun _ => rfl))⟩
    | i + 1, hi => simp at hi
  · have h4 : D = 0 ∨ D = 1 ∨ D = 2 ∨ D = 3 := by omega
    rcases h4 with rfl | rfl | rfl | rfl
    all_goals
      (conv => whnf); (repeat' (first | ((with_reducible refine ifb_mk (fun hc => ?_) (fun hc => ?_)) <;> ((try simp only [decide_eq_true_eq, decide_eq_false_iff_not, Bool.not_eq_true', Bool.not_eq_false', Int.not_lt, Int.not_le, ne_eq, Decidable.not_not, beq_iff_eq, List.cons.injEq, and_true] at hc); (first | (exfalso; omega) | exact absurd True.intro hc | conv => whnf))) | ((with_reducible refine And.intro True.intro ?_); conv => whnf) | ((with_reducible refine WpR.loopU 5 ?_); conv => whnf) | ((with_reducible refine grd_and ?_); refine And.intro (y0) ?_; conv => whnf) | ((with_reducible refine grd_and ?_); refine And.intro (y1) ?_; conv => whnf) | ((with_reducible refine grd_and ?_); refine And.intro (y2) ?_; conv => whnf) | ((with_reducible refine grd_and ?_); refine And.intro (y3) ?_; conv => whnf) | (refine AppX.nil (n := 1) Nat.zero_lt_one (Nat.le_of_ble_eq_true rfl) ?_; conv => whnf) | (refine AppX.own (n := 1) rfl rfl rfl Nat.zero_lt_one (Nat.le_of_ble_eq_true rfl) ?_; conv => whnf) | ((with_reducible refine And.intro ?hh ?_); (case hh => exact condA); conv => whnf) | fail))
      all_goals first | (exfalso; omega) | exact ⟨[_], rfl, rfl, rfl, ⟨⟨_, rfl, rfl, SubQ.fin (by (conv => whnf); (repeat' (first | exact True.intro | rfl | refine And.intro ?_ ?_)); done) (fun h => h) (.inl rfl)⟩, paB_lt, rfl, trivial⟩, trivs⟩
theorem given_ok (h : As.H) (p : Nat → Int) (D : Nat) (hD : D ≤ 3) : CallOk Try.prog 41 [.int .i64 D, byV p] h (.rsl false 1 (D + 1) (iG (gvF p))) h :=
  CallOk.freeze (given_new h p D hD) (pa_fz (i := 0) rfl _ rfl) (fun b hb => by rw [List.mem_singleton.1 hb]; rfl)
theorem u8w {x : Int} (h : 0 ≤ x ∧ x ≤ 255) : IntKind.i64.wrap x = x := wrap_in (inR_of (by unfold InR; omega))
end Go.Proofs.K
