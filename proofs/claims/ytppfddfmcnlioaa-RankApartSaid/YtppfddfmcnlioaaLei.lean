/- What the functions answer that the laws call, one after another (Lei). -/
import Derived.Test.YtppfddfmcnlioaaAs6
import Derived.Test.YtppfddfmcnlioaaWlk
import Derived.Test.YtppfddfmcnlioaaCnt
import Derived.Test.YtppfddfmcnlioaaLb

set_option linter.unusedVariables false
namespace Go.Proofs.J
open Go.As
set_option maxRecDepth 20000
set_option linter.unusedVariables false
set_option linter.unusedSimpArgs false

set_option maxHeartbeats 4000000 in
theorem count_top (h : As.H) (S : Nat) (ex : Bool) (n : Nat) (a b : Nat → Int) (hv : ckB S n a b = 0) :
    CallOk Try.prog 28 [bkV S ex n a b] h (.tup [.int .i64 (wN (clo (loT a b n)) S S 0), .int .i64 0]) h := by
  obtain ⟨hS, hn, hok⟩ := ckB_fine hv
  have kB : ∀ (h' : As.H) (s : Nat), s = h'.n + 0 → _ := fun h' s e => by
    have := skyFor_new h' S ex n a b hv
    rw [← e] at this
    exact this
  have hTb := clo_tb (loT a b n)
  generalize clo (loT a b n) = br at *
  generalize loT a b n = lk at *
  have kB := fun (h' : As.H) (e : 1 = h'.n + 0) => kB h' 1 e
  have kC := fun (h' : As.H) hs => count_ok h' 1 S hS (.rsl ex 2 n (lkG a b)) rfl lk br hTb (fun _ => false) (w := true) (g := none) hs
  generalize wN br S S 0 = r at *
  refine CallOk.run0 Try.func28 rfl rfl rfl rfl rfl (WpR.of_vc ?_)
  (conv => whnf); (repeat' (first | ((with_reducible refine ifb_mk (fun hc => ?_) (fun hc => ?_)) <;> ((try simp only [decide_eq_true_eq, decide_eq_false_iff_not, Bool.not_eq_true', Bool.not_eq_false', Int.not_lt, Int.not_le, ne_eq, Decidable.not_not, beq_iff_eq, List.cons.injEq, and_true] at hc); (first | (exfalso; omega) | exact absurd True.intro hc | conv => whnf))) | ((with_reducible refine And.intro True.intro ?_); conv => whnf) | ((with_reducible refine CallX.all ?_); refine CallW.of_ok (kB _ (by rfl)) ?_; conv => whnf) | ((with_reducible refine CallX.all ?_); refine CallW.of_ok (kC _ rfl) ?_; conv => whnf) | ((with_reducible refine And.intro ?hh ?_); (case hh => exact condA); conv => whnf) | fail))
  all_goals first | (refine ⟨[], ?_, rfl, rfl, trivial, trivs⟩; simp only [renV, renL]; (first | done | rfl | (simp; done) | (simp; omega) | grind)) | (exfalso; omega)
end Go.Proofs.J

namespace Go.Proofs.J
open Go.As
set_option maxRecDepth 20000
set_option linter.unusedVariables false
set_option linter.unusedSimpArgs false

/-! ### Either an order or a circle -/

section
variable {S n : Nat} {a b : Nat → Int}
theorem lk_in (hok : ∀ i, i < n → okL S a b i = true) {x y : Nat} (h : (loT a b n y).testBit x = true) : x < S ∧ y < S ∧ x ≠ y := by
  obtain ⟨i, hi, h1, h2⟩ := (loT_bit hok).1 h
  have := of_decide_eq_true (hok i hi)
  omega
theorem rch_in (hok : ∀ i, i < n → okL S a b i = true) {x y : Nat} (r : Rch (loT a b n) x y) : x < S ∧ y < S := by
  induction r with
  | one h => have := lk_in hok h; omega
  | step h r ih => have := lk_in hok h; omega
end
end Go.Proofs.J

namespace Go.Proofs.J
open Go.As
set_option maxRecDepth 20000
set_option linter.unusedVariables false
set_option linter.unusedSimpArgs false

theorem fine_ok (h : As.H) (S : Int) (ex : Bool) (n : Nat) (a b : Nat → Int) (hn : n ≤ 9223372036854775807) : CallOk Try.prog 46 [bkV S ex n a b] h (.bool (!decide (50 < n) && decide (ckB S n a b = 0))) h := by
  have kG := fun h' => great_ok h' S ex n a b
  have k2 := fun h' => checkBookR_ok h' S ex n a b hn
  by_cases h1 : 50 < n
  · rw [decide_eq_true h1] at kG
    rw [decide_eq_true h1]
    refine CallOk.run0 Try.func46 rfl rfl rfl rfl rfl (WpR.of_vc ?_)
    (conv => whnf); (repeat' (first | ((with_reducible refine ifb_mk (fun hc => ?_) (fun hc => ?_)) <;> ((try simp only [decide_eq_true_eq, decide_eq_false_iff_not, Bool.not_eq_true', Bool.not_eq_false', Int.not_lt, Int.not_le, ne_eq, Decidable.not_not, beq_iff_eq, List.cons.injEq, and_true] at hc); (first | (exfalso; omega) | exact absurd True.intro hc | conv => whnf))) | ((with_reducible refine And.intro True.intro ?_); conv => whnf) | ((with_reducible refine CallX.all ?_); refine CallW.of_ok (kG _) ?_; conv => whnf) | ((with_reducible refine CallX.all ?_); refine CallW.of_ok (k2 _) ?_; conv => whnf) | ((with_reducible refine And.intro ?hh ?_); (case hh => exact condA); conv => whnf) | fail))
    all_goals first | (refine ⟨[], ?_, rfl, rfl, trivial, trivs⟩; simp only [renV, renL]; (first | done | rfl | (simp; done) | (simp; omega) | grind)) | (exfalso; omega)
  · rw [decide_eq_false h1] at kG
    rw [decide_eq_false h1]
    generalize ckB S n a b = e at *
    by_cases h2 : e = 0
    · rw [decide_eq_true h2]
      refine CallOk.run0 Try.func46 rfl rfl rfl rfl rfl (WpR.of_vc ?_)
      (conv => whnf); (repeat' (first | ((with_reducible refine ifb_mk (fun hc => ?_) (fun hc => ?_)) <;> ((try simp only [decide_eq_true_eq, decide_eq_false_iff_not, Bool.not_eq_true', Bool.not_eq_false', Int.not_lt, Int.not_le, ne_eq, Decidable.not_not, beq_iff_eq, List.cons.injEq, and_true] at hc); (first | (exfalso; omega) | exact absurd True.intro hc | conv => whnf))) | ((with_reducible refine And.intro True.intro ?_); conv => whnf) | ((with_reducible refine CallX.all ?_); refine CallW.of_ok (kG _) ?_; conv => whnf) | ((with_reducible refine CallX.all ?_); refine CallW.of_ok (k2 _) ?_; conv => whnf) | ((with_reducible refine grd_and ?_); refine And.intro (h2) ?_; conv => whnf) | ((with_reducible refine And.intro ?hh ?_); (case hh => exact condA); conv => whnf) | fail))
      all_goals first | (refine ⟨[], ?_, rfl, rfl, trivial, trivs⟩; simp only [renV, renL]; (first | done | rfl | (simp; done) | (simp; omega) | grind)) | (exfalso; omega)
    · rw [decide_eq_false h2]
      refine CallOk.run0 Try.func46 rfl rfl rfl rfl rfl (WpR.of_vc ?_)
      (conv => whnf); (repeat' (first | ((with_reducible refine ifb_mk (fun hc => ?_) (fun hc => ?_)) <;> ((try simp only [decide_eq_true_eq, decide_eq_false_iff_not, Bool.not_eq_true', Bool.not_eq_false', Int.not_lt, Int.not_le, ne_eq, Decidable.not_not, beq_iff_eq, List.cons.injEq, and_true] at hc); (first | (exfalso; omega) | exact absurd True.intro hc | conv => whnf))) | ((with_reducible refine And.intro True.intro ?_); conv => whnf) | ((with_reducible refine CallX.all ?_); refine CallW.of_ok (kG _) ?_; conv => whnf) | ((with_reducible refine CallX.all ?_); refine CallW.of_ok (k2 _) ?_; conv => whnf) | ((with_reducible refine grd_and ?_); refine And.intro (h2) ?_; conv => whnf) | ((with_reducible refine And.intro ?hh ?_); (case hh => exact condA); conv => whnf) | fail))
      all_goals first | (refine ⟨[], ?_, rfl, rfl, trivial, trivs⟩; simp only [renV, renL]; (first | done | rfl | (simp; done) | (simp; omega) | grind)) | (exfalso; omega)
theorem pc_zero : ∀ n, pcN 0 n = 0
  | 0 => rfl
  | n + 1 => by unfold pcN; rw [pc_zero n, Nat.zero_testBit]; rfl
end Go.Proofs.J

