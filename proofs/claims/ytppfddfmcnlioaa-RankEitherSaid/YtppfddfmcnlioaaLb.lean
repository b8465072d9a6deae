/- What the functions answer that the laws call, one after another (Lb). -/
import Derived.Test.YtppfddfmcnlioaaAs6
import Derived.Test.YtppfddfmcnlioaaB11
import Derived.Test.YtppfddfmcnlioaaWk

set_option linter.unusedVariables false
namespace Go.Proofs.J
open Go.As
set_option maxRecDepth 20000
set_option linter.unusedVariables false
set_option linter.unusedSimpArgs false

set_option maxHeartbeats 8000000 in
theorem checkCircleR_ok (h : As.H) (S : Nat) (ex : Bool) (n : Nat) (a b : Nat → Int) (hv : ckB S n a b = 0) (ex2 : Bool) (k : Nat) (hk : k ≤ 9223372036854775807) (l : Nat → Int) :
    CallOk Try.prog 25 [bkV S ex n a b, .rsl ex2 1 k (iG l)] h (.int .i64 (ciE S n a b k l)) h := by
  obtain ⟨hS, hn, hok⟩ := ckB_fine hv
  rw [ciE_eq hok]
  have k1 := fun h' => checkBookR_ok h' S ex n a b (by omega)
  rw [hv] at k1
  have kS := fun i h' => isStar_ok h' S ex n a b (l i)
  have kL := fun i h' => look_ok h' S ex n a b (l i) (l ((i + 1) % k)) (by omega)
  by_cases h1 : 2 ≤ k ∧ k ≤ 10
  rotate_left
  · rw [if_neg h1]
    refine CallOk.run0 Try.func25 rfl rfl rfl rfl rfl (WpR.of_vc ?_)
    (conv => whnf); (repeat' (first | ((with_reducible refine ifb_mk (fun hc => ?_) (fun hc => ?_)) <;> ((try simp only [decide_eq_true_eq, decide_eq_false_iff_not, Bool.not_eq_true', Bool.not_eq_false', Int.not_lt, Int.not_le, ne_eq, Decidable.not_not, beq_iff_eq, List.cons.injEq, and_true] at hc); (first | (exfalso; omega) | exact absurd True.intro hc | conv => whnf))) | ((with_reducible refine And.intro True.intro ?_); conv => whnf) | ((with_reducible refine CallX.all ?_); refine CallW.of_ok (k1 _) ?_; conv => whnf) | ((with_reducible refine And.intro ?hh ?_); (case hh => exact condA); conv => whnf) | fail))
    all_goals first | (refine ⟨[], ?_, rfl, rfl, trivial, trivs⟩; simp only [renV, renL]; (first | done | rfl | (simp; done) | (simp; omega) | grind)) | (exfalso; omega)
  rw [if_pos h1]
  have s1 := fun i => @allF_f k i fun i => decide (0 ≤ l i ∧ l i < (S : Int))
  have s2 := @allF_t k fun i => decide (0 ≤ l i ∧ l i < (S : Int))
  have c1 := fun i => @allF_f k i fun i => lkB n a b (l i) (l ((i + 1) % k))
  have c2 := @allF_t k fun i => lkB n a b (l i) (l ((i + 1) % k))
  unfold stB cjB
  generalize (allF k fun i => decide (0 ≤ l i ∧ l i < (S : Int))) = zs at *
  generalize (allF k fun i => lkB n a b (l i) (l ((i + 1) % k))) = zc at *
  refine CallOk.run0 Try.func25 rfl rfl rfl rfl rfl (WpR.of_vc ?_)
  (conv => whnf); (repeat' (first | ((with_reducible refine ifb_mk (fun hc => ?_) (fun hc => ?_)) <;> ((try simp only [decide_eq_true_eq, decide_eq_false_iff_not, Bool.not_eq_true', Bool.not_eq_false', Int.not_lt, Int.not_le, ne_eq, Decidable.not_not, beq_iff_eq, List.cons.injEq, and_true] at hc); (first | (exfalso; omega) | exact absurd True.intro hc | conv => whnf))) | ((with_reducible refine And.intro True.intro ?_); conv => whnf) | ((with_reducible refine CallX.all ?_); refine CallW.of_ok (k1 _) ?_; conv => whnf) | ((with_reducible refine And.intro ?hh ?_); (case hh => exact condA); conv => whnf) | fail))
  all_goals first | (exfalso; omega) | skip
  refine WpR.loopA (ι := Nat) [] [1, 2] [] [] 1 (fun i => [(5, .int .i64 i)]) (fun _ => []) (fun i => k - i) (fun i => i ≤ k ∧ ∀ j, j < i → decide (0 ≤ l j ∧ l j < (S : Int)) = true) ?_ (0) (⟨by omega, fun k hk => absurd hk (Nat.not_lt_zero _)⟩) [] Back.auto
  rintro i ⟨j1, j2⟩
  refine WpR.of_vc ?_
  by_cases hi : i < k
  · have kS := kS i
    cases hw : decide (0 ≤ l i ∧ l i < (S : Int)) with
    | true =>
      rw [hw] at kS
      have hnx := below_succ j2 hw
      (conv => whnf); (repeat' (first | ((with_reducible refine ifb_mk (fun hc => ?_) (fun hc => ?_)) <;> ((try simp only [decide_eq_true_eq, decide_eq_false_iff_not, Bool.not_eq_true', Bool.not_eq_false', Int.not_lt, Int.not_le, ne_eq, Decidable.not_not, beq_iff_eq, List.cons.injEq, and_true] at hc); (first | (exfalso; omega) | exact absurd True.intro hc | conv => whnf))) | ((with_reducible refine And.intro True.intro ?_); conv => whnf) | ((with_reducible refine grd_and ?_); refine And.intro (hi) ?_; conv => whnf) | ((with_reducible refine grd_ex ?_); refine ex_ok (kS _) ?_; conv => whnf) | ((with_reducible refine CallX.all ?_); refine CallW.of_ok (kS _) ?_; conv => whnf) | ((with_reducible refine WpR.draw (id := 8) mixed [0, 1, 2, 3, 4, 5, 6] [0, 0, 0, 6, 14, 31, 63] ?hh ?_); (case hh => kernel_rfl); conv => whnf) | ((with_reducible refine WpR.draw (id := 13) mixed [0, 1, 2, 3, 4, 5, 6, 7, 8, 9, 10, 11, 12, 13, 14] [0, 0, 0, 6, 14, 0, 0, 64, 0, 256, 960, 2016, 4064, 8191, 16383] ?hh ?_); (case hh => kernel_rfl); conv => whnf) | ((with_reducible refine And.intro ?hh ?_); (case hh => exact condA); conv => whnf) | fail))
      all_goals first | (exfalso; omega) | exact ⟨i + 1, [], by omega, ⟨by omega, hnx⟩, Back.auto⟩
    | false =>
      rw [hw] at kS
      have ez : zs = false := s1 i hi hw
      subst ez
      (conv => whnf); (repeat' (first | ((with_reducible refine ifb_mk (fun hc => ?_) (fun hc => ?_)) <;> ((try simp only [decide_eq_true_eq, decide_eq_false_iff_not, Bool.not_eq_true', Bool.not_eq_false', Int.not_lt, Int.not_le, ne_eq, Decidable.not_not, beq_iff_eq, List.cons.injEq, and_true] at hc); (first | (exfalso; omega) | exact absurd True.intro hc | conv => whnf))) | ((with_reducible refine And.intro True.intro ?_); conv => whnf) | ((with_reducible refine grd_and ?_); refine And.intro (hi) ?_; conv => whnf) | ((with_reducible refine grd_ex ?_); refine ex_ok (kS _) ?_; conv => whnf) | ((with_reducible refine CallX.all ?_); refine CallW.of_ok (kS _) ?_; conv => whnf) | ((with_reducible refine WpR.draw (id := 8) mixed [0, 1, 2, 3, 4, 5, 6] [0, 0, 0, 6, 14, 31, 63] ?hh ?_); (case hh => kernel_rfl); conv => whnf) | ((with_reducible refine WpR.draw (id := 13) mixed [0, 1, 2, 3, 4, 5, 6, 7, 8, 9, 10, 11, 12, 13, 14] [0, 0, 0, 6, 14, 0, 0, 64, 0, 256, 960, 2016, 4064, 8191, 16383] ?hh ?_); (case hh => kernel_rfl); conv => whnf) | ((with_reducible refine And.intro ?hh ?_); (case hh => exact condA); conv => whnf) | fail))
      all_goals first | (refine ⟨[], ?_, rfl, rfl, trivial, trivs⟩; simp only [renV, renL]; (first | done | rfl | (simp; done) | (simp; omega) | grind)) | (exfalso; omega)
  · have ez : zs = true := s2 fun j hj => j2 j (by omega)
    subst ez
    rw [if_pos rfl]
    (conv => whnf); (repeat' (first | ((with_reducible refine ifb_mk (fun hc => ?_) (fun hc => ?_)) <;> ((try simp only [decide_eq_true_eq, decide_eq_false_iff_not, Bool.not_eq_true', Bool.not_eq_false', Int.not_lt, Int.not_le, ne_eq, Decidable.not_not, beq_iff_eq, List.cons.injEq, and_true] at hc); (first | (exfalso; omega) | exact absurd True.intro hc | conv => whnf))) | ((with_reducible refine And.intro True.intro ?_); conv => whnf) | ((with_reducible refine grd_and ?_); refine And.intro (hi) ?_; conv => whnf) | ((with_reducible refine And.intro ?hh ?_); (case hh => exact condA); conv => whnf) | fail))
    all_goals first | (exfalso; omega) | skip
    clear s1 s2 j1 j2 hi
    refine WpR.loopA (ι := Nat) [] [1, 2] [] [] 1 (fun i => [(6, .int .i64 i)]) (fun _ => []) (fun i => k - i) (fun i => i ≤ k ∧ ∀ j, j < i → lkB n a b (l j) (l ((j + 1) % k)) = true) ?_ (0) (⟨by omega, fun k hk => absurd hk (Nat.not_lt_zero _)⟩) [] Back.auto
    rintro i ⟨j1, j2⟩
    refine WpR.of_vc ?_
    by_cases hi : i < k
    · have kL := kL i
      have hmk : (i + 1) % k < k := Nat.mod_lt _ (by omega)
      have w0 : (k : Int) ≠ 0 := by omega
      have w1 : InR (((i + 1) % k : Nat) : Int) := by unfold InR; omega
      cases he : lkB n a b (l i) (l ((i + 1) % k)) with
      | true =>
        rw [he] at kL
        have hnx := below_succ (p := fun j => lkB n a b (l j) (l ((j + 1) % k))) j2 he
        (conv => whnf); (repeat' (first | ((with_reducible refine ifb_mk (fun hc => ?_) (fun hc => ?_)) <;> ((try simp only [decide_eq_true_eq, decide_eq_false_iff_not, Bool.not_eq_true', Bool.not_eq_false', Int.not_lt, Int.not_le, ne_eq, Decidable.not_not, beq_iff_eq, List.cons.injEq, and_true] at hc); (first | (exfalso; omega) | exact absurd True.intro hc | conv => whnf))) | ((with_reducible refine And.intro True.intro ?_); conv => whnf) | ((with_reducible refine grd_and ?_); refine And.intro (hi) ?_; conv => whnf) | ((with_reducible refine grd_and ?_); refine And.intro (w0) ?_; conv => whnf) | ((with_reducible refine grd_and ?_); refine And.intro (w1) ?_; conv => whnf) | ((with_reducible refine grd_and ?_); refine And.intro (hmk) ?_; conv => whnf) | ((with_reducible refine grd_ex ?_); refine ex_ok (kL _) ?_; conv => whnf) | ((with_reducible refine CallX.all ?_); refine CallW.of_ok (kL _) ?_; conv => whnf) | ((with_reducible refine WpR.draw (id := 8) mixed [0, 1, 2, 3, 4, 5, 6] [0, 0, 0, 6, 14, 31, 63] ?hh ?_); (case hh => kernel_rfl); conv => whnf) | ((with_reducible refine WpR.draw (id := 13) mixed [0, 1, 2, 3, 4, 5, 6, 7, 8, 9, 10, 11, 12, 13, 14] [0, 0, 0, 6, 14, 0, 0, 64, 0, 256, 960, 2016, 4064, 8191, 16383] ?hh ?_); (case hh => kernel_rfl); conv => whnf) | ((with_reducible refine And.intro ?hh ?_); (case hh => exact condA); conv => whnf) | fail))
        all_goals first | (exfalso; omega) | exact ⟨i + 1, [], by omega, ⟨by omega, hnx⟩, Back.auto⟩
      | false =>
        rw [he] at kL
        have ez : zc = false := c1 i hi he
        subst ez
        (conv => whnf); (repeat' (first | ((with_reducible refine ifb_mk (fun hc => ?_) (fun hc => ?_)) <;> ((try simp only [decide_eq_true_eq, decide_eq_false_iff_not, Bool.not_eq_true', Bool.not_eq_false', Int.not_lt, Int.not_le, ne_eq, Decidable.not_not, beq_iff_eq, List.cons.injEq, and_true] at hc); (first | (exfalso; omega) | exact absurd True.intro hc | conv => whnf))) | ((with_reducible refine And.intro True.intro ?_); conv => whnf) | ((with_reducible refine grd_and ?_); refine And.intro (hi) ?_; conv => whnf) | ((with_reducible refine grd_and ?_); refine And.intro (w0) ?_; conv => whnf) | ((with_reducible refine grd_and ?_); refine And.intro (w1) ?_; conv => whnf) | ((with_reducible refine grd_and ?_); refine And.intro (hmk) ?_; conv => whnf) | ((with_reducible refine grd_ex ?_); refine ex_ok (kL _) ?_; conv => whnf) | ((with_reducible refine CallX.all ?_); refine CallW.of_ok (kL _) ?_; conv => whnf) | ((with_reducible refine WpR.draw (id := 8) mixed [0, 1, 2, 3, 4, 5, 6] [0, 0, 0, 6, 14, 31, 63] ?hh ?_); (case hh => kernel_rfl); conv => whnf) | ((with_reducible refine WpR.draw (id := 13) mixed [0, 1, 2, 3, 4, 5, 6, 7, 8, 9, 10, 11, 12, 13, 14] [0, 0, 0, 6, 14, 0, 0, 64, 0, 256, 960, 2016, 4064, 8191, 16383] ?hh ?_); (case hh => kernel_rfl); conv => whnf) | ((with_reducible refine And.intro ?hh ?_); (case hh => exact condA); conv => whnf) | fail))
        all_goals first | (refine ⟨[], ?_, rfl, rfl, trivial, trivs⟩; simp only [renV, renL]; (first | done | rfl | (simp; done) | (simp; omega) | grind)) | (exfalso; omega)
    · have ez : zc = true := c2 fun j hj => j2 j (by omega)
      subst ez
      (conv => whnf); (repeat' (first | ((with_reducible refine ifb_mk (fun hc => ?_) (fun hc => ?_)) <;> ((try simp only [decide_eq_true_eq, decide_eq_false_iff_not, Bool.not_eq_true', Bool.not_eq_false', Int.not_lt, Int.not_le, ne_eq, Decidable.not_not, beq_iff_eq, List.cons.injEq, and_true] at hc); (first | (exfalso; omega) | exact absurd True.intro hc | conv => whnf))) | ((with_reducible refine And.intro True.intro ?_); conv => whnf) | ((with_reducible refine grd_and ?_); refine And.intro (hi) ?_; conv => whnf) | ((with_reducible refine And.intro ?hh ?_); (case hh => exact condA); conv => whnf) | fail))
      all_goals first | (refine ⟨[], ?_, rfl, rfl, trivial, trivs⟩; simp only [renV, renL]; (first | done | rfl | (simp; done) | (simp; omega) | grind)) | (exfalso; omega)
/-! ### RankBooks -/
theorem great_ok (h : As.H) (S : Int) (ex : Bool) (n : Nat) (a b : Nat → Int) : CallOk Try.prog 18 [bkV S ex n a b] h (.bool (decide (50 < n))) h := by
  by_cases h1 : 50 < n
  · rw [decide_eq_true h1]
    refine CallOk.run0 Try.func18 rfl rfl rfl rfl rfl (WpR.of_vc ?_)
    (conv => whnf); (repeat' (first | ((with_reducible refine ifb_mk (fun hc => ?_) (fun hc => ?_)) <;> ((try simp only [decide_eq_true_eq, decide_eq_false_iff_not, Bool.not_eq_true', Bool.not_eq_false', Int.not_lt, Int.not_le, ne_eq, Decidable.not_not, beq_iff_eq, List.cons.injEq, and_true] at hc); (first | (exfalso; omega) | exact absurd True.intro hc | conv => whnf))) | ((with_reducible refine And.intro True.intro ?_); conv => whnf) | ((with_reducible refine And.intro ?hh ?_); (case hh => exact condA); conv => whnf) | fail))
    all_goals first | (refine ⟨[], ?_, rfl, rfl, trivial, trivs⟩; simp only [renV, renL]; (first | done | rfl | (simp; done) | (simp; omega) | grind)) | (exfalso; omega)
  · rw [decide_eq_false h1]
    refine CallOk.run0 Try.func18 rfl rfl rfl rfl rfl (WpR.of_vc ?_)
    (conv => whnf); (repeat' (first | ((with_reducible refine ifb_mk (fun hc => ?_) (fun hc => ?_)) <;> ((try simp only [decide_eq_true_eq, decide_eq_false_iff_not, Bool.not_eq_true', Bool.not_eq_false', Int.not_lt, Int.not_le, ne_eq, Decidable.not_not, beq_iff_eq, List.cons.injEq, and_true] at hc); (first | (exfalso; omega) | exact absurd True.intro hc | conv => whnf))) | ((with_reducible refine And.intro True.intro ?_); conv => whnf) | ((with_reducible refine And.intro ?hh ?_); (case hh => exact condA); conv => whnf) | fail))
    all_goals first | (refine ⟨[], ?_, rfl, rfl, trivial, trivs⟩; simp only [renV, renL]; (first | done | rfl | (simp; done) | (simp; omega) | grind)) | (exfalso; omega)
end Go.Proofs.J

