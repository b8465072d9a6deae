/- What the functions answer that the laws call, one after another (Mg). -/
import Derived.Test.YtmfohdhnpanfeaaAs6
import Derived.Test.YtmfohdhnpanfeaaBase

set_option linter.unusedVariables false
namespace Go.Proofs.Q
open Go.As
set_option maxRecDepth 20000
set_option linter.unusedVariables false
set_option linter.unusedSimpArgs false

/-! ### Two marks -/

theorem bothR_ok (h : H) (T : List UInt8) (n : Nat) (s : Nat → Int) (k : Nat) (A : Nat → List UInt8) (x1 x2 : Bool) (n' : Nat) (s' : Nat → Int) (k' : Nat) (A' : Nat → List UInt8) (y1 y2 : Bool) (hT : T.length ≤ 9223372036854775806)
    (hn : n ≤ 9223372036854775807) (hk : k ≤ 9223372036854775807) (hn' : n' ≤ 9223372036854775807) (hk' : k' ≤ 9223372036854775807) :
    CallOk Try.prog 62 [tx T, marksV n s k A x1 x2, marksV n' s' k' A' y1 y2] h (.int .i64 (if ckM T.length n s k A = 0 then ckM T.length n' s' k' A' else ckM T.length n s k A)) h := by
  have k1 := fun h' => checkMarksR_ok h' T n s k A x1 x2 hT hn hk
  have k2 := fun h' => checkMarksR_ok h' T n' s' k' A' y1 y2 hT hn' hk'
  generalize ckM T.length n s k A = e at *
  generalize ckM T.length n' s' k' A' = e' at *
  by_cases h0 : e = 0
  · rw [if_pos h0]
    refine CallOk.run0 Try.func62 rfl rfl rfl rfl rfl (WpR.of_vc ?_)
    (conv => whnf); (repeat' (first | ((with_reducible refine ifb_mk (fun hc => ?_) (fun hc => ?_)) <;> ((try simp only [decide_eq_true_eq, decide_eq_false_iff_not, Bool.not_eq_true', Bool.not_eq_false', Int.not_lt, Int.not_le, ne_eq, Decidable.not_not, beq_iff_eq, List.cons.injEq, and_true] at hc); (first | (exfalso; omega) | exact absurd True.intro hc | conv => whnf))) | ((with_reducible refine And.intro True.intro ?_); conv => whnf) | ((with_reducible refine CallX.all ?_); refine CallW.of_ok (k1 _) ?_; conv => whnf) | ((with_reducible refine CallX.all ?_); refine CallW.of_ok (k2 _) ?_; conv => whnf) | ((with_reducible refine And.intro ?hh ?_); (case hh => exact condA); conv => whnf) | fail))
    all_goals first | (refine ⟨[], ?_, rfl, rfl, trivial, trivs⟩; simp only [renV, renL]; (first | done | rfl | (simp; done) | (simp; omega) | grind)) | exact absurd h0 hc
  · rw [if_neg h0]
    refine CallOk.run0 Try.func62 rfl rfl rfl rfl rfl (WpR.of_vc ?_)
    (conv => whnf); (repeat' (first | ((with_reducible refine ifb_mk (fun hc => ?_) (fun hc => ?_)) <;> ((try simp only [decide_eq_true_eq, decide_eq_false_iff_not, Bool.not_eq_true', Bool.not_eq_false', Int.not_lt, Int.not_le, ne_eq, Decidable.not_not, beq_iff_eq, List.cons.injEq, and_true] at hc); (first | (exfalso; omega) | exact absurd True.intro hc | conv => whnf))) | ((with_reducible refine And.intro True.intro ?_); conv => whnf) | ((with_reducible refine CallX.all ?_); refine CallW.of_ok (k1 _) ?_; conv => whnf) | ((with_reducible refine CallX.all ?_); refine CallW.of_ok (k2 _) ?_; conv => whnf) | ((with_reducible refine And.intro ?hh ?_); (case hh => exact condA); conv => whnf) | fail))
    all_goals first | (refine ⟨[], ?_, rfl, rfl, trivial, trivs⟩; simp only [renV, renL]; (first | done | rfl | (simp; done) | (simp; omega) | grind)) | exact absurd hc h0
theorem pagesFor_ok (h : H) (T : List UInt8) (n : Nat) (s : Nat → Int) (k : Nat) (A : Nat → List UInt8) (x1 x2 : Bool) (n' : Nat) (s' : Nat → Int) (k' : Nat) (A' : Nat → List UInt8) (y1 y2 : Bool)
    (hn : n ≤ 9223372036854775807) (hn' : n' ≤ 9223372036854775807) (h1 : ckM T.length n s k A = 0) (h2 : ckM T.length n' s' k' A' = 0) :
    CallOk Try.prog 59 [tx T, marksV n s k A x1 x2, marksV n' s' k' A' y1 y2] h (.tup [pageV n s k A x1 x2 T, pageV n' s' k' A' y1 y2 T, .int .i64 0]) h := by
  have k1 := fun h' => pageFor_ok h' T n s k A x1 x2 hn h1
  have k2 := fun h' => pageFor_ok h' T n' s' k' A' y1 y2 hn' h2
  clear h1 h2
  refine CallOk.run0 Try.func59 rfl rfl rfl rfl rfl (WpR.of_vc ?_)
  (conv => whnf); (repeat' (first | ((with_reducible refine ifb_mk (fun hc => ?_) (fun hc => ?_)) <;> ((try simp only [decide_eq_true_eq, decide_eq_false_iff_not, Bool.not_eq_true', Bool.not_eq_false', Int.not_lt, Int.not_le, ne_eq, Decidable.not_not, beq_iff_eq, List.cons.injEq, and_true] at hc); (first | (exfalso; omega) | exact absurd True.intro hc | conv => whnf))) | ((with_reducible refine And.intro True.intro ?_); conv => whnf) | ((with_reducible refine CallX.all ?_); refine CallW.of_ok (k1 _) ?_; conv => whnf) | ((with_reducible refine CallX.all ?_); refine CallW.of_ok (k2 _) ?_; conv => whnf) | ((with_reducible refine WpR.draw (id := 7) mixed [0, 1, 2, 3, 4] [0, 0, 1, 7, 15] ?hh ?_); (case hh => kernel_rfl); conv => whnf) | ((with_reducible refine And.intro ?hh ?_); (case hh => exact condA); conv => whnf) | fail))
  (refine ⟨[], ?_, rfl, rfl, trivial, trivs⟩; simp only [renV, renL]; (first | done | rfl | (simp; done) | (simp; omega) | grind))
theorem pagesFor_err (h : H) (T : List UInt8) (n : Nat) (s : Nat → Int) (k : Nat) (A : Nat → List UInt8) (x1 x2 : Bool) (n' : Nat) (s' : Nat → Int) (k' : Nat) (A' : Nat → List UInt8) (y1 y2 : Bool) (hT : T.length ≤ 9223372036854775806)
    (hn : n ≤ 9223372036854775807) (hk : k ≤ 9223372036854775807) (hn' : n' ≤ 9223372036854775807) (hk' : k' ≤ 9223372036854775807) (e : Int) (he : (if ckM T.length n s k A = 0 then ckM T.length n' s' k' A' else ckM T.length n s k A) = e) (h0 : e ≠ 0) :
    CallOk Try.prog 59 [tx T, marksV n s k A x1 x2, marksV n' s' k' A' y1 y2] h (.tup [zeroPage, zeroPage, .int .i64 e]) h := by
  by_cases h1 : ckM T.length n s k A = 0
  · rw [if_pos h1] at he
    have k1 := fun h' => pageFor_ok h' T n s k A x1 x2 hn h1
    have k2 := fun h' => pageFor_err h' T n' s' k' A' y1 y2 hT hn' hk' (by rw [he]; exact h0)
    rw [he] at k2
    clear h1 he
    refine CallOk.run0 Try.func59 rfl rfl rfl rfl rfl (WpR.of_vc ?_)
    (conv => whnf); (repeat' (first | ((with_reducible refine ifb_mk (fun hc => ?_) (fun hc => ?_)) <;> ((try simp only [decide_eq_true_eq, decide_eq_false_iff_not, Bool.not_eq_true', Bool.not_eq_false', Int.not_lt, Int.not_le, ne_eq, Decidable.not_not, beq_iff_eq, List.cons.injEq, and_true] at hc); (first | (exfalso; omega) | exact absurd True.intro hc | conv => whnf))) | ((with_reducible refine And.intro True.intro ?_); conv => whnf) | ((with_reducible refine CallX.all ?_); refine CallW.of_ok (k1 _) ?_; conv => whnf) | ((with_reducible refine CallX.all ?_); refine CallW.of_ok (k2 _) ?_; conv => whnf) | ((with_reducible refine And.intro ?hh ?_); (case hh => exact condA); conv => whnf) | fail))
    all_goals first | (refine ⟨[], ?_, rfl, rfl, trivial, trivs⟩; simp only [renV, renL]; (first | done | rfl | (simp; done) | (simp; omega) | grind)) | exact absurd hc h0
  · rw [if_neg h1] at he
    have k1 := fun h' => pageFor_err h' T n s k A x1 x2 hT hn hk h1
    rw [he] at k1
    clear h1 he
    refine CallOk.run0 Try.func59 rfl rfl rfl rfl rfl (WpR.of_vc ?_)
    (conv => whnf); (repeat' (first | ((with_reducible refine ifb_mk (fun hc => ?_) (fun hc => ?_)) <;> ((try simp only [decide_eq_true_eq, decide_eq_false_iff_not, Bool.not_eq_true', Bool.not_eq_false', Int.not_lt, Int.not_le, ne_eq, Decidable.not_not, beq_iff_eq, List.cons.injEq, and_true] at hc); (first | (exfalso; omega) | exact absurd True.intro hc | conv => whnf))) | ((with_reducible refine And.intro True.intro ?_); conv => whnf) | ((with_reducible refine CallX.all ?_); refine CallW.of_ok (k1 _) ?_; conv => whnf) | ((with_reducible refine And.intro ?hh ?_); (case hh => exact condA); conv => whnf) | fail))
    all_goals first | (refine ⟨[], ?_, rfl, rfl, trivial, trivs⟩; simp only [renV, renL]; (first | done | rfl | (simp; done) | (simp; omega) | grind)) | exact absurd hc h0

/-- Do they contradict each other at a place? -/
def clP (A B : Nat → List UInt8) (i : Nat) : Bool := decide (A i ≠ [] ∧ B i ≠ [] ∧ A i ≠ B i)
set_option maxHeartbeats 2000000 in
theorem clash_some (h : H) (n : Nat) (s : Nat → Int) (k : Nat) (A : Nat → List UInt8) (x1 x2 : Bool) (T : List UInt8) (n' : Nat) (s' : Nat → Int) (B : Nat → List UInt8) (y1 y2 : Bool) (S : List UInt8) (hk : k ≤ 9223372036854775806) (p : Nat) (hp : p < k) (h1 : clP A B p = true) (h2 : ∀ j, j < p → clP A B j = false) :
    CallOk Try.prog 60 [pageV n s k A x1 x2 T, pageV n' s' k B y1 y2 S] h (.tup [.int .i64 p, .bool true]) h := by
  refine CallOk.run0 Try.func60 rfl rfl rfl rfl rfl (WpR.of_vc ?_)
  (conv => whnf); (repeat' (first | ((with_reducible refine ifb_mk (fun hc => ?_) (fun hc => ?_)) <;> ((try simp only [decide_eq_true_eq, decide_eq_false_iff_not, Bool.not_eq_true', Bool.not_eq_false', Int.not_lt, Int.not_le, ne_eq, Decidable.not_not, beq_iff_eq, List.cons.injEq, and_true] at hc); (first | (exfalso; omega) | exact absurd True.intro hc | conv => whnf))) | ((with_reducible refine And.intro True.intro ?_); conv => whnf) | ((with_reducible refine And.intro ?hh ?_); (case hh => exact condA); conv => whnf) | fail))
  refine WpR.loopA (ι := Nat) [] [2, 3, 11, 12] [] [] 2 (fun i => [(13, .int .i64 i)]) (fun _ => []) (fun i => p - i) (fun i => i ≤ p) ?_ (0) (Nat.zero_le _) [] Back.auto
  intro i j1
  refine WpR.of_vc ?_
  by_cases hi : i = p
  · subst hi
    obtain ⟨g1, g2, g3⟩ := of_decide_eq_true h1
    (conv => whnf); (repeat' (first | ((with_reducible refine ifb_mk (fun hc => ?_) (fun hc => ?_)) <;> ((try simp only [decide_eq_true_eq, decide_eq_false_iff_not, Bool.not_eq_true', Bool.not_eq_false', Int.not_lt, Int.not_le, ne_eq, Decidable.not_not, beq_iff_eq, List.cons.injEq, and_true] at hc); (first | (exfalso; omega) | exact absurd True.intro hc | conv => whnf))) | ((with_reducible refine And.intro True.intro ?_); conv => whnf) | ((with_reducible refine grd_and ?_); refine And.intro (hp) ?_; conv => whnf) | ((with_reducible refine And.intro ?hh ?_); (case hh => exact condA); conv => whnf) | fail))
    all_goals first | exact absurd hc g1 | exact absurd hc g2 | exact absurd hc g3 | (refine ⟨[], ?_, rfl, rfl, trivial, trivs⟩; simp only [renV, renL]; (first | done | rfl | (simp; done) | (simp; omega) | grind))
  · have g := of_decide_eq_false (h2 i (by omega))
    have hik : i < k := by omega
    (conv => whnf); (repeat' (first | ((with_reducible refine ifb_mk (fun hc => ?_) (fun hc => ?_)) <;> ((try simp only [decide_eq_true_eq, decide_eq_false_iff_not, Bool.not_eq_true', Bool.not_eq_false', Int.not_lt, Int.not_le, ne_eq, Decidable.not_not, beq_iff_eq, List.cons.injEq, and_true] at hc); (first | (exfalso; omega) | exact absurd True.intro hc | conv => whnf))) | ((with_reducible refine And.intro True.intro ?_); conv => whnf) | ((with_reducible refine grd_and ?_); refine And.intro (hik) ?_; conv => whnf) | ((with_reducible refine And.intro ?hh ?_); (case hh => exact condA); conv => whnf) | fail))
    all_goals first | (exfalso; exact g ⟨by assumption, by assumption, by assumption⟩) | (exact ⟨i + 1, [], by omega, by omega, Back.auto⟩)
set_option maxHeartbeats 2000000 in
theorem clash_none (h : H) (n : Nat) (s : Nat → Int) (k : Nat) (A : Nat → List UInt8) (x1 x2 : Bool) (T : List UInt8) (n' : Nat) (s' : Nat → Int) (B : Nat → List UInt8) (y1 y2 : Bool) (S : List UInt8) (hk : k ≤ 9223372036854775806) (h2 : ∀ j, j < k → clP A B j = false) :
    CallOk Try.prog 60 [pageV n s k A x1 x2 T, pageV n' s' k B y1 y2 S] h (.tup [.int .i64 0, .bool false]) h := by
  refine CallOk.run0 Try.func60 rfl rfl rfl rfl rfl (WpR.of_vc ?_)
  (conv => whnf); (repeat' (first | ((with_reducible refine ifb_mk (fun hc => ?_) (fun hc => ?_)) <;> ((try simp only [decide_eq_true_eq, decide_eq_false_iff_not, Bool.not_eq_true', Bool.not_eq_false', Int.not_lt, Int.not_le, ne_eq, Decidable.not_not, beq_iff_eq, List.cons.injEq, and_true] at hc); (first | (exfalso; omega) | exact absurd True.intro hc | conv => whnf))) | ((with_reducible refine And.intro True.intro ?_); conv => whnf) | ((with_reducible refine And.intro ?hh ?_); (case hh => exact condA); conv => whnf) | fail))
  refine WpR.loopA (ι := Nat) [] [2, 3, 11, 12] [] [] 2 (fun i => [(13, .int .i64 i)]) (fun _ => []) (fun i => k - i) (fun i => i ≤ k) ?_ (0) (Nat.zero_le _) [] Back.auto
  intro i j1
  refine WpR.of_vc ?_
  by_cases hik : i < k
  · have g := of_decide_eq_false (h2 i (by omega))
    (conv => whnf); (repeat' (first | ((with_reducible refine ifb_mk (fun hc => ?_) (fun hc => ?_)) <;> ((try simp only [decide_eq_true_eq, decide_eq_false_iff_not, Bool.not_eq_true', Bool.not_eq_false', Int.not_lt, Int.not_le, ne_eq, Decidable.not_not, beq_iff_eq, List.cons.injEq, and_true] at hc); (first | (exfalso; omega) | exact absurd True.intro hc | conv => whnf))) | ((with_reducible refine And.intro True.intro ?_); conv => whnf) | ((with_reducible refine grd_and ?_); refine And.intro (hik) ?_; conv => whnf) | ((with_reducible refine And.intro ?hh ?_); (case hh => exact condA); conv => whnf) | fail))
    all_goals first | (exfalso; exact g ⟨by assumption, by assumption, by assumption⟩) | (exact ⟨i + 1, [], by omega, by omega, Back.auto⟩)
  · (conv => whnf); (repeat' (first | ((with_reducible refine ifb_mk (fun hc => ?_) (fun hc => ?_)) <;> ((try simp only [decide_eq_true_eq, decide_eq_false_iff_not, Bool.not_eq_true', Bool.not_eq_false', Int.not_lt, Int.not_le, ne_eq, Decidable.not_not, beq_iff_eq, List.cons.injEq, and_true] at hc); (first | (exfalso; omega) | exact absurd True.intro hc | conv => whnf))) | ((with_reducible refine And.intro True.intro ?_); conv => whnf) | ((with_reducible refine And.intro ?hh ?_); (case hh => exact condA); conv => whnf) | fail))
    (refine ⟨[], ?_, rfl, rfl, trivial, trivs⟩; simp only [renV, renL]; (first | done | rfl | (simp; done) | (simp; omega) | grind))
set_option maxHeartbeats 2000000 in
theorem clashOf_some (h : H) (n : Nat) (s : Nat → Int) (k : Nat) (A : Nat → List UInt8) (x1 x2 : Bool) (n' : Nat) (s' : Nat → Int) (B : Nat → List UInt8) (y1 y2 : Bool) (hk : k ≤ 9223372036854775806) (p : Nat) (hp : p < k) (h1 : clP A B p = true) (h2 : ∀ j, j < p → clP A B j = false) :
    CallOk Try.prog 63 [marksV n s k A x1 x2, marksV n' s' k B y1 y2] h (.int .i64 p) h := by
  refine CallOk.run0 Try.func63 rfl rfl rfl rfl rfl (WpR.of_vc ?_)
  (conv => whnf); (repeat' (first | ((with_reducible refine ifb_mk (fun hc => ?_) (fun hc => ?_)) <;> ((try simp only [decide_eq_true_eq, decide_eq_false_iff_not, Bool.not_eq_true', Bool.not_eq_false', Int.not_lt, Int.not_le, ne_eq, Decidable.not_not, beq_iff_eq, List.cons.injEq, and_true] at hc); (first | (exfalso; omega) | exact absurd True.intro hc | conv => whnf))) | ((with_reducible refine And.intro True.intro ?_); conv => whnf) | ((with_reducible refine And.intro ?hh ?_); (case hh => exact condA); conv => whnf) | fail))
  refine WpR.loopA (ι := Nat) [] [2, 3] [] [] 2 (fun i => [(5, .int .i64 i)]) (fun _ => []) (fun i => p - i) (fun i => i ≤ p) ?_ (0) (Nat.zero_le _) [] Back.auto
  intro i j1
  refine WpR.of_vc ?_
  by_cases hi : i = p
  · subst hi
    obtain ⟨g1, g2, g3⟩ := of_decide_eq_true h1
    (conv => whnf); (repeat' (first | ((with_reducible refine ifb_mk (fun hc => ?_) (fun hc => ?_)) <;> ((try simp only [decide_eq_true_eq, decide_eq_false_iff_not, Bool.not_eq_true', Bool.not_eq_false', Int.not_lt, Int.not_le, ne_eq, Decidable.not_not, beq_iff_eq, List.cons.injEq, and_true] at hc); (first | (exfalso; omega) | exact absurd True.intro hc | conv => whnf))) | ((with_reducible refine And.intro True.intro ?_); conv => whnf) | ((with_reducible refine grd_and ?_); refine And.intro (hp) ?_; conv => whnf) | ((with_reducible refine WpR.draw (id := 4) mixed [0, 1, 2, 3, 4, 5, 6, 7, 8, 9, 10, 11, 12, 13, 14, 15, 16, 17, 18, 19, 20, 21, 22, 23, 24, 25, 26] [0, 1, 0, 7, 15, 31, 63, 127, 255, 127, 1023, 2047, 4095, 8191, 16383, 32767, 65535, 32767, 262143, 524287, 32767, 1081343, 32767, 7372799, 15761407, 33554431, 67108863] ?hh ?_); (case hh => kernel_rfl); conv => whnf) | ((with_reducible refine And.intro ?hh ?_); (case hh => exact condA); conv => whnf) | fail))
    all_goals first | exact absurd hc g1 | exact absurd hc g2 | exact absurd hc g3 | (refine ⟨[], ?_, rfl, rfl, trivial, trivs⟩; simp only [renV, renL]; (first | done | rfl | (simp; done) | (simp; omega) | grind))
  · have g := of_decide_eq_false (h2 i (by omega))
    have hik : i < k := by omega
    (conv => whnf); (repeat' (first | ((with_reducible refine ifb_mk (fun hc => ?_) (fun hc => ?_)) <;> ((try simp only [decide_eq_true_eq, decide_eq_false_iff_not, Bool.not_eq_true', Bool.not_eq_false', Int.not_lt, Int.not_le, ne_eq, Decidable.not_not, beq_iff_eq, List.cons.injEq, and_true] at hc); (first | (exfalso; omega) | exact absurd True.intro hc | conv => whnf))) | ((with_reducible refine And.intro True.intro ?_); conv => whnf) | ((with_reducible refine grd_and ?_); refine And.intro (hik) ?_; conv => whnf) | ((with_reducible refine WpR.draw (id := 4) mixed [0, 1, 2, 3, 4, 5, 6, 7, 8, 9, 10, 11, 12, 13, 14, 15, 16, 17, 18, 19, 20, 21, 22, 23, 24, 25, 26] [0, 1, 0, 7, 15, 31, 63, 127, 255, 127, 1023, 2047, 4095, 8191, 16383, 32767, 65535, 32767, 262143, 524287, 32767, 1081343, 32767, 7372799, 15761407, 33554431, 67108863] ?hh ?_); (case hh => kernel_rfl); conv => whnf) | ((with_reducible refine And.intro ?hh ?_); (case hh => exact condA); conv => whnf) | fail))
    all_goals first | (exfalso; exact g ⟨by assumption, by assumption, by assumption⟩) | (exact ⟨i + 1, [], by omega, by omega, Back.auto⟩)
set_option maxHeartbeats 2000000 in
theorem clashOf_none (h : H) (n : Nat) (s : Nat → Int) (k : Nat) (A : Nat → List UInt8) (x1 x2 : Bool) (n' : Nat) (s' : Nat → Int) (B : Nat → List UInt8) (y1 y2 : Bool) (hk : k ≤ 9223372036854775806) (h2 : ∀ j, j < k → clP A B j = false) :
    CallOk Try.prog 63 [marksV n s k A x1 x2, marksV n' s' k B y1 y2] h (.int .i64 (-1)) h := by
  refine CallOk.run0 Try.func63 rfl rfl rfl rfl rfl (WpR.of_vc ?_)
  (conv => whnf); (repeat' (first | ((with_reducible refine ifb_mk (fun hc => ?_) (fun hc => ?_)) <;> ((try simp only [decide_eq_true_eq, decide_eq_false_iff_not, Bool.not_eq_true', Bool.not_eq_false', Int.not_lt, Int.not_le, ne_eq, Decidable.not_not, beq_iff_eq, List.cons.injEq, and_true] at hc); (first | (exfalso; omega) | exact absurd True.intro hc | conv => whnf))) | ((with_reducible refine And.intro True.intro ?_); conv => whnf) | ((with_reducible refine And.intro ?hh ?_); (case hh => exact condA); conv => whnf) | fail))
  refine WpR.loopA (ι := Nat) [] [2, 3] [] [] 2 (fun i => [(5, .int .i64 i)]) (fun _ => []) (fun i => k - i) (fun i => i ≤ k) ?_ (0) (Nat.zero_le _) [] Back.auto
  intro i j1
  refine WpR.of_vc ?_
  by_cases hik : i < k
  · have g := of_decide_eq_false (h2 i (by omega))
    (conv => whnf); (repeat' (first | ((with_reducible refine ifb_mk (fun hc => ?_) (fun hc => ?_)) <;> ((try simp only [decide_eq_true_eq, decide_eq_false_iff_not, Bool.not_eq_true', Bool.not_eq_false', Int.not_lt, Int.not_le, ne_eq, Decidable.not_not, beq_iff_eq, List.cons.injEq, and_true] at hc); (first | (exfalso; omega) | exact absurd True.intro hc | conv => whnf))) | ((with_reducible refine And.intro True.intro ?_); conv => whnf) | ((with_reducible refine grd_and ?_); refine And.intro (hik) ?_; conv => whnf) | ((with_reducible refine WpR.draw (id := 4) mixed [0, 1, 2, 3, 4, 5, 6, 7, 8, 9, 10, 11, 12, 13, 14, 15, 16, 17, 18, 19, 20, 21, 22, 23, 24, 25, 26] [0, 1, 0, 7, 15, 31, 63, 127, 255, 127, 1023, 2047, 4095, 8191, 16383, 32767, 65535, 32767, 262143, 524287, 32767, 1081343, 32767, 7372799, 15761407, 33554431, 67108863] ?hh ?_); (case hh => kernel_rfl); conv => whnf) | ((with_reducible refine And.intro ?hh ?_); (case hh => exact condA); conv => whnf) | fail))
    all_goals first | (exfalso; exact g ⟨by assumption, by assumption, by assumption⟩) | (exact ⟨i + 1, [], by omega, by omega, Back.auto⟩)
  · (conv => whnf); (repeat' (first | ((with_reducible refine ifb_mk (fun hc => ?_) (fun hc => ?_)) <;> ((try simp only [decide_eq_true_eq, decide_eq_false_iff_not, Bool.not_eq_true', Bool.not_eq_false', Int.not_lt, Int.not_le, ne_eq, Decidable.not_not, beq_iff_eq, List.cons.injEq, and_true] at hc); (first | (exfalso; omega) | exact absurd True.intro hc | conv => whnf))) | ((with_reducible refine And.intro True.intro ?_); conv => whnf) | ((with_reducible refine And.intro ?hh ?_); (case hh => exact condA); conv => whnf) | fail))
    (refine ⟨[], ?_, rfl, rfl, trivial, trivs⟩; simp only [renV, renL]; (first | done | rfl | (simp; done) | (simp; omega) | grind))

/-! ### Equal marks -/

def eqF (n : Nat) (s : Nat → Int) (n' : Nat) (s' : Nat → Int) : Bool := decide (n = n') && allF n fun i => decide (s i = s' i)
def eqT (k : Nat) (A : Nat → List UInt8) (k' : Nat) (B : Nat → List UInt8) : Bool := decide (k = k') && allF k fun i => decide (A i = B i)
theorem ints_ok (h : H) (n : Nat) (s : Nat → Int) (x : Bool) (n' : Nat) (s' : Nat → Int) (y : Bool) (hn : n ≤ 9223372036854775807) : CallOk Try.prog 41 [.rsl x 1 n (iG s), .rsl y 1 n' (iG s')] h (.bool (eqF n s n' s')) h := by
  unfold eqF
  by_cases h0 : n = n'
  · subst h0
    rw [decide_eq_true rfl, Bool.true_and]
    refine CallOk.run0 Try.func41 rfl rfl rfl rfl rfl (WpR.of_vc ?_)
    (conv => whnf); (repeat' (first | ((with_reducible refine ifb_mk (fun hc => ?_) (fun hc => ?_)) <;> ((try simp only [decide_eq_true_eq, decide_eq_false_iff_not, Bool.not_eq_true', Bool.not_eq_false', Int.not_lt, Int.not_le, ne_eq, Decidable.not_not, beq_iff_eq, List.cons.injEq, and_true] at hc); (first | (exfalso; omega) | exact absurd True.intro hc | conv => whnf))) | ((with_reducible refine And.intro True.intro ?_); conv => whnf) | ((with_reducible refine And.intro ?hh ?_); (case hh => exact condA); conv => whnf) | fail))
    refine WpR.loopA (ι := Nat) [] [0, 1] [] [] 0 (fun i => [(5, .int .i64 i)]) (fun _ => []) (fun i => n - i) (fun i => i ≤ n ∧ ∀ j, j < i → decide (s j = s' j) = true) ?_ (0) (⟨Nat.zero_le _, fun j hj => by omega⟩) [] Back.auto
    rintro i ⟨j1, j2⟩
    refine WpR.of_vc ?_
    by_cases hi : i < n
    · by_cases he : s i = s' i
      · (conv => whnf); (repeat' (first | ((with_reducible refine ifb_mk (fun hc => ?_) (fun hc => ?_)) <;> ((try simp only [decide_eq_true_eq, decide_eq_false_iff_not, Bool.not_eq_true', Bool.not_eq_false', Int.not_lt, Int.not_le, ne_eq, Decidable.not_not, beq_iff_eq, List.cons.injEq, and_true] at hc); (first | (exfalso; omega) | exact absurd True.intro hc | conv => whnf))) | ((with_reducible refine And.intro True.intro ?_); conv => whnf) | ((with_reducible refine grd_and ?_); refine And.intro (hi) ?_; conv => whnf) | ((with_reducible refine WpR.draw (id := 6) mixed [0, 1, 2, 3, 4, 5, 6, 7, 8] [0, 0, 3, 7, 0, 0, 48, 112, 255] ?hh ?_); (case hh => kernel_rfl); conv => whnf) | ((with_reducible refine And.intro ?hh ?_); (case hh => exact condA); conv => whnf) | fail))
        all_goals first | (exfalso; omega) | (exact ⟨i + 1, [], by omega, ⟨by omega, below_succ j2 (decide_eq_true he)⟩, Back.auto⟩)
      · rw [allF_f (p := fun i => decide (s i = s' i)) hi (decide_eq_false he)]
        (conv => whnf); (repeat' (first | ((with_reducible refine ifb_mk (fun hc => ?_) (fun hc => ?_)) <;> ((try simp only [decide_eq_true_eq, decide_eq_false_iff_not, Bool.not_eq_true', Bool.not_eq_false', Int.not_lt, Int.not_le, ne_eq, Decidable.not_not, beq_iff_eq, List.cons.injEq, and_true] at hc); (first | (exfalso; omega) | exact absurd True.intro hc | conv => whnf))) | ((with_reducible refine And.intro True.intro ?_); conv => whnf) | ((with_reducible refine grd_and ?_); refine And.intro (hi) ?_; conv => whnf) | ((with_reducible refine WpR.draw (id := 6) mixed [0, 1, 2, 3, 4, 5, 6, 7, 8] [0, 0, 3, 7, 0, 0, 48, 112, 255] ?hh ?_); (case hh => kernel_rfl); conv => whnf) | ((with_reducible refine And.intro ?hh ?_); (case hh => exact condA); conv => whnf) | fail))
        all_goals first | (refine ⟨[], ?_, rfl, rfl, trivial, trivs⟩; simp only [renV, renL]; (first | done | rfl | (simp; done) | (simp; omega) | grind)) | (exfalso; omega)
    · rw [allF_t (p := fun i => decide (s i = s' i)) (fun j hj => j2 j (by omega))]
      (conv => whnf); (repeat' (first | ((with_reducible refine ifb_mk (fun hc => ?_) (fun hc => ?_)) <;> ((try simp only [decide_eq_true_eq, decide_eq_false_iff_not, Bool.not_eq_true', Bool.not_eq_false', Int.not_lt, Int.not_le, ne_eq, Decidable.not_not, beq_iff_eq, List.cons.injEq, and_true] at hc); (first | (exfalso; omega) | exact absurd True.intro hc | conv => whnf))) | ((with_reducible refine And.intro True.intro ?_); conv => whnf) | ((with_reducible refine And.intro ?hh ?_); (case hh => exact condA); conv => whnf) | fail))
      (refine ⟨[], ?_, rfl, rfl, trivial, trivs⟩; simp only [renV, renL]; (first | done | rfl | (simp; done) | (simp; omega) | grind))
  · rw [decide_eq_false h0, Bool.false_and]
    refine CallOk.run0 Try.func41 rfl rfl rfl rfl rfl (WpR.of_vc ?_)
    (conv => whnf); (repeat' (first | ((with_reducible refine ifb_mk (fun hc => ?_) (fun hc => ?_)) <;> ((try simp only [decide_eq_true_eq, decide_eq_false_iff_not, Bool.not_eq_true', Bool.not_eq_false', Int.not_lt, Int.not_le, ne_eq, Decidable.not_not, beq_iff_eq, List.cons.injEq, and_true] at hc); (first | (exfalso; omega) | exact absurd True.intro hc | conv => whnf))) | ((with_reducible refine And.intro True.intro ?_); conv => whnf) | ((with_reducible refine And.intro ?hh ?_); (case hh => exact condA); conv => whnf) | fail))
    all_goals first | (refine ⟨[], ?_, rfl, rfl, trivial, trivs⟩; simp only [renV, renL]; (first | done | rfl | (simp; done) | (simp; omega) | grind)) | (exfalso; omega)
set_option maxHeartbeats 1000000 in
theorem same_ok (h : H) (n : Nat) (s : Nat → Int) (k : Nat) (A : Nat → List UInt8) (x1 x2 : Bool) (n' : Nat) (s' : Nat → Int) (k' : Nat) (B : Nat → List UInt8) (y1 y2 : Bool) (hn : n ≤ 9223372036854775807) (hk : k ≤ 9223372036854775807) :
    CallOk Try.prog 26 [marksV n s k A x1 x2, marksV n' s' k' B y1 y2] h (.bool (eqF n s n' s' && eqT k A k' B)) h := by
  have k1 := fun h' => ints_ok h' n s x1 n' s' y1 hn
  unfold eqT
  generalize eqF n s n' s' = z at *
  cases z with
  | false =>
    rw [Bool.false_and]
    refine CallOk.run0 Try.func26 rfl rfl rfl rfl rfl (WpR.of_vc ?_)
    (conv => whnf); (repeat' (first | ((with_reducible refine ifb_mk (fun hc => ?_) (fun hc => ?_)) <;> ((try simp only [decide_eq_true_eq, decide_eq_false_iff_not, Bool.not_eq_true', Bool.not_eq_false', Int.not_lt, Int.not_le, ne_eq, Decidable.not_not, beq_iff_eq, List.cons.injEq, and_true] at hc); (first | (exfalso; omega) | exact absurd True.intro hc | conv => whnf))) | ((with_reducible refine And.intro True.intro ?_); conv => whnf) | ((with_reducible refine CallX.all ?_); refine CallW.of_ok (k1 _) ?_; conv => whnf) | ((with_reducible refine And.intro ?hh ?_); (case hh => exact condA); conv => whnf) | fail))
    (refine ⟨[], ?_, rfl, rfl, trivial, trivs⟩; simp only [renV, renL]; (first | done | rfl | (simp; done) | (simp; omega) | grind))
  | true =>
    rw [Bool.true_and]
    by_cases h0 : k = k'
    · subst h0
      rw [decide_eq_true rfl, Bool.true_and]
      refine CallOk.run0 Try.func26 rfl rfl rfl rfl rfl (WpR.of_vc ?_)
      (conv => whnf); (repeat' (first | ((with_reducible refine ifb_mk (fun hc => ?_) (fun hc => ?_)) <;> ((try simp only [decide_eq_true_eq, decide_eq_false_iff_not, Bool.not_eq_true', Bool.not_eq_false', Int.not_lt, Int.not_le, ne_eq, Decidable.not_not, beq_iff_eq, List.cons.injEq, and_true] at hc); (first | (exfalso; omega) | exact absurd True.intro hc | conv => whnf))) | ((with_reducible refine And.intro True.intro ?_); conv => whnf) | ((with_reducible refine CallX.all ?_); refine CallW.of_ok (k1 _) ?_; conv => whnf) | ((with_reducible refine And.intro ?hh ?_); (case hh => exact condA); conv => whnf) | fail))
      refine WpR.loopA (ι := Nat) [] [2, 3] [] [] 2 (fun i => [(5, .int .i64 i)]) (fun _ => []) (fun i => k - i) (fun i => i ≤ k ∧ ∀ j, j < i → decide (A j = B j) = true) ?_ (0) (⟨Nat.zero_le _, fun j hj => by omega⟩) [] Back.auto
      rintro i ⟨j1, j2⟩
      refine WpR.of_vc ?_
      by_cases hi : i < k
      · by_cases he : A i = B i
        · (conv => whnf); (repeat' (first | ((with_reducible refine ifb_mk (fun hc => ?_) (fun hc => ?_)) <;> ((try simp only [decide_eq_true_eq, decide_eq_false_iff_not, Bool.not_eq_true', Bool.not_eq_false', Int.not_lt, Int.not_le, ne_eq, Decidable.not_not, beq_iff_eq, List.cons.injEq, and_true] at hc); (first | (exfalso; omega) | exact absurd True.intro hc | conv => whnf))) | ((with_reducible refine And.intro True.intro ?_); conv => whnf) | ((with_reducible refine grd_and ?_); refine And.intro (hi) ?_; conv => whnf) | ((with_reducible refine WpR.draw (id := 6) mixed [0, 1, 2, 3, 4, 5, 6, 7, 8, 9, 10] [0, 1, 0, 7, 15, 0, 32, 0, 224, 480, 1023] ?hh ?_); (case hh => kernel_rfl); conv => whnf) | ((with_reducible refine And.intro ?hh ?_); (case hh => exact condA); conv => whnf) | fail))
          all_goals first | exact absurd he hc | (exact ⟨i + 1, [], by omega, ⟨by omega, below_succ j2 (decide_eq_true he)⟩, Back.auto⟩)
        · rw [allF_f (p := fun i => decide (A i = B i)) hi (decide_eq_false he)]
          (conv => whnf); (repeat' (first | ((with_reducible refine ifb_mk (fun hc => ?_) (fun hc => ?_)) <;> ((try simp only [decide_eq_true_eq, decide_eq_false_iff_not, Bool.not_eq_true', Bool.not_eq_false', Int.not_lt, Int.not_le, ne_eq, Decidable.not_not, beq_iff_eq, List.cons.injEq, and_true] at hc); (first | (exfalso; omega) | exact absurd True.intro hc | conv => whnf))) | ((with_reducible refine And.intro True.intro ?_); conv => whnf) | ((with_reducible refine grd_and ?_); refine And.intro (hi) ?_; conv => whnf) | ((with_reducible refine WpR.draw (id := 6) mixed [0, 1, 2, 3, 4, 5, 6, 7, 8, 9, 10] [0, 1, 0, 7, 15, 0, 32, 0, 224, 480, 1023] ?hh ?_); (case hh => kernel_rfl); conv => whnf) | ((with_reducible refine And.intro ?hh ?_); (case hh => exact condA); conv => whnf) | fail))
          all_goals first | (refine ⟨[], ?_, rfl, rfl, trivial, trivs⟩; simp only [renV, renL]; (first | done | rfl | (simp; done) | (simp; omega) | grind)) | exact absurd hc he
      · rw [allF_t (p := fun i => decide (A i = B i)) (fun j hj => j2 j (by omega))]
        (conv => whnf); (repeat' (first | ((with_reducible refine ifb_mk (fun hc => ?_) (fun hc => ?_)) <;> ((try simp only [decide_eq_true_eq, decide_eq_false_iff_not, Bool.not_eq_true', Bool.not_eq_false', Int.not_lt, Int.not_le, ne_eq, Decidable.not_not, beq_iff_eq, List.cons.injEq, and_true] at hc); (first | (exfalso; omega) | exact absurd True.intro hc | conv => whnf))) | ((with_reducible refine And.intro True.intro ?_); conv => whnf) | ((with_reducible refine And.intro ?hh ?_); (case hh => exact condA); conv => whnf) | fail))
        (refine ⟨[], ?_, rfl, rfl, trivial, trivs⟩; simp only [renV, renL]; (first | done | rfl | (simp; done) | (simp; omega) | grind))
    · rw [decide_eq_false h0, Bool.false_and]
      refine CallOk.run0 Try.func26 rfl rfl rfl rfl rfl (WpR.of_vc ?_)
      (conv => whnf); (repeat' (first | ((with_reducible refine ifb_mk (fun hc => ?_) (fun hc => ?_)) <;> ((try simp only [decide_eq_true_eq, decide_eq_false_iff_not, Bool.not_eq_true', Bool.not_eq_false', Int.not_lt, Int.not_le, ne_eq, Decidable.not_not, beq_iff_eq, List.cons.injEq, and_true] at hc); (first | (exfalso; omega) | exact absurd True.intro hc | conv => whnf))) | ((with_reducible refine And.intro True.intro ?_); conv => whnf) | ((with_reducible refine CallX.all ?_); refine CallW.of_ok (k1 _) ?_; conv => whnf) | ((with_reducible refine And.intro ?hh ?_); (case hh => exact condA); conv => whnf) | fail))
      all_goals first | (refine ⟨[], ?_, rfl, rfl, trivial, trivs⟩; simp only [renV, renL]; (first | done | rfl | (simp; done) | (simp; omega) | grind)) | (exfalso; omega)
end Go.Proofs.Q

namespace Go.Proofs.Q
open Go.As
set_option maxRecDepth 20000
set_option linter.unusedVariables false
set_option linter.unusedSimpArgs false

/-! ### Lists that were grown -/

def eI (x : Int) : List V := [.int .i64 x]
def eT (t : List UInt8) : List V := [tx t]
theorem eI_len (x : Int) : (eI x).length = 1 := rfl
theorem eT_len (t : List UInt8) : (eT t).length = 1 := rfl
theorem eI_bare (x : Int) : ∀ v ∈ eI x, bare0 v = true := fun v h => by rw [List.mem_singleton.1 h]; rfl
theorem eT_bare (t : List UInt8) : ∀ v ∈ eT t, bare0 v = true := fun v h => by rw [List.mem_singleton.1 h]; rfl
/-- The elements of a list, the last one first in the list. -/
def iOf (l : List Int) : Nat → Int := fun j => l.reverse.getD j 0
def tOf (l : List (List UInt8)) : Nat → List UInt8 := fun j => l.reverse.getD j []
theorem iG_of (l : List Int) : ∀ j x, l.reverse[j]? = some x → iG (iOf l) j = eI x := fun j x h => by
  unfold iG iOf eI
  rw [List.getD_eq_getElem?_getD, h]; rfl
theorem tG_of (l : List (List UInt8)) : ∀ j x, l.reverse[j]? = some x → tG (tOf l) j = eT x := fun j x h => by
  unfold tG tOf eT
  rw [List.getD_eq_getElem?_getD, h]; rfl
theorem gI_bare (l : List Int) : ∀ v ∈ gR eI l, bare0 v = true := gR_bare eI_bare
theorem gT_bare (l : List (List UInt8)) : ∀ v ∈ gR eT l, bare0 v = true := gR_bare eT_bare
theorem gI_len (l : List Int) : (gR eI l).length = l.length * 1 := gR_len eI_len l
theorem gT_len (l : List (List UInt8)) : (gR eT l).length = l.length * 1 := gR_len eT_len l
theorem gI_one (l : List Int) : (gR eI l).all one = true := gR_one eI_bare l
theorem gT_one (l : List (List UInt8)) : (gR eT l).all one = true := gR_one eT_bare l

/-! ### Merged marks -/

/-- The letters for which it is so, the last one first. -/
def selR (p : Nat → Bool) : Nat → List Int
  | 0 => []
  | i + 1 => if p i = true then (i : Int) :: selR p i else selR p i
theorem selR_len (p : Nat → Bool) : ∀ i, (selR p i).length ≤ i
  | 0 => Nat.le_refl _
  | i + 1 => by
    have := selR_len p i
    have e : selR p (i + 1) = if p i = true then (i : Int) :: selR p i else selR p i := rfl
    rw [e]
    split
    · rw [List.length_cons]; omega
    · omega
/-- The first ones of a sequence, the last one first. -/
def revR (A : Nat → List UInt8) : Nat → List (List UInt8)
  | 0 => []
  | i + 1 => A i :: revR A i
theorem revR_len (A : Nat → List UInt8) : ∀ i, (revR A i).length = i
  | 0 => rfl
  | i + 1 => by show (revR A i).length + 1 = _; rw [revR_len A i]
theorem revR_at (A : Nat → List UInt8) : ∀ {n i : Nat}, i < n → (revR A n).reverse[i]? = some (A i)
  | 0, _, h => by omega
  | n + 1, i, h => by
    show (A n :: revR A n).reverse[i]? = _
    rw [List.reverse_cons]
    by_cases hi : i < n
    · rw [List.getElem?_append_left (by rw [List.length_reverse, revR_len]; exact hi)]
      exact revR_at A hi
    · have e : i = n := by omega
      subst e
      rw [List.getElem?_append_right (by rw [List.length_reverse, revR_len]; omega), List.length_reverse, revR_len, Nat.sub_self]
      rfl
def pk (A B : Nat → List UInt8) (i : Nat) : List UInt8 := if A i = [] then B i else A i
def orB (p q : Nat → Bool) (i : Nat) : Bool := p i || q i
set_option maxHeartbeats 8000000 in
theorem mergeR_new (h : H) (T : List UInt8) (n : Nat) (s : Nat → Int) (k : Nat) (A : Nat → List UInt8) (x1 x2 : Bool) (n' : Nat) (s' : Nat → Int) (k' : Nat) (B : Nat → List UInt8) (y1 y2 : Bool) (h1 : ckM T.length n s k A = 0) (h2 : ckM T.length n' s' k' B = 0)
    (hcl : ∀ j, j < k → clP A B j = false) (l : List Int) (hl : l = selR (orB (stF n s) (stF n' s')) T.length) (m : List (List UInt8)) (hm : m = revR (pk A B) k) :
    CallOk Try.prog 28 [tx T, marksV n s k A x1 x2, marksV n' s' k' B y1 y2] h (.tup [.agg [grV (h.n + 0) l.length, grV (h.n + (gNew 1 eI l).length) m.length], .int .i64 0]) (addBs h (gNew 1 eI l ++ gNew 1 eT m)) := by
  obtain ⟨a1, a2, a3, a4⟩ := ckM_n h1
  obtain ⟨b1, b2, b3, b4⟩ := ckM_n h2
  have hn := st_le a4
  have hn' := st_le b4
  have kB := fun h' => bothR_ok h' T n s k A x1 x2 n' s' k' B y1 y2 (by omega) (by omega) (by omega) (by omega) (by omega)
  rw [h1, h2, if_pos rfl] at kB
  have ek : k' = k := by omega
  subst ek
  have kC := fun h' => clashOf_none h' n s k' A x1 x2 n' s' B y1 y2 (by omega) hcl
  have kH := fun h' (i : Nat) => has_ok h' n s x1 i (by omega)
  have kH' := fun h' (i : Nat) => has_ok h' n' s' y1 i (by omega)
  have e1 : ∀ i : Nat, hasB n s i = stF n s i := fun i => rfl
  have e2 : ∀ i : Nat, hasB n' s' i = stF n' s' i := fun i => rfl
  simp only [e1] at kH
  simp only [e2] at kH'
  generalize stF n s = P at *
  generalize stF n' s' = P' at *
  have hs := selR_len (orB P P')
  have hs0 : selR (orB P P') 0 = [] := rfl
  have hss : ∀ i, selR (orB P P') (i + 1) = if (P i || P' i) = true then (i : Int) :: selR (orB P P') i else selR (orB P P') i := fun i => rfl
  have hr0 : revR (pk A B) 0 = [] := rfl
  have hrs : ∀ i, revR (pk A B) (i + 1) = (if A i = [] then B i else A i) :: revR (pk A B) i := fun i => rfl
  have hrl := revR_len (pk A B)
  generalize selR (orB P P') = SL at *
  generalize revR (pk A B) = RL at *
  clear h1 h2 hcl a3 a4 b3 b4 e1 e2
  refine CallOk.runN Try.func28 rfl rfl (argsC := [tx T, marksV n s k' A x1 x2, marksV n' s' k' B y1 y2]) (fun N => .tup [.agg [grV (N + 0) l.length, grV (N + (gNew 1 eI l).length) m.length], .int .i64 0]) (fun _ => gNew 1 eI l ++ gNew 1 eT m) (Nat.le_of_ble_eq_true rfl) [] (.cons (.lt0 rfl) (.cons (.lt0 rfl) (.cons (.lt0 rfl) .nil))) (viewM0 h)
    (ShV.tup (.cons (ShV.agg (.cons (grSh _ _ _ 1 0 _ eI l (by simp)) (.cons (grSh _ _ _ 1 _ _ eT m (by simp)) .nil))) (.cons (.bare rfl) .nil))) rfl
    (fun i b hi => ?_) (WpR.of_vc ?_)
  · by_cases hlt : i < (gNew 1 eI l).length
    · rw [List.getElem?_append_left hlt] at hi
      exact ⟨b, by rw [List.getElem?_append_left hlt]; exact hi, grBs eI_bare hi⟩
    · rw [List.getElem?_append_right (by omega)] at hi
      exact ⟨b, by rw [List.getElem?_append_right (by omega)]; exact hi, grBs eT_bare hi⟩
  (conv => whnf); (repeat' (first | ((with_reducible refine ifb_mk (fun hc => ?_) (fun hc => ?_)) <;> ((try simp only [decide_eq_true_eq, decide_eq_false_iff_not, Bool.not_eq_true', Bool.not_eq_false', Int.not_lt, Int.not_le, ne_eq, Decidable.not_not, beq_iff_eq, List.cons.injEq, and_true] at hc); (first | (exfalso; omega) | exact absurd True.intro hc | conv => whnf))) | ((with_reducible refine And.intro True.intro ?_); conv => whnf) | ((with_reducible refine CallX.all ?_); refine CallW.of_ok (kB _) ?_; conv => whnf) | ((with_reducible refine CallX.all ?_); refine CallW.of_ok (kC _) ?_; conv => whnf) | ((with_reducible refine And.intro ?hh ?_); (case hh => exact condA); conv => whnf) | fail))
  have hMap : ∀ i, ltB 5 (.cells (ofL [grV 4 i, .nils] 0) true none) := fun i => ltB_ofL (by intro v hv; (repeat (rcases List.mem_cons.1 hv with rfl | hv; (first | rfl | exact grV_lt rfl i))); cases hv)
  have hMapA : ∀ i, ltB 1000 (.cells (ofL [grV 4 i, .nils] 0) true none) := fun i => ltB_ofL (by intro v hv; (repeat (rcases List.mem_cons.1 hv with rfl | hv; (first | rfl | exact grV_lt rfl i))); cases hv)
  have hMap2 : ∀ l : List Int, ltB 5 (grB 1 (gR eI l) l.length) := fun l => grB_lt (gI_bare l) _
  refine WpR.loopA (ι := Nat × List Int) [4] [0, 4, 5, 6, 7, 8] [3, 4] [] 5 (fun p => [(9, .int .i64 p.1)]) (fun p => [(3, .cells (ofL [grV 4 p.2.length, .nils] 0) true none), (4, grB 1 (gR eI p.2) p.2.length)]) (fun p => T.length - p.1) (fun p => p.1 ≤ T.length ∧ p.2 = SL p.1) ?_ ((0, [])) (⟨Nat.zero_le _, hs0.symm⟩) [] Back.auto
  rintro ⟨i, q⟩ ⟨j1, j2⟩
  dsimp only at j1 j2
  refine WpR.of_vc ?_
  have hql := hs i
  rw [← j2] at hql
  by_cases hi : i < T.length
  · have e := hss i
    rw [← j2] at e
    cases hp : P i with
    | true =>
      rw [hp, Bool.true_or, if_pos rfl] at e
      have kH1 := fun h' => (hp ▸ kH h' i)
      (conv => whnf); (repeat' (first | ((with_reducible refine ifb_mk (fun hc => ?_) (fun hc => ?_)) <;> ((try simp only [decide_eq_true_eq, decide_eq_false_iff_not, Bool.not_eq_true', Bool.not_eq_false', Int.not_lt, Int.not_le, ne_eq, Decidable.not_not, beq_iff_eq, List.cons.injEq, and_true] at hc); (first | (exfalso; omega) | exact absurd True.intro hc | conv => whnf))) | ((with_reducible refine And.intro True.intro ?_); conv => whnf) | ((with_reducible refine CallX.all ?_); refine CallW.of_ok (kH1 _) ?_; conv => whnf) | (refine AppX.gr (n := 1) (L := gR eI q) (len := q.length) rfl rfl (gI_len q) (gI_one q) Nat.zero_lt_one (by omega) ?_; conv => whnf) | ((with_reducible refine And.intro ?hh ?_); (case hh => exact condA); conv => whnf) | fail))
      exact ⟨(i + 1, (i : Int) :: q), [(4, 6)], by dsimp only; omega, ⟨by dsimp only; omega, e.symm⟩, Back.auto⟩
    | false =>
      have kH1 := fun h' => (hp ▸ kH h' i)
      cases hp' : P' i with
      | true =>
        rw [hp, hp', Bool.false_or, if_pos rfl] at e
        have kH2 := fun h' => (hp' ▸ kH' h' i)
        (conv => whnf); (repeat' (first | ((with_reducible refine ifb_mk (fun hc => ?_) (fun hc => ?_)) <;> ((try simp only [decide_eq_true_eq, decide_eq_false_iff_not, Bool.not_eq_true', Bool.not_eq_false', Int.not_lt, Int.not_le, ne_eq, Decidable.not_not, beq_iff_eq, List.cons.injEq, and_true] at hc); (first | (exfalso; omega) | exact absurd True.intro hc | conv => whnf))) | ((with_reducible refine And.intro True.intro ?_); conv => whnf) | ((with_reducible refine CallX.all ?_); refine CallW.of_ok (kH1 _) ?_; conv => whnf) | ((with_reducible refine CallX.all ?_); refine CallW.of_ok (kH2 _) ?_; conv => whnf) | (refine AppX.gr (n := 1) (L := gR eI q) (len := q.length) rfl rfl (gI_len q) (gI_one q) Nat.zero_lt_one (by omega) ?_; conv => whnf) | ((with_reducible refine And.intro ?hh ?_); (case hh => exact condA); conv => whnf) | fail))
        exact ⟨(i + 1, (i : Int) :: q), [(4, 6)], by dsimp only; omega, ⟨by dsimp only; omega, e.symm⟩, Back.auto⟩
      | false =>
        rw [hp, hp', Bool.false_or, if_neg (by decide)] at e
        have kH2 := fun h' => (hp' ▸ kH' h' i)
        (conv => whnf); (repeat' (first | ((with_reducible refine ifb_mk (fun hc => ?_) (fun hc => ?_)) <;> ((try simp only [decide_eq_true_eq, decide_eq_false_iff_not, Bool.not_eq_true', Bool.not_eq_false', Int.not_lt, Int.not_le, ne_eq, Decidable.not_not, beq_iff_eq, List.cons.injEq, and_true] at hc); (first | (exfalso; omega) | exact absurd True.intro hc | conv => whnf))) | ((with_reducible refine And.intro True.intro ?_); conv => whnf) | ((with_reducible refine CallX.all ?_); refine CallW.of_ok (kH1 _) ?_; conv => whnf) | ((with_reducible refine CallX.all ?_); refine CallW.of_ok (kH2 _) ?_; conv => whnf) | ((with_reducible refine And.intro ?hh ?_); (case hh => exact condA); conv => whnf) | fail))
        exact ⟨(i + 1, q), [], by dsimp only; omega, ⟨by dsimp only; omega, e.symm⟩, Back.auto⟩
  · have ei : i = T.length := by omega
    rw [ei] at j2
    have el : l = q := by rw [hl, j2]
    subst el
    (conv => whnf); (repeat' (first | ((with_reducible refine ifb_mk (fun hc => ?_) (fun hc => ?_)) <;> ((try simp only [decide_eq_true_eq, decide_eq_false_iff_not, Bool.not_eq_true', Bool.not_eq_false', Int.not_lt, Int.not_le, ne_eq, Decidable.not_not, beq_iff_eq, List.cons.injEq, and_true] at hc); (first | (exfalso; omega) | exact absurd True.intro hc | conv => whnf))) | ((with_reducible refine And.intro True.intro ?_); conv => whnf) | ((with_reducible refine And.intro ?hh ?_); (case hh => exact condA); conv => whnf) | fail))
    clear hMap hMapA hMap2
    have hB0 : ∀ i j, ∀ n, Nat.blt 5 n = true → ltB n (.cells (ofL [grV 4 i, grV 5 j] 0) true none) := fun i j n hn => ltB_ofL (by
      have h4 : Nat.blt 4 n = true := by rw [Nat.blt_eq] at hn ⊢; omega
      intro v hv; (repeat (rcases List.mem_cons.1 hv with rfl | hv; (first | exact grV_lt hn _ | exact grV_lt h4 _))); cases hv)
    have hMap : ∀ i j, ltB 6 (.cells (ofL [grV 4 i, grV 5 j] 0) true none) := fun i j => hB0 i j 6 rfl
    have hMapA : ∀ i j, ltB 1000 (.cells (ofL [grV 4 i, grV 5 j] 0) true none) := fun i j => hB0 i j 1000 rfl
    have hMap2 : ∀ l : List (List UInt8), ltB 6 (grB 1 (gR eT l) l.length) := fun l => grB_lt (gT_bare l) _
    have hMapB : ∀ l : List Int, ltB 6 (grB 1 (gR eI l) l.length) := fun l => grB_lt (gI_bare l) _
    refine WpR.loopA (ι := Nat × List (List UInt8)) [5] [0, 4, 5, 6, 7, 8] [3, 5] [] 6 (fun p => [(10, .int .i64 p.1)]) (fun p => [(3, .cells (ofL [grV 4 l.length, grV 5 p.2.length] 0) true none), (5, grB 1 (gR eT p.2) p.2.length)]) (fun p => k' - p.1) (fun p => p.1 ≤ k' ∧ p.2 = RL p.1) ?_ ((0, [])) (⟨Nat.zero_le _, hr0.symm⟩) [] Back.auto
    rintro ⟨j, r⟩ ⟨j3, j4⟩
    dsimp only at j3 j4
    refine WpR.of_vc ?_
    have hrl1 := hrl j
    rw [← j4] at hrl1
    by_cases hj : j < k'
    · have e := hrs j
      rw [← j4] at e
      by_cases ha : A j = []
      · rw [if_pos ha] at e
        (conv => whnf); (repeat' (first | ((with_reducible refine ifb_mk (fun hc => ?_) (fun hc => ?_)) <;> ((try simp only [decide_eq_true_eq, decide_eq_false_iff_not, Bool.not_eq_true', Bool.not_eq_false', Int.not_lt, Int.not_le, ne_eq, Decidable.not_not, beq_iff_eq, List.cons.injEq, and_true] at hc); (first | (exfalso; omega) | exact absurd True.intro hc | conv => whnf))) | ((with_reducible refine And.intro True.intro ?_); conv => whnf) | ((with_reducible refine grd_and ?_); refine And.intro (hj) ?_; conv => whnf) | (refine AppX.gr (n := 1) (L := gR eT r) (len := r.length) rfl rfl (gT_len r) (gT_one r) Nat.zero_lt_one (by omega) ?_; conv => whnf) | ((with_reducible refine And.intro ?hh ?_); (case hh => exact condA); conv => whnf) | fail))
        all_goals first | exact absurd ha hc | (exfalso; omega) | exact ⟨(j + 1, B j :: r), [(5, 7)], by dsimp only; omega, ⟨by dsimp only; omega, e.symm⟩, Back.auto⟩
      · rw [if_neg ha] at e
        (conv => whnf); (repeat' (first | ((with_reducible refine ifb_mk (fun hc => ?_) (fun hc => ?_)) <;> ((try simp only [decide_eq_true_eq, decide_eq_false_iff_not, Bool.not_eq_true', Bool.not_eq_false', Int.not_lt, Int.not_le, ne_eq, Decidable.not_not, beq_iff_eq, List.cons.injEq, and_true] at hc); (first | (exfalso; omega) | exact absurd True.intro hc | conv => whnf))) | ((with_reducible refine And.intro True.intro ?_); conv => whnf) | ((with_reducible refine grd_and ?_); refine And.intro (hj) ?_; conv => whnf) | (refine AppX.gr (n := 1) (L := gR eT r) (len := r.length) rfl rfl (gT_len r) (gT_one r) Nat.zero_lt_one (by omega) ?_; conv => whnf) | ((with_reducible refine And.intro ?hh ?_); (case hh => exact condA); conv => whnf) | fail))
        all_goals first | exact absurd hc ha | (exfalso; omega) | exact ⟨(j + 1, A j :: r), [(5, 7)], by dsimp only; omega, ⟨by dsimp only; omega, e.symm⟩, Back.auto⟩
    · have ej : j = k' := by omega
      rw [ej] at j4
      have em : m = r := by rw [hm, j4]
      subst em
      cases m with
      | nil => rw [List.length_nil] at hrl1; omega
      | cons y m =>
        cases l with
        | nil =>
          (conv => whnf); (repeat' (first | ((with_reducible refine ifb_mk (fun hc => ?_) (fun hc => ?_)) <;> ((try simp only [decide_eq_true_eq, decide_eq_false_iff_not, Bool.not_eq_true', Bool.not_eq_false', Int.not_lt, Int.not_le, ne_eq, Decidable.not_not, beq_iff_eq, List.cons.injEq, and_true] at hc); (first | (exfalso; omega) | exact absurd True.intro hc | conv => whnf))) | ((with_reducible refine And.intro True.intro ?_); conv => whnf) | ((with_reducible refine And.intro ?hh ?_); (case hh => exact condA); conv => whnf) | fail))
          all_goals first | (exfalso; omega) | exact ⟨[5], rfl, rfl, rfl, ⟨⟨_, rfl, rfl, SubQ.ofL rfl (gT_bare (y :: m)) (.inr rfl)⟩, ltB_ofLb (gT_bare (y :: m)), rfl, trivial⟩, trivs⟩
        | cons x l =>
          (conv => whnf); (repeat' (first | ((with_reducible refine ifb_mk (fun hc => ?_) (fun hc => ?_)) <;> ((try simp only [decide_eq_true_eq, decide_eq_false_iff_not, Bool.not_eq_true', Bool.not_eq_false', Int.not_lt, Int.not_le, ne_eq, Decidable.not_not, beq_iff_eq, List.cons.injEq, and_true] at hc); (first | (exfalso; omega) | exact absurd True.intro hc | conv => whnf))) | ((with_reducible refine And.intro True.intro ?_); conv => whnf) | ((with_reducible refine And.intro ?hh ?_); (case hh => exact condA); conv => whnf) | fail))
          all_goals first | (exfalso; omega) | exact ⟨[4, 5], rfl, rfl, rfl, ⟨⟨_, rfl, rfl, SubQ.ofL rfl (gI_bare (x :: l)) (.inr rfl)⟩, ltB_ofLb (gI_bare (x :: l)), rfl, ⟨_, rfl, rfl, SubQ.ofL rfl (gT_bare (y :: m)) (.inr rfl)⟩, ltB_ofLb (gT_bare (y :: m)), rfl, trivial⟩, trivs⟩
end Go.Proofs.Q

namespace Go.Proofs.Q
open Go.As
set_option maxRecDepth 20000
set_option linter.unusedVariables false
set_option linter.unusedSimpArgs false

/-! ### Two lists that were grown, as values -/

theorem two0 {α β : Type} {l : List α} {m : List β} {e : α → List V} {e' : β → List V} {sz sz' : Nat} : ∀ b, (gNew sz e l)[0]? = some b → (gNew sz e l ++ gNew sz' e' m)[0]? = some b := fun b h => by
  rw [List.getElem?_append_left ((List.getElem?_eq_some_iff.1 h).1)]; exact h
theorem two1 {α β : Type} {l : List α} {m : List β} {e : α → List V} {e' : β → List V} {sz sz' : Nat} : ∀ b, (gNew sz' e' m)[0]? = some b → (gNew sz e l ++ gNew sz' e' m)[(gNew sz e l).length]? = some b := fun b h => by
  rw [List.getElem?_append_right (Nat.le_refl _), Nat.sub_self]; exact h
theorem two_wr {α β : Type} {l : List α} {m : List β} {e : α → List V} {e' : β → List V} {sz sz' : Nat} : ∀ b ∈ gNew sz e l ++ gNew sz' e' m, b.wr = true := fun b h => by
  rcases List.mem_append.1 h with h | h
  · exact gNew_wr b h
  · exact gNew_wr b h
theorem revR_g (A : Nat → List UInt8) (k : Nat) : ∀ j x, (revR A k).reverse[j]? = some x → tG A j = eT x := fun j x h => by
  have hj : j < k := by have := (List.getElem?_eq_some_iff.1 h).1; rwa [List.length_reverse, revR_len] at this
  rw [revR_at A hj] at h
  cases h; rfl
/-- What marks are merged to. -/
def mgS (T : List UInt8) (n : Nat) (s : Nat → Int) (n' : Nat) (s' : Nat → Int) : List Int := selR (orB (stF n s) (stF n' s')) T.length
theorem mergeR_ok (h : H) (T : List UInt8) (n : Nat) (s : Nat → Int) (k : Nat) (A : Nat → List UInt8) (x1 x2 : Bool) (n' : Nat) (s' : Nat → Int) (k' : Nat) (B : Nat → List UInt8) (y1 y2 : Bool) (h1 : ckM T.length n s k A = 0) (h2 : ckM T.length n' s' k' B = 0)
    (hcl : ∀ j, j < k → clP A B j = false) :
    CallOk Try.prog 28 [tx T, marksV n s k A x1 x2, marksV n' s' k' B y1 y2] h (.tup [marksV (mgS T n s n' s').length (iOf (mgS T n s n' s')) k (pk A B) false false, .int .i64 0]) h := by
  have hc := mergeR_new h T n s k A x1 x2 n' s' k' B y1 y2 h1 h2 hcl _ rfl _ rfl
  have e := revR_len (pk A B) k
  have := CallOk.freeze hc (FzL.tup (.cons (FzL.agg (.cons (grFz (i := 0) eI_len eI_bare two0 (iG_of _)) (.cons (grFz eT_len eT_bare two1 (revR_g _ _)) .nil))) (.cons (.same rfl) .nil))) two_wr
  rw [e] at this
  exact this
theorem mergeR_clash (h : H) (T : List UInt8) (n : Nat) (s : Nat → Int) (k : Nat) (A : Nat → List UInt8) (x1 x2 : Bool) (n' : Nat) (s' : Nat → Int) (k' : Nat) (B : Nat → List UInt8) (y1 y2 : Bool) (h1 : ckM T.length n s k A = 0) (h2 : ckM T.length n' s' k' B = 0)
    (p : Nat) (hp : p < k) (g1 : clP A B p = true) (g2 : ∀ j, j < p → clP A B j = false) :
    CallOk Try.prog 28 [tx T, marksV n s k A x1 x2, marksV n' s' k' B y1 y2] h (.tup [.agg [.nils, .nils], .int .i64 21]) h := by
  obtain ⟨a1, a2, a3, a4⟩ := ckM_n h1
  obtain ⟨b1, b2, b3, b4⟩ := ckM_n h2
  have hn := st_le a4
  have hn' := st_le b4
  have kB := fun h' => bothR_ok h' T n s k A x1 x2 n' s' k' B y1 y2 (by omega) (by omega) (by omega) (by omega) (by omega)
  rw [h1, h2, if_pos rfl] at kB
  have ek : k' = k := by omega
  subst ek
  have kC := fun h' => clashOf_some h' n s k' A x1 x2 n' s' B y1 y2 (by omega) p hp g1 g2
  refine CallOk.run0 Try.func28 rfl rfl rfl rfl rfl (WpR.of_vc ?_)
  (conv => whnf); (repeat' (first | ((with_reducible refine ifb_mk (fun hc => ?_) (fun hc => ?_)) <;> ((try simp only [decide_eq_true_eq, decide_eq_false_iff_not, Bool.not_eq_true', Bool.not_eq_false', Int.not_lt, Int.not_le, ne_eq, Decidable.not_not, beq_iff_eq, List.cons.injEq, and_true] at hc); (first | (exfalso; omega) | exact absurd True.intro hc | conv => whnf))) | ((with_reducible refine And.intro True.intro ?_); conv => whnf) | ((with_reducible refine CallX.all ?_); refine CallW.of_ok (kB _) ?_; conv => whnf) | ((with_reducible refine CallX.all ?_); refine CallW.of_ok (kC _) ?_; conv => whnf) | ((with_reducible refine And.intro ?hh ?_); (case hh => exact condA); conv => whnf) | fail))
  all_goals first | (refine ⟨[], ?_, rfl, rfl, trivial, trivs⟩; simp only [renV, renL]; (first | done | rfl | (simp; done) | (simp; omega) | grind)) | (exfalso; omega)
theorem mergeR_err (h : H) (T : List UInt8) (n : Nat) (s : Nat → Int) (k : Nat) (A : Nat → List UInt8) (x1 x2 : Bool) (n' : Nat) (s' : Nat → Int) (k' : Nat) (B : Nat → List UInt8) (y1 y2 : Bool) (hT : T.length ≤ 9223372036854775806)
    (hn : n ≤ 9223372036854775807) (hk : k ≤ 9223372036854775807) (hn' : n' ≤ 9223372036854775807) (hk' : k' ≤ 9223372036854775807) (e : Int) (he : (if ckM T.length n s k A = 0 then ckM T.length n' s' k' B else ckM T.length n s k A) = e) (h0 : e ≠ 0) :
    CallOk Try.prog 28 [tx T, marksV n s k A x1 x2, marksV n' s' k' B y1 y2] h (.tup [.agg [.nils, .nils], .int .i64 e]) h := by
  have kB := fun h' => bothR_ok h' T n s k A x1 x2 n' s' k' B y1 y2 hT hn hk hn' hk'
  rw [he] at kB
  clear he
  refine CallOk.run0 Try.func28 rfl rfl rfl rfl rfl (WpR.of_vc ?_)
  (conv => whnf); (repeat' (first | ((with_reducible refine ifb_mk (fun hc => ?_) (fun hc => ?_)) <;> ((try simp only [decide_eq_true_eq, decide_eq_false_iff_not, Bool.not_eq_true', Bool.not_eq_false', Int.not_lt, Int.not_le, ne_eq, Decidable.not_not, beq_iff_eq, List.cons.injEq, and_true] at hc); (first | (exfalso; omega) | exact absurd True.intro hc | conv => whnf))) | ((with_reducible refine And.intro True.intro ?_); conv => whnf) | ((with_reducible refine CallX.all ?_); refine CallW.of_ok (kB _) ?_; conv => whnf) | ((with_reducible refine And.intro ?hh ?_); (case hh => exact condA); conv => whnf) | fail))
  all_goals first | (refine ⟨[], ?_, rfl, rfl, trivial, trivs⟩; simp only [renV, renL]; (first | done | rfl | (simp; done) | (simp; omega) | grind)) | exact absurd hc h0

/-! The program's own -/

def pkB (A B : Nat → List UInt8) (i : Nat) : List UInt8 := if B i = [] then A i else B i
def pkW (A B : Nat → List UInt8) (i j : Nat) : List UInt8 := if j < i then pkB A B j else A j
theorem pkW_set {A B : Nat → List UInt8} {i : Nat} (hb : B i ≠ []) (j : Nat) : pkW A B (i + 1) j = if j = i then B i else pkW A B i j := by
  unfold pkW pkB
  by_cases he : j = i
  · subst he; rw [if_pos (by omega), if_neg hb, if_pos rfl]
  · rw [if_neg he]
    by_cases hl : j < i
    · rw [if_pos hl, if_pos (by omega)]
    · rw [if_neg hl, if_neg (by omega)]
theorem pkW_skip {A B : Nat → List UInt8} {i : Nat} (hb : B i = []) (j : Nat) : pkW A B (i + 1) j = pkW A B i j := by
  unfold pkW pkB
  by_cases he : j = i
  · subst he; rw [if_pos (by omega), if_pos hb, if_neg (by omega)]
  · by_cases hl : j < i
    · rw [if_pos hl, if_pos (by omega)]
    · rw [if_neg hl, if_neg (by omega)]
theorem putN_ex : ∀ (l : List V) (c : Tr V) (o : Nat), (∀ k, k < l.length → ∃ v, c.get (o + k) = some v) → ∃ c2, putN l c o = some c2 ∧ ∀ k, c2.get k = if o ≤ k ∧ k < o + l.length then l[k - o]? else c.get k := by
  intro l
  induction l with
  | nil => intro c o _; exact ⟨c, rfl, fun k => by rw [if_neg (by simp only [List.length_nil]; omega)]⟩
  | cons u l ih =>
    intro c o h
    obtain ⟨v, hv⟩ := h 0 (by simp)
    rw [Nat.add_zero] at hv
    obtain ⟨c2, h1, h2⟩ := ih (c.set o u) (o + 1) (fun k hk => by
      obtain ⟨w, hw⟩ := h (k + 1) (by simp; omega)
      refine ⟨w, ?_⟩
      rw [Tr.get_set, if_neg (by omega), show o + 1 + k = o + (k + 1) from by omega]; exact hw)
    refine ⟨c2, by rw [putN_cons, hv]; exact h1, fun k => ?_⟩
    rw [h2]
    by_cases he : k = o
    · subst he
      rw [if_neg (by omega), Tr.get_set, if_pos rfl, if_pos (by simp only [List.length_cons]; omega), Nat.sub_self]; rfl
    · by_cases hk : o ≤ k ∧ k < o + (u :: l).length
      · rw [if_pos hk, if_pos (by simp only [List.length_cons] at hk; omega), show k - o = (k - (o + 1)) + 1 from by omega, List.getElem?_cons_succ]
      · rw [if_neg hk, if_neg (by simp only [List.length_cons] at hk; omega), Tr.get_set, if_neg he]
theorem rep_len (n : Nat) (z : List V) : (rep n z).length = n * z.length := by
  unfold rep
  induction n with
  | zero => simp
  | succ n ih => rw [List.replicate_succ, List.flatten_cons, List.length_append, ih, Nat.succ_mul]; omega
def arT (k : Nat) (f : Nat → List UInt8) : List V := arrV k fun i => tx (f i)
theorem arT_flat (A : Nat → List UInt8) : ∀ (k i : Nat), (flat (tG A) k i).length = k ∧ ∀ j, j < k → (flat (tG A) k i)[j]? = some (tx (A (i + j)))
  | 0, i => ⟨rfl, fun j h => by omega⟩
  | k + 1, i => by
    obtain ⟨h1, h2⟩ := arT_flat A k (i + 1)
    refine ⟨?_, fun j hj => ?_⟩
    · show ([tx (A i)] ++ flat (tG A) k (i + 1)).length = _
      rw [List.length_append, h1]; simp only [List.length_singleton]; omega
    · show ([tx (A i)] ++ flat (tG A) k (i + 1))[j]? = _
      cases j with
      | zero => rfl
      | succ j =>
        rw [List.getElem?_append_right (by simp), List.length_singleton, Nat.add_sub_cancel, h2 j (by omega), show i + 1 + j = i + (j + 1) from by omega]
set_option maxHeartbeats 8000000 in
theorem merged_new (h : H) (T : List UInt8) (n : Nat) (s : Nat → Int) (k : Nat) (A : Nat → List UInt8) (x1 x2 : Bool) (n' : Nat) (s' : Nat → Int) (B : Nat → List UInt8) (y1 y2 : Bool) (h1 : ckM T.length n s k A = 0) (h2 : ckM T.length n' s' k B = 0)
    (l : List Int) (hl : l = mgS T n s n' s') :
    CallOk Try.prog 61 [pageV n s k A x1 x2 T, pageV n' s' k B y1 y2 T] h (.agg [grV (h.n + 0) l.length, .sl (h.n + (gNew 1 eI l).length) 0 k k true]) (addBs h (gNew 1 eI l ++ [.cells (ofL (arT k (pkB A B)) 0) true none])) := by
  obtain ⟨a1, a2, a3, a4⟩ := ckM_n h1
  obtain ⟨b1, b2, b3, b4⟩ := ckM_n h2
  have hn := st_le a4
  have hn' := st_le b4
  have kH := fun h' (i : Nat) => leaves_ok h' n s k A x1 x2 T i (by omega)
  have kH' := fun h' (i : Nat) => leaves_ok h' n' s' k B y1 y2 T i (by omega)
  have e1 : ∀ i : Nat, hasB n s i = stF n s i := fun i => rfl
  have e2 : ∀ i : Nat, hasB n' s' i = stF n' s' i := fun i => rfl
  simp only [e1] at kH
  simp only [e2] at kH'
  unfold mgS at hl
  generalize stF n s = P at *
  generalize stF n' s' = P' at *
  have hs := selR_len (orB P P')
  have hs0 : selR (orB P P') 0 = [] := rfl
  have hss : ∀ i, selR (orB P P') (i + 1) = if (P i || P' i) = true then (i : Int) :: selR (orB P P') i else selR (orB P P') i := fun i => rfl
  generalize selR (orB P P') = SL at *
  clear h1 h2 a3 a4 b3 b4 e1 e2
  obtain ⟨fl, fg⟩ := arT_flat A k 0
  have hfl : (flat (tG A) k 0).all one = true := List.all_eq_true.2 fun v hv => by
    obtain ⟨j, hj⟩ := List.mem_iff_getElem?.1 hv
    have := fg j (by have := (List.getElem?_eq_some_iff.1 hj).1; omega)
    rw [this] at hj; cases hj; rfl
  obtain ⟨c2, hp2, hg2⟩ := putN_ex (flat (tG A) k 0) (ofL (rep k [tx []]) 0) 0 (fun j hj => by
    have hlr : j < (rep k [tx []]).length := by rw [rep_len]; simp only [List.length_singleton]; omega
    exact ⟨_, get_ofL0 (by rw [Nat.zero_add]; exact List.getElem?_eq_getElem hlr)⟩)
  have hcp : ∀ h' : H, (if (flat (tG A) (min k k) 0).all one = true then (match putN (flat (tG A) (min k k) 0) (ofL (rep k [tx []]) 0) 0 with
      | some c2 => some (V.int .i64 ((min k k : Nat) : Int), h'.put 3 (.cells c2 true none))
      | none => none) else none) = some (V.int .i64 ((min k k : Nat) : Int), h'.put 3 (.cells c2 true none)) := by
    intro h'
    rw [Nat.min_self, if_pos hfl, hp2]
  refine CallOk.runN Try.func61 rfl rfl (argsC := [pageV n s k A x1 x2 T, pageV n' s' k B y1 y2 T]) (fun N => .agg [grV (N + 0) l.length, .sl (N + (gNew 1 eI l).length) 0 k k true]) (fun _ => gNew 1 eI l ++ [.cells (ofL (arT k (pkB A B)) 0) true none]) (Nat.le_of_ble_eq_true rfl) [] (.cons (.lt0 rfl) (.cons (.lt0 rfl) .nil)) (viewM0 h)
    (ShV.agg (.cons (grSh _ _ _ 1 0 _ eI l (by simp)) (.cons (.sl (i := (gNew 1 eI l).length) (by simp) rfl rfl) .nil))) rfl
    (fun i b hi => ?_) (WpR.of_vc ?_)
  · by_cases hlt : i < (gNew 1 eI l).length
    · rw [List.getElem?_append_left hlt] at hi
      exact ⟨b, by rw [List.getElem?_append_left hlt]; exact hi, grBs eI_bare hi⟩
    · rw [List.getElem?_append_right (by omega)] at hi
      refine ⟨b, by rw [List.getElem?_append_right (by omega)]; exact hi, ?_⟩
      match hh : i - (gNew 1 eI l).length with
      | 0 => rw [hh] at hi; have e := Option.some.inj hi; subst e; exact ⟨rfl, .bare (ofL_bare (arrV_bare fun _ => rfl))⟩
      | j + 1 => rw [hh] at hi; simp at hi
  have hc2 : ∀ i v, c2.get i = some v → bare0 v = true := fun i v hv => by
    rw [hg2] at hv
    by_cases hi : 0 ≤ i ∧ i < 0 + (flat (tG A) k 0).length
    · rw [if_pos hi, fg _ (by omega)] at hv; cases hv; rfl
    · rw [if_neg hi, get_ofL, if_pos (Nat.zero_le _)] at hv
      have hm := List.mem_of_getElem? hv
      unfold rep at hm
      obtain ⟨l', h1', h2'⟩ := List.mem_flatten.1 hm
      rw [(List.mem_replicate.1 h1').2] at h2'
      rw [List.mem_singleton.1 h2']; rfl
  (conv => whnf); (repeat' (first | ((with_reducible refine ifb_mk (fun hc => ?_) (fun hc => ?_)) <;> ((try simp only [decide_eq_true_eq, decide_eq_false_iff_not, Bool.not_eq_true', Bool.not_eq_false', Int.not_lt, Int.not_le, ne_eq, Decidable.not_not, beq_iff_eq, List.cons.injEq, and_true] at hc); (first | (exfalso; omega) | exact absurd True.intro hc | conv => whnf))) | ((with_reducible refine And.intro True.intro ?_); conv => whnf) | (refine som_mk (hcp _) ?_; conv => whnf) | ((with_reducible refine And.intro ?hh ?_); (case hh => exact condA); conv => whnf) | fail))
  have hMap : ∀ m, ltB m (.cells c2 true none) := fun m i v hv => ltV_bare0 (hc2 i v hv)
  have hst : ∀ ρ : Nat → Nat, SubQ ρ (.cells (ofL (arT k (pkW A B 0)) 0) true none) (.cells c2 true none) := fun ρ => by
    refine SubQ.bare (fun j v hj => ?_) id (.inl rfl)
    rw [get_ofL, if_pos (Nat.zero_le _), Nat.sub_zero] at hj
    have hlt : j < k := by have := (List.getElem?_eq_some_iff.1 hj).1; unfold arT at this; rwa [arrV_len] at this
    unfold arT at hj
    rw [arrV_at hlt] at hj
    have hv := (Option.some.inj hj).symm
    subst hv
    refine ⟨?_, rfl⟩
    rw [hg2, if_pos ⟨Nat.zero_le _, by omega⟩, Nat.sub_zero, fg j hlt, Nat.zero_add]
    unfold pkW
    rw [if_neg (by omega)]
  have hMap2 : ∀ m f, ltB m (.cells (ofL (arT k f) 0) true none) := fun m f => ltB_ofLb (arrV_bare fun _ => rfl)
  refine WpR.loopA (ι := Nat) [] [2, 3, 4, 5, 21, 22] [3] [] 4 (fun i => [(23, .int .i64 i)]) (fun i => [(3, .cells (ofL (arT k (pkW A B i)) 0) true none)]) (fun i => k - i) (fun i => i ≤ k) ?_ (0) (Nat.zero_le _) [] ⟨rfl, rfl, (by (repeat' (first | exact True.intro | rfl | exact gr_ren rfl | exact aV_ren rfl | exact aW_ren rfl rfl | refine And.intro ?_ ?_))), (by (repeat' (first | exact True.intro | rfl | exact gr_ren rfl | exact aV_ren rfl | exact aW_ren rfl rfl | refine And.intro ?_ ?_))), (by (repeat' (first | exact True.intro | rfl | exact gr_ren rfl | exact aV_ren rfl | exact aW_ren rfl rfl | refine And.intro ?_ ?_))), ⟨.inr ⟨_, rfl, hst _⟩, trivial⟩, rfl, rfl⟩
  intro i j1
  refine WpR.of_vc ?_
  by_cases hi : i < k
  · by_cases hb : B i = []
    · (conv => whnf); (repeat' (first | ((with_reducible refine ifb_mk (fun hc => ?_) (fun hc => ?_)) <;> ((try simp only [decide_eq_true_eq, decide_eq_false_iff_not, Bool.not_eq_true', Bool.not_eq_false', Int.not_lt, Int.not_le, ne_eq, Decidable.not_not, beq_iff_eq, List.cons.injEq, and_true] at hc); (first | (exfalso; omega) | exact absurd True.intro hc | conv => whnf))) | ((with_reducible refine And.intro True.intro ?_); conv => whnf) | ((with_reducible refine grd_and ?_); refine And.intro (hi) ?_; conv => whnf) | ((with_reducible refine And.intro ?hh ?_); (case hh => exact condA); conv => whnf) | fail))
      all_goals first | exact absurd hb hc | exact ⟨i + 1, [], by omega, by omega, ⟨rfl, rfl, (by (repeat' (first | exact True.intro | rfl | exact gr_ren rfl | exact aV_ren rfl | exact aW_ren rfl rfl | refine And.intro ?_ ?_))), (by (repeat' (first | exact True.intro | rfl | exact gr_ren rfl | exact aV_ren rfl | exact aW_ren rfl rfl | refine And.intro ?_ ?_))), (by (repeat' (first | exact True.intro | rfl | exact gr_ren rfl | exact aV_ren rfl | exact aW_ren rfl rfl | refine And.intro ?_ ?_))), ⟨.inr ⟨_, rfl, arrV_sub (fun _ => rfl) (.inr rfl) (fun c _ => by rw [pkW_skip hb])⟩, trivial⟩, rfl, rfl⟩⟩
    · have hg : (ofL (arT k (pkW A B i)) 0).get (0 + (i : Int).toNat * 1) = some (tx (pkW A B i i)) := arrV_get (by omega) hi
      (conv => whnf); (repeat' (first | ((with_reducible refine ifb_mk (fun hc => ?_) (fun hc => ?_)) <;> ((try simp only [decide_eq_true_eq, decide_eq_false_iff_not, Bool.not_eq_true', Bool.not_eq_false', Int.not_lt, Int.not_le, ne_eq, Decidable.not_not, beq_iff_eq, List.cons.injEq, and_true] at hc); (first | (exfalso; omega) | exact absurd True.intro hc | conv => whnf))) | ((with_reducible refine And.intro True.intro ?_); conv => whnf) | ((with_reducible refine grd_and ?_); refine And.intro (hi) ?_; conv => whnf) | ((with_reducible refine grd_putN ?_); refine som_mk (a := ?_) ?hh ?_; (case hh => exact putN_one hg); conv => whnf) | ((with_reducible refine And.intro ?hh ?_); (case hh => exact condA); conv => whnf) | fail))
      all_goals first | exact absurd hc hb | exact ⟨i + 1, [], by omega, by omega, ⟨rfl, rfl, (by (repeat' (first | exact True.intro | rfl | exact gr_ren rfl | exact aV_ren rfl | exact aW_ren rfl rfl | refine And.intro ?_ ?_))), (by (repeat' (first | exact True.intro | rfl | exact gr_ren rfl | exact aV_ren rfl | exact aW_ren rfl rfl | refine And.intro ?_ ?_))), (by (repeat' (first | exact True.intro | rfl | exact gr_ren rfl | exact aV_ren rfl | exact aW_ren rfl rfl | refine And.intro ?_ ?_))), ⟨.inr ⟨_, rfl, arrV_set (p := i) (fun _ => rfl) rfl (by omega) (fun c _ => by rw [pkW_set hb]; split <;> rfl)⟩, trivial⟩, rfl, rfl⟩⟩
  · have ei : i = k := by omega
    subst ei
    (conv => whnf); (repeat' (first | ((with_reducible refine ifb_mk (fun hc => ?_) (fun hc => ?_)) <;> ((try simp only [decide_eq_true_eq, decide_eq_false_iff_not, Bool.not_eq_true', Bool.not_eq_false', Int.not_lt, Int.not_le, ne_eq, Decidable.not_not, beq_iff_eq, List.cons.injEq, and_true] at hc); (first | (exfalso; omega) | exact absurd True.intro hc | conv => whnf))) | ((with_reducible refine And.intro True.intro ?_); conv => whnf) | ((with_reducible refine CallX.all (f := 87) ?_); refine CallW.inline Try.func87 rfl rfl (Nat.le_of_ble_eq_true rfl) (WpR.of_vc ?_); conv => whnf) | ((with_reducible refine And.intro ?hh ?_); (case hh => exact condA); conv => whnf) | fail))
    have hfin : ∀ ρ : Nat → Nat, SubQ ρ (.cells (ofL (arT i (pkB A B)) 0) true none) (.cells (ofL (arT i (pkW A B i)) 0) true none) := fun ρ => arrV_sub (fun _ => rfl) (.inr rfl) (fun c hc => by unfold pkW; rw [if_pos hc])
    have hMapB := hMap2
    have hBareA : ∀ v ∈ arT i (pkW A B i), bare0 v = true := arrV_bare fun _ => rfl
    clear hMap hMap2
    have hMap : ∀ i, ltV 5 (grV 4 i) = true := grV_lt rfl
    have hMapA : ∀ l : List Int, ltB 5 (grB 1 (gR eI l) l.length) := fun l => grB_lt (gI_bare l) _
    refine WpR.loopA (ι := Nat × List Int) [4] [0, 1, 7, 8] [4] [] 5 (fun p => [(9, .int .i64 p.1), (5, grV 4 p.2.length)]) (fun p => [(4, grB 1 (gR eI p.2) p.2.length)]) (fun p => T.length - p.1) (fun p => p.1 ≤ T.length ∧ p.2 = SL p.1) ?_ ((0, [])) (⟨Nat.zero_le _, hs0.symm⟩) [] Back.auto
    rintro ⟨j, q⟩ ⟨g1, g2⟩
    dsimp only at g1 g2
    refine WpR.of_vc ?_
    have hql := hs j
    rw [← g2] at hql
    by_cases hj : j < T.length
    · have e := hss j
      rw [← g2] at e
      cases hp : P j with
      | true =>
        rw [hp, Bool.true_or, if_pos rfl] at e
        have kH1 := fun h' => (hp ▸ kH h' j)
        (conv => whnf); (repeat' (first | ((with_reducible refine ifb_mk (fun hc => ?_) (fun hc => ?_)) <;> ((try simp only [decide_eq_true_eq, decide_eq_false_iff_not, Bool.not_eq_true', Bool.not_eq_false', Int.not_lt, Int.not_le, ne_eq, Decidable.not_not, beq_iff_eq, List.cons.injEq, and_true] at hc); (first | (exfalso; omega) | exact absurd True.intro hc | conv => whnf))) | ((with_reducible refine And.intro True.intro ?_); conv => whnf) | ((with_reducible refine CallX.all (f := 85) ?_); refine CallW.inline Try.func85 rfl rfl (Nat.le_of_ble_eq_true rfl) (WpR.of_vc ?_); conv => whnf) | ((with_reducible refine CallX.all ?_); refine CallW.of_ok (kH1 _) ?_; conv => whnf) | (refine AppX.gr (n := 1) (L := gR eI q) (len := q.length) rfl rfl (gI_len q) (gI_one q) Nat.zero_lt_one (by omega) ?_; conv => whnf) | ((with_reducible refine And.intro ?hh ?_); (case hh => exact condA); conv => whnf) | fail))
        exact ⟨(j + 1, (j : Int) :: q), [(4, 6)], by dsimp only; omega, ⟨by dsimp only; omega, e.symm⟩, Back.auto⟩
      | false =>
        have kH1 := fun h' => (hp ▸ kH h' j)
        cases hp' : P' j with
        | true =>
          rw [hp, hp', Bool.false_or, if_pos rfl] at e
          have kH2 := fun h' => (hp' ▸ kH' h' j)
          (conv => whnf); (repeat' (first | ((with_reducible refine ifb_mk (fun hc => ?_) (fun hc => ?_)) <;> ((try simp only [decide_eq_true_eq, decide_eq_false_iff_not, Bool.not_eq_true', Bool.not_eq_false', Int.not_lt, Int.not_le, ne_eq, Decidable.not_not, beq_iff_eq, List.cons.injEq, and_true] at hc); (first | (exfalso; omega) | exact absurd True.intro hc | conv => whnf))) | ((with_reducible refine And.intro True.intro ?_); conv => whnf) | ((with_reducible refine CallX.all (f := 85) ?_); refine CallW.inline Try.func85 rfl rfl (Nat.le_of_ble_eq_true rfl) (WpR.of_vc ?_); conv => whnf) | ((with_reducible refine CallX.all ?_); refine CallW.of_ok (kH1 _) ?_; conv => whnf) | ((with_reducible refine CallX.all ?_); refine CallW.of_ok (kH2 _) ?_; conv => whnf) | (refine AppX.gr (n := 1) (L := gR eI q) (len := q.length) rfl rfl (gI_len q) (gI_one q) Nat.zero_lt_one (by omega) ?_; conv => whnf) | ((with_reducible refine And.intro ?hh ?_); (case hh => exact condA); conv => whnf) | fail))
          exact ⟨(j + 1, (j : Int) :: q), [(4, 6)], by dsimp only; omega, ⟨by dsimp only; omega, e.symm⟩, Back.auto⟩
        | false =>
          rw [hp, hp', Bool.false_or, if_neg (by decide)] at e
          have kH2 := fun h' => (hp' ▸ kH' h' j)
          (conv => whnf); (repeat' (first | ((with_reducible refine ifb_mk (fun hc => ?_) (fun hc => ?_)) <;> ((try simp only [decide_eq_true_eq, decide_eq_false_iff_not, Bool.not_eq_true', Bool.not_eq_false', Int.not_lt, Int.not_le, ne_eq, Decidable.not_not, beq_iff_eq, List.cons.injEq, and_true] at hc); (first | (exfalso; omega) | exact absurd True.intro hc | conv => whnf))) | ((with_reducible refine And.intro True.intro ?_); conv => whnf) | ((with_reducible refine CallX.all (f := 85) ?_); refine CallW.inline Try.func85 rfl rfl (Nat.le_of_ble_eq_true rfl) (WpR.of_vc ?_); conv => whnf) | ((with_reducible refine CallX.all ?_); refine CallW.of_ok (kH1 _) ?_; conv => whnf) | ((with_reducible refine CallX.all ?_); refine CallW.of_ok (kH2 _) ?_; conv => whnf) | ((with_reducible refine And.intro ?hh ?_); (case hh => exact condA); conv => whnf) | fail))
          exact ⟨(j + 1, q), [], by dsimp only; omega, ⟨by dsimp only; omega, e.symm⟩, Back.auto⟩
    · have ej : j = T.length := by omega
      rw [ej] at g2
      have el : l = q := by rw [hl, g2]
      subst el
      cases l with
      | nil =>
        (conv => whnf); (repeat' (first | ((with_reducible refine ifb_mk (fun hc => ?_) (fun hc => ?_)) <;> ((try simp only [decide_eq_true_eq, decide_eq_false_iff_not, Bool.not_eq_true', Bool.not_eq_false', Int.not_lt, Int.not_le, ne_eq, Decidable.not_not, beq_iff_eq, List.cons.injEq, and_true] at hc); (first | (exfalso; omega) | exact absurd True.intro hc | conv => whnf))) | ((with_reducible refine And.intro True.intro ?_); conv => whnf) | ((with_reducible refine And.intro ?hh ?_); (case hh => exact condA); conv => whnf) | fail))
        exact ⟨[3], rfl, rfl, rfl, ⟨⟨_, rfl, rfl, hfin _⟩, hMapB _ _, rfl, trivial⟩, trivs⟩
      | cons x l =>
        (conv => whnf); (repeat' (first | ((with_reducible refine ifb_mk (fun hc => ?_) (fun hc => ?_)) <;> ((try simp only [decide_eq_true_eq, decide_eq_false_iff_not, Bool.not_eq_true', Bool.not_eq_false', Int.not_lt, Int.not_le, ne_eq, Decidable.not_not, beq_iff_eq, List.cons.injEq, and_true] at hc); (first | (exfalso; omega) | exact absurd True.intro hc | conv => whnf))) | ((with_reducible refine And.intro True.intro ?_); conv => whnf) | ((with_reducible refine And.intro ?hh ?_); (case hh => exact condA); conv => whnf) | fail))
        exact ⟨[4, 3], rfl, rfl, rfl, ⟨⟨_, rfl, rfl, SubQ.ofL rfl (gI_bare (x :: l)) (.inr rfl)⟩, ltB_ofLb (gI_bare (x :: l)), rfl, ⟨_, rfl, rfl, hfin _⟩, hMapB _ _, rfl, trivial⟩, trivs⟩
end Go.Proofs.Q

namespace Go.Proofs.Q
open Go.As
set_option maxRecDepth 20000
set_option linter.unusedVariables false
set_option linter.unusedSimpArgs false

theorem merged_ok (h : H) (T : List UInt8) (n : Nat) (s : Nat → Int) (k : Nat) (A : Nat → List UInt8) (x1 x2 : Bool) (n' : Nat) (s' : Nat → Int) (B : Nat → List UInt8) (y1 y2 : Bool) (h1 : ckM T.length n s k A = 0) (h2 : ckM T.length n' s' k B = 0) :
    CallOk Try.prog 61 [pageV n s k A x1 x2 T, pageV n' s' k B y1 y2 T] h (marksV (mgS T n s n' s').length (iOf (mgS T n s n' s')) k (pkB A B) false true) h := by
  have hc := merged_new h T n s k A x1 x2 n' s' B y1 y2 h1 h2 _ rfl
  refine CallOk.freeze hc (FzL.agg (.cons (grFz (i := 0) eI_len eI_bare (fun b hb => ?_) (iG_of _)) (.cons (arrFz (gg := none) (fun _ => rfl) ?_ (fun j _ => rfl)) .nil))) (fun b hb => ?_)
  · rw [List.getElem?_append_left ((List.getElem?_eq_some_iff.1 hb).1)]; exact hb
  · rw [List.getElem?_append_right (Nat.le_refl _), Nat.sub_self]; rfl
  · rcases List.mem_append.1 hb with hb | hb
    · exact gNew_wr b hb
    · rw [List.mem_singleton.1 hb]; rfl
def zeroM : V := marksV 0 (fun _ => 0) 0 (fun _ => []) false false
theorem zero_freeze {f : FuncId} {args : List V} {h : H} {e : Int} (hc : CallOk Try.prog f args h (.tup [.agg [.nils, .nils], .int .i64 e]) h) : CallOk Try.prog f args h (.tup [zeroM, .int .i64 e]) h :=
  CallOk.freeze (news := []) hc (FzL.tup (.cons (FzL.agg (.cons .nil (.cons .nil .nil))) (.cons (.same rfl) .nil))) (fun b hb => by cases hb)

section
variable (h : H) (T : List UInt8) (n : Nat) (s : Nat → Int) (k : Nat) (A : Nat → List UInt8) (x1 x2 : Bool) (n' : Nat) (s' : Nat → Int) (k' : Nat) (B : Nat → List UInt8) (y1 y2 : Bool)

theorem merge_none (h1 : ckM T.length n s k A = 0) (h2 : ckM T.length n' s' k' B = 0) (hcl : ∀ j, j < k → clP A B j = false) :
    CallOk Try.prog 27 [tx T, marksV n s k A x1 x2, marksV n' s' k' B y1 y2] h (.tup [marksV (mgS T n s n' s').length (iOf (mgS T n s n' s')) k (pkB A B) false true, .int .i64 0]) h := by
  obtain ⟨a1, a2, a3, a4⟩ := ckM_n h1
  obtain ⟨b1, b2, b3, b4⟩ := ckM_n h2
  have ek : k' = k := by omega
  subst ek
  have hn := st_le a4
  have hn' := st_le b4
  have k1 := fun h' => pagesFor_ok h' T n s k' A x1 x2 n' s' k' B y1 y2 (by omega) (by omega) h1 h2
  have k2 := fun h' => clash_none h' n s k' A x1 x2 T n' s' B y1 y2 T (by omega) hcl
  have k3 := fun h' => merged_ok h' T n s k' A x1 x2 n' s' B y1 y2 h1 h2
  generalize mgS T n s n' s' = l at *
  generalize iOf l = s2 at *
  generalize l.length = n2 at *
  generalize pkB A B = C at *
  clear h1 h2 hcl a3 a4 b3 b4
  refine CallOk.run0 Try.func27 rfl rfl rfl rfl rfl (WpR.of_vc ?_)
  (conv => whnf); (repeat' (first | ((with_reducible refine ifb_mk (fun hc => ?_) (fun hc => ?_)) <;> ((try simp only [decide_eq_true_eq, decide_eq_false_iff_not, Bool.not_eq_true', Bool.not_eq_false', Int.not_lt, Int.not_le, ne_eq, Decidable.not_not, beq_iff_eq, List.cons.injEq, and_true] at hc); (first | (exfalso; omega) | exact absurd True.intro hc | conv => whnf))) | ((with_reducible refine And.intro True.intro ?_); conv => whnf) | ((with_reducible refine CallX.all ?_); refine CallW.of_ok (k1 _) ?_; conv => whnf) | ((with_reducible refine CallX.all ?_); refine CallW.of_ok (k2 _) ?_; conv => whnf) | ((with_reducible refine CallX.all ?_); refine CallW.of_ok (k3 _) ?_; conv => whnf) | ((with_reducible refine And.intro ?hh ?_); (case hh => exact condA); conv => whnf) | fail))
  (refine ⟨[], ?_, rfl, rfl, trivial, trivs⟩; simp only [renV, renL]; (first | done | rfl | (simp; done) | (simp; omega) | grind))
theorem merge_clash (h1 : ckM T.length n s k A = 0) (h2 : ckM T.length n' s' k' B = 0) (p : Nat) (hp : p < k) (g1 : clP A B p = true) (g2 : ∀ j, j < p → clP A B j = false) :
    CallOk Try.prog 27 [tx T, marksV n s k A x1 x2, marksV n' s' k' B y1 y2] h (.tup [.agg [.nils, .nils], .int .i64 21]) h := by
  obtain ⟨a1, a2, a3, a4⟩ := ckM_n h1
  obtain ⟨b1, b2, b3, b4⟩ := ckM_n h2
  have ek : k' = k := by omega
  subst ek
  have hn := st_le a4
  have hn' := st_le b4
  have k1 := fun h' => pagesFor_ok h' T n s k' A x1 x2 n' s' k' B y1 y2 (by omega) (by omega) h1 h2
  have k2 := fun h' => clash_some h' n s k' A x1 x2 T n' s' B y1 y2 T (by omega) p hp g1 g2
  clear h1 h2 g1 g2 a3 a4 b3 b4
  refine CallOk.run0 Try.func27 rfl rfl rfl rfl rfl (WpR.of_vc ?_)
  (conv => whnf); (repeat' (first | ((with_reducible refine ifb_mk (fun hc => ?_) (fun hc => ?_)) <;> ((try simp only [decide_eq_true_eq, decide_eq_false_iff_not, Bool.not_eq_true', Bool.not_eq_false', Int.not_lt, Int.not_le, ne_eq, Decidable.not_not, beq_iff_eq, List.cons.injEq, and_true] at hc); (first | (exfalso; omega) | exact absurd True.intro hc | conv => whnf))) | ((with_reducible refine And.intro True.intro ?_); conv => whnf) | ((with_reducible refine CallX.all ?_); refine CallW.of_ok (k1 _) ?_; conv => whnf) | ((with_reducible refine CallX.all ?_); refine CallW.of_ok (k2 _) ?_; conv => whnf) | ((with_reducible refine And.intro ?hh ?_); (case hh => exact condA); conv => whnf) | fail))
  (refine ⟨[], ?_, rfl, rfl, trivial, trivs⟩; simp only [renV, renL]; (first | done | rfl | (simp; done) | (simp; omega) | grind))
theorem merge_err (hT : T.length ≤ 9223372036854775806)
    (hn : n ≤ 9223372036854775807) (hk : k ≤ 9223372036854775807) (hn' : n' ≤ 9223372036854775807) (hk' : k' ≤ 9223372036854775807) (e : Int) (he : (if ckM T.length n s k A = 0 then ckM T.length n' s' k' B else ckM T.length n s k A) = e) (h0 : e ≠ 0) :
    CallOk Try.prog 27 [tx T, marksV n s k A x1 x2, marksV n' s' k' B y1 y2] h (.tup [.agg [.nils, .nils], .int .i64 e]) h := by
  have k1 := fun h' => pagesFor_err h' T n s k A x1 x2 n' s' k' B y1 y2 hT hn hk hn' hk' e he h0
  clear he
  refine CallOk.run0 Try.func27 rfl rfl rfl rfl rfl (WpR.of_vc ?_)
  (conv => whnf); (repeat' (first | ((with_reducible refine ifb_mk (fun hc => ?_) (fun hc => ?_)) <;> ((try simp only [decide_eq_true_eq, decide_eq_false_iff_not, Bool.not_eq_true', Bool.not_eq_false', Int.not_lt, Int.not_le, ne_eq, Decidable.not_not, beq_iff_eq, List.cons.injEq, and_true] at hc); (first | (exfalso; omega) | exact absurd True.intro hc | conv => whnf))) | ((with_reducible refine And.intro True.intro ?_); conv => whnf) | ((with_reducible refine CallX.all ?_); refine CallW.of_ok (k1 _) ?_; conv => whnf) | ((with_reducible refine And.intro ?hh ?_); (case hh => exact condA); conv => whnf) | fail))
  all_goals first | exact absurd hc h0 | (refine ⟨[], ?_, rfl, rfl, trivial, trivs⟩; simp only [renV, renL]; (first | done | rfl | (simp; done) | (simp; omega) | grind))
theorem clashP_none (h1 : ckM T.length n s k A = 0) (h2 : ckM T.length n' s' k' B = 0) (hcl : ∀ j, j < k → clP A B j = false) :
    CallOk Try.prog 29 [tx T, marksV n s k A x1 x2, marksV n' s' k' B y1 y2] h (.tup [.int .i64 0, .int .i64 5]) h := by
  obtain ⟨a1, a2, a3, a4⟩ := ckM_n h1
  obtain ⟨b1, b2, b3, b4⟩ := ckM_n h2
  have ek : k' = k := by omega
  subst ek
  have hn := st_le a4
  have hn' := st_le b4
  have k1 := fun h' => pagesFor_ok h' T n s k' A x1 x2 n' s' k' B y1 y2 (by omega) (by omega) h1 h2
  have k2 := fun h' => clash_none h' n s k' A x1 x2 T n' s' B y1 y2 T (by omega) hcl
  clear h1 h2 hcl a3 a4 b3 b4
  refine CallOk.run0 Try.func29 rfl rfl rfl rfl rfl (WpR.of_vc ?_)
  (conv => whnf); (repeat' (first | ((with_reducible refine ifb_mk (fun hc => ?_) (fun hc => ?_)) <;> ((try simp only [decide_eq_true_eq, decide_eq_false_iff_not, Bool.not_eq_true', Bool.not_eq_false', Int.not_lt, Int.not_le, ne_eq, Decidable.not_not, beq_iff_eq, List.cons.injEq, and_true] at hc); (first | (exfalso; omega) | exact absurd True.intro hc | conv => whnf))) | ((with_reducible refine And.intro True.intro ?_); conv => whnf) | ((with_reducible refine CallX.all ?_); refine CallW.of_ok (k1 _) ?_; conv => whnf) | ((with_reducible refine CallX.all ?_); refine CallW.of_ok (k2 _) ?_; conv => whnf) | ((with_reducible refine And.intro ?hh ?_); (case hh => exact condA); conv => whnf) | fail))
  (refine ⟨[], ?_, rfl, rfl, trivial, trivs⟩; simp only [renV, renL]; (first | done | rfl | (simp; done) | (simp; omega) | grind))
theorem clashP_some (h1 : ckM T.length n s k A = 0) (h2 : ckM T.length n' s' k' B = 0) (p : Nat) (hp : p < k) (g1 : clP A B p = true) (g2 : ∀ j, j < p → clP A B j = false) :
    CallOk Try.prog 29 [tx T, marksV n s k A x1 x2, marksV n' s' k' B y1 y2] h (.tup [.int .i64 p, .int .i64 0]) h := by
  obtain ⟨a1, a2, a3, a4⟩ := ckM_n h1
  obtain ⟨b1, b2, b3, b4⟩ := ckM_n h2
  have ek : k' = k := by omega
  subst ek
  have hn := st_le a4
  have hn' := st_le b4
  have k1 := fun h' => pagesFor_ok h' T n s k' A x1 x2 n' s' k' B y1 y2 (by omega) (by omega) h1 h2
  have k2 := fun h' => clash_some h' n s k' A x1 x2 T n' s' B y1 y2 T (by omega) p hp g1 g2
  clear h1 h2 g1 g2 a3 a4 b3 b4
  refine CallOk.run0 Try.func29 rfl rfl rfl rfl rfl (WpR.of_vc ?_)
  (conv => whnf); (repeat' (first | ((with_reducible refine ifb_mk (fun hc => ?_) (fun hc => ?_)) <;> ((try simp only [decide_eq_true_eq, decide_eq_false_iff_not, Bool.not_eq_true', Bool.not_eq_false', Int.not_lt, Int.not_le, ne_eq, Decidable.not_not, beq_iff_eq, List.cons.injEq, and_true] at hc); (first | (exfalso; omega) | exact absurd True.intro hc | conv => whnf))) | ((with_reducible refine And.intro True.intro ?_); conv => whnf) | ((with_reducible refine CallX.all ?_); refine CallW.of_ok (k1 _) ?_; conv => whnf) | ((with_reducible refine CallX.all ?_); refine CallW.of_ok (k2 _) ?_; conv => whnf) | ((with_reducible refine And.intro ?hh ?_); (case hh => exact condA); conv => whnf) | fail))
  (refine ⟨[], ?_, rfl, rfl, trivial, trivs⟩; simp only [renV, renL]; (first | done | rfl | (simp; done) | (simp; omega) | grind))
theorem clashP_err (hT : T.length ≤ 9223372036854775806)
    (hn : n ≤ 9223372036854775807) (hk : k ≤ 9223372036854775807) (hn' : n' ≤ 9223372036854775807) (hk' : k' ≤ 9223372036854775807) (e : Int) (he : (if ckM T.length n s k A = 0 then ckM T.length n' s' k' B else ckM T.length n s k A) = e) (h0 : e ≠ 0) :
    CallOk Try.prog 29 [tx T, marksV n s k A x1 x2, marksV n' s' k' B y1 y2] h (.tup [.int .i64 0, .int .i64 e]) h := by
  have k1 := fun h' => pagesFor_err h' T n s k A x1 x2 n' s' k' B y1 y2 hT hn hk hn' hk' e he h0
  clear he
  refine CallOk.run0 Try.func29 rfl rfl rfl rfl rfl (WpR.of_vc ?_)
  (conv => whnf); (repeat' (first | ((with_reducible refine ifb_mk (fun hc => ?_) (fun hc => ?_)) <;> ((try simp only [decide_eq_true_eq, decide_eq_false_iff_not, Bool.not_eq_true', Bool.not_eq_false', Int.not_lt, Int.not_le, ne_eq, Decidable.not_not, beq_iff_eq, List.cons.injEq, and_true] at hc); (first | (exfalso; omega) | exact absurd True.intro hc | conv => whnf))) | ((with_reducible refine And.intro True.intro ?_); conv => whnf) | ((with_reducible refine CallX.all ?_); refine CallW.of_ok (k1 _) ?_; conv => whnf) | ((with_reducible refine And.intro ?hh ?_); (case hh => exact condA); conv => whnf) | fail))
  all_goals first | exact absurd hc h0 | (refine ⟨[], ?_, rfl, rfl, trivial, trivs⟩; simp only [renV, renL]; (first | done | rfl | (simp; done) | (simp; omega) | grind))
theorem clashR_none (h1 : ckM T.length n s k A = 0) (h2 : ckM T.length n' s' k' B = 0) (hcl : ∀ j, j < k → clP A B j = false) :
    CallOk Try.prog 30 [tx T, marksV n s k A x1 x2, marksV n' s' k' B y1 y2] h (.tup [.int .i64 0, .int .i64 5]) h := by
  obtain ⟨a1, a2, a3, a4⟩ := ckM_n h1
  obtain ⟨b1, b2, b3, b4⟩ := ckM_n h2
  have hn := st_le a4
  have hn' := st_le b4
  have k1 := fun h' => bothR_ok h' T n s k A x1 x2 n' s' k' B y1 y2 (by omega) (by omega) (by omega) (by omega) (by omega)
  rw [h1, h2, if_pos rfl] at k1
  have ek : k' = k := by omega
  subst ek
  have k2 := fun h' => clashOf_none h' n s k' A x1 x2 n' s' B y1 y2 (by omega) hcl
  clear h1 h2 hcl a3 a4 b3 b4
  refine CallOk.run0 Try.func30 rfl rfl rfl rfl rfl (WpR.of_vc ?_)
  (conv => whnf); (repeat' (first | ((with_reducible refine ifb_mk (fun hc => ?_) (fun hc => ?_)) <;> ((try simp only [decide_eq_true_eq, decide_eq_false_iff_not, Bool.not_eq_true', Bool.not_eq_false', Int.not_lt, Int.not_le, ne_eq, Decidable.not_not, beq_iff_eq, List.cons.injEq, and_true] at hc); (first | (exfalso; omega) | exact absurd True.intro hc | conv => whnf))) | ((with_reducible refine And.intro True.intro ?_); conv => whnf) | ((with_reducible refine CallX.all ?_); refine CallW.of_ok (k1 _) ?_; conv => whnf) | ((with_reducible refine CallX.all ?_); refine CallW.of_ok (k2 _) ?_; conv => whnf) | ((with_reducible refine And.intro ?hh ?_); (case hh => exact condA); conv => whnf) | fail))
  (refine ⟨[], ?_, rfl, rfl, trivial, trivs⟩; simp only [renV, renL]; (first | done | rfl | (simp; done) | (simp; omega) | grind))
theorem clashR_some (h1 : ckM T.length n s k A = 0) (h2 : ckM T.length n' s' k' B = 0) (p : Nat) (hp : p < k) (g1 : clP A B p = true) (g2 : ∀ j, j < p → clP A B j = false) :
    CallOk Try.prog 30 [tx T, marksV n s k A x1 x2, marksV n' s' k' B y1 y2] h (.tup [.int .i64 p, .int .i64 0]) h := by
  obtain ⟨a1, a2, a3, a4⟩ := ckM_n h1
  obtain ⟨b1, b2, b3, b4⟩ := ckM_n h2
  have hn := st_le a4
  have hn' := st_le b4
  have k1 := fun h' => bothR_ok h' T n s k A x1 x2 n' s' k' B y1 y2 (by omega) (by omega) (by omega) (by omega) (by omega)
  rw [h1, h2, if_pos rfl] at k1
  have ek : k' = k := by omega
  subst ek
  have k2 := fun h' => clashOf_some h' n s k' A x1 x2 n' s' B y1 y2 (by omega) p hp g1 g2
  clear h1 h2 g1 g2 a3 a4 b3 b4
  refine CallOk.run0 Try.func30 rfl rfl rfl rfl rfl (WpR.of_vc ?_)
  (conv => whnf); (repeat' (first | ((with_reducible refine ifb_mk (fun hc => ?_) (fun hc => ?_)) <;> ((try simp only [decide_eq_true_eq, decide_eq_false_iff_not, Bool.not_eq_true', Bool.not_eq_false', Int.not_lt, Int.not_le, ne_eq, Decidable.not_not, beq_iff_eq, List.cons.injEq, and_true] at hc); (first | (exfalso; omega) | exact absurd True.intro hc | conv => whnf))) | ((with_reducible refine And.intro True.intro ?_); conv => whnf) | ((with_reducible refine CallX.all ?_); refine CallW.of_ok (k1 _) ?_; conv => whnf) | ((with_reducible refine CallX.all ?_); refine CallW.of_ok (k2 _) ?_; conv => whnf) | ((with_reducible refine And.intro ?hh ?_); (case hh => exact condA); conv => whnf) | fail))
  all_goals first | (exfalso; omega) | (refine ⟨[], ?_, rfl, rfl, trivial, trivs⟩; simp only [renV, renL]; (first | done | rfl | (simp; done) | (simp; omega) | grind))
theorem clashR_err (hT : T.length ≤ 9223372036854775806)
    (hn : n ≤ 9223372036854775807) (hk : k ≤ 9223372036854775807) (hn' : n' ≤ 9223372036854775807) (hk' : k' ≤ 9223372036854775807) (e : Int) (he : (if ckM T.length n s k A = 0 then ckM T.length n' s' k' B else ckM T.length n s k A) = e) (h0 : e ≠ 0) :
    CallOk Try.prog 30 [tx T, marksV n s k A x1 x2, marksV n' s' k' B y1 y2] h (.tup [.int .i64 0, .int .i64 e]) h := by
  have k1 := fun h' => bothR_ok h' T n s k A x1 x2 n' s' k' B y1 y2 hT hn hk hn' hk'
  rw [he] at k1
  clear he
  refine CallOk.run0 Try.func30 rfl rfl rfl rfl rfl (WpR.of_vc ?_)
  (conv => whnf); (repeat' (first | ((with_reducible refine ifb_mk (fun hc => ?_) (fun hc => ?_)) <;> ((try simp only [decide_eq_true_eq, decide_eq_false_iff_not, Bool.not_eq_true', Bool.not_eq_false', Int.not_lt, Int.not_le, ne_eq, Decidable.not_not, beq_iff_eq, List.cons.injEq, and_true] at hc); (first | (exfalso; omega) | exact absurd True.intro hc | conv => whnf))) | ((with_reducible refine And.intro True.intro ?_); conv => whnf) | ((with_reducible refine CallX.all ?_); refine CallW.of_ok (k1 _) ?_; conv => whnf) | ((with_reducible refine And.intro ?hh ?_); (case hh => exact condA); conv => whnf) | fail))
  all_goals first | exact absurd hc h0 | (refine ⟨[], ?_, rfl, rfl, trivial, trivs⟩; simp only [renV, renL]; (first | done | rfl | (simp; done) | (simp; omega) | grind))
end

/-! What is too great for a statement -/

theorem long_ok (h : H) (T : List UInt8) : CallOk Try.prog 17 [tx T] h (.bool (decide ((20 : Int) < T.length))) h := by
  refine CallOk.run0 Try.func17 rfl rfl rfl rfl rfl (WpR.of_vc ?_)
  (conv => whnf); (repeat' (first | ((with_reducible refine ifb_mk (fun hc => ?_) (fun hc => ?_)) <;> ((try simp only [decide_eq_true_eq, decide_eq_false_iff_not, Bool.not_eq_true', Bool.not_eq_false', Int.not_lt, Int.not_le, ne_eq, Decidable.not_not, beq_iff_eq, List.cons.injEq, and_true] at hc); (first | (exfalso; omega) | exact absurd True.intro hc | conv => whnf))) | ((with_reducible refine And.intro True.intro ?_); conv => whnf) | ((with_reducible refine And.intro ?hh ?_); (case hh => exact condA); conv => whnf) | fail))
  (refine ⟨[], ?_, rfl, rfl, trivial, trivs⟩; simp only [renV, renL]; (first | done | rfl | (simp; done) | (simp; omega) | grind))
def grtB (n k : Nat) (A : Nat → List UInt8) : Bool := decide (25 < n ∨ 25 < k) || !(allF k fun i => decide ((A i).length ≤ 20))
set_option maxHeartbeats 1000000 in
theorem great_ok (h : H) (n : Nat) (s : Nat → Int) (k : Nat) (A : Nat → List UInt8) (x1 x2 : Bool) (hk : k ≤ 9223372036854775807) : CallOk Try.prog 18 [marksV n s k A x1 x2] h (.bool (grtB n k A)) h := by
  have k1 := fun h' i => long_ok h' (A i)
  unfold grtB
  by_cases h0 : 25 < n ∨ 25 < k
  · rw [decide_eq_true h0, Bool.true_or]
    refine CallOk.run0 Try.func18 rfl rfl rfl rfl rfl (WpR.of_vc ?_)
    (conv => whnf); (repeat' (first | ((with_reducible refine ifb_mk (fun hc => ?_) (fun hc => ?_)) <;> ((try simp only [decide_eq_true_eq, decide_eq_false_iff_not, Bool.not_eq_true', Bool.not_eq_false', Int.not_lt, Int.not_le, ne_eq, Decidable.not_not, beq_iff_eq, List.cons.injEq, and_true] at hc); (first | (exfalso; omega) | exact absurd True.intro hc | conv => whnf))) | ((with_reducible refine And.intro True.intro ?_); conv => whnf) | ((with_reducible refine And.intro ?hh ?_); (case hh => exact condA); conv => whnf) | fail))
    all_goals first | (exfalso; omega) | (refine ⟨[], ?_, rfl, rfl, trivial, trivs⟩; simp only [renV, renL]; (first | done | rfl | (simp; done) | (simp; omega) | grind))
  · rw [decide_eq_false h0, Bool.false_or]
    refine CallOk.run0 Try.func18 rfl rfl rfl rfl rfl (WpR.of_vc ?_)
    (conv => whnf); (repeat' (first | ((with_reducible refine ifb_mk (fun hc => ?_) (fun hc => ?_)) <;> ((try simp only [decide_eq_true_eq, decide_eq_false_iff_not, Bool.not_eq_true', Bool.not_eq_false', Int.not_lt, Int.not_le, ne_eq, Decidable.not_not, beq_iff_eq, List.cons.injEq, and_true] at hc); (first | (exfalso; omega) | exact absurd True.intro hc | conv => whnf))) | ((with_reducible refine And.intro True.intro ?_); conv => whnf) | ((with_reducible refine And.intro ?hh ?_); (case hh => exact condA); conv => whnf) | fail))
    all_goals first | (exfalso; omega) | skip
    refine WpR.loopA (ι := Nat) [] [1] [] [] 1 (fun i => [(3, .int .i64 i)]) (fun _ => []) (fun i => k - i) (fun i => i ≤ k ∧ ∀ j, j < i → decide ((A j).length ≤ 20) = true) ?_ (0) (⟨Nat.zero_le _, fun j hj => by omega⟩) [] Back.auto
    rintro i ⟨j1, j2⟩
    refine WpR.of_vc ?_
    by_cases hi : i < k
    · by_cases ha : (A i).length ≤ 20
      · have k2 := fun h' => k1 h' i
        rw [decide_eq_false (show ¬ (20 : Int) < (A i).length by omega)] at k2
        (conv => whnf); (repeat' (first | ((with_reducible refine ifb_mk (fun hc => ?_) (fun hc => ?_)) <;> ((try simp only [decide_eq_true_eq, decide_eq_false_iff_not, Bool.not_eq_true', Bool.not_eq_false', Int.not_lt, Int.not_le, ne_eq, Decidable.not_not, beq_iff_eq, List.cons.injEq, and_true] at hc); (first | (exfalso; omega) | exact absurd True.intro hc | conv => whnf))) | ((with_reducible refine And.intro True.intro ?_); conv => whnf) | ((with_reducible refine grd_and ?_); refine And.intro (hi) ?_; conv => whnf) | ((with_reducible refine CallX.all ?_); refine CallW.of_ok (k2 _) ?_; conv => whnf) | ((with_reducible refine And.intro ?hh ?_); (case hh => exact condA); conv => whnf) | fail))
        exact ⟨i + 1, [], by omega, ⟨by omega, below_succ j2 (decide_eq_true ha)⟩, Back.auto⟩
      · have k2 := fun h' => k1 h' i
        rw [decide_eq_true (show (20 : Int) < (A i).length by omega)] at k2
        rw [allF_f (p := fun i => decide ((A i).length ≤ 20)) hi (decide_eq_false ha)]
        (conv => whnf); (repeat' (first | ((with_reducible refine ifb_mk (fun hc => ?_) (fun hc => ?_)) <;> ((try simp only [decide_eq_true_eq, decide_eq_false_iff_not, Bool.not_eq_true', Bool.not_eq_false', Int.not_lt, Int.not_le, ne_eq, Decidable.not_not, beq_iff_eq, List.cons.injEq, and_true] at hc); (first | (exfalso; omega) | exact absurd True.intro hc | conv => whnf))) | ((with_reducible refine And.intro True.intro ?_); conv => whnf) | ((with_reducible refine grd_and ?_); refine And.intro (hi) ?_; conv => whnf) | ((with_reducible refine CallX.all ?_); refine CallW.of_ok (k2 _) ?_; conv => whnf) | ((with_reducible refine And.intro ?hh ?_); (case hh => exact condA); conv => whnf) | fail))
        (refine ⟨[], ?_, rfl, rfl, trivial, trivs⟩; simp only [renV, renL]; (first | done | rfl | (simp; done) | (simp; omega) | grind))
    · rw [allF_t (p := fun i => decide ((A i).length ≤ 20)) (fun j hj => j2 j (by omega))]
      (conv => whnf); (repeat' (first | ((with_reducible refine ifb_mk (fun hc => ?_) (fun hc => ?_)) <;> ((try simp only [decide_eq_true_eq, decide_eq_false_iff_not, Bool.not_eq_true', Bool.not_eq_false', Int.not_lt, Int.not_le, ne_eq, Decidable.not_not, beq_iff_eq, List.cons.injEq, and_true] at hc); (first | (exfalso; omega) | exact absurd True.intro hc | conv => whnf))) | ((with_reducible refine And.intro True.intro ?_); conv => whnf) | ((with_reducible refine And.intro ?hh ?_); (case hh => exact condA); conv => whnf) | fail))
      (refine ⟨[], ?_, rfl, rfl, trivial, trivs⟩; simp only [renV, renL]; (first | done | rfl | (simp; done) | (simp; omega) | grind))
theorem grt_n {n k : Nat} {A : Nat → List UInt8} (h : grtB n k A = false) : n ≤ 25 ∧ k ≤ 25 ∧ ∀ i, i < k → (A i).length ≤ 20 := by
  unfold grtB at h
  rw [Bool.or_eq_false_iff] at h
  have h1 := of_decide_eq_false h.1
  have h2 : (allF k fun i => decide ((A i).length ≤ 20)) = true := by simpa using h.2
  exact ⟨by omega, by omega, fun i hi => of_decide_eq_true (allF_iff.1 h2 i hi)⟩
end Go.Proofs.Q

namespace Go.Proofs.Q
open Go.As
set_option maxRecDepth 20000
set_option linter.unusedVariables false
set_option linter.unusedSimpArgs false
theorem clP_any {A B : Nat → List UInt8} {k : Nat} : (∀ j, j < k → clP A B j = false) ∨ ∃ p, p < k ∧ clP A B p = true ∧ ∀ j, j < p → clP A B j = false := by
  induction k with
  | zero => exact .inl fun j hj => by omega
  | succ k ih =>
    rcases ih with h | ⟨p, h1, h2, h3⟩
    · cases hk : clP A B k with
      | false => exact .inl (below_f h hk)
      | true => exact .inr ⟨k, by omega, hk, h⟩
    · exact .inr ⟨p, by omega, h2, h3⟩
theorem eqF_refl (n : Nat) (s : Nat → Int) : eqF n s n s = true := by
  unfold eqF
  rw [decide_eq_true rfl, Bool.true_and]
  exact allF_t fun i _ => decide_eq_true rfl
theorem eqT_of {k : Nat} {A B : Nat → List UInt8} (h : ∀ i, i < k → A i = B i) : eqT k A k B = true := by
  unfold eqT
  rw [decide_eq_true rfl, Bool.true_and]
  exact allF_t fun i hi => decide_eq_true (h i hi)
theorem pk_eq {A B : Nat → List UInt8} {j : Nat} (h : clP A B j = false) : pkB A B j = pk A B j := by
  have h' := of_decide_eq_false h
  unfold pkB pk
  by_cases ha : A j = []
  · rw [if_pos ha]
    by_cases hb : B j = []
    · rw [if_pos hb, ha, hb]
    · rw [if_neg hb]
  · rw [if_neg ha]
    by_cases hb : B j = []
    · rw [if_pos hb]
    · rw [if_neg hb]
      by_cases he : A j = B j
      · exact he.symm
      · exact absurd ⟨ha, hb, he⟩ h'
set_option maxHeartbeats 2000000 in
/-- The end of a law on two marks: two pairs of answers that are equal. -/
theorem merges_fin (hW : ∀ h, CallOk Try.prog 19 [] h (.bool true) h) (h : H) (T : List UInt8) (e c f : Int)
    (n : Nat) (s : Nat → Int) (k : Nat) (A : Nat → List UInt8) (n' : Nat) (s' : Nat → Int) (k' : Nat) (B : Nat → List UInt8) (m1 : Nat) (t1 : Nat → Int) (l1 : Nat) (C1 : Nat → List UInt8) (z1 z2 : Bool) (m2 : Nat) (t2 : Nat → Int) (l2 : Nat) (C2 : Nat → List UInt8)
    (hL : T.length ≤ 20) (kG1 : ∀ h', CallOk Try.prog 18 [marksV n s k A false false] h' (.bool false) h') (kG2 : ∀ h', CallOk Try.prog 18 [marksV n' s' k' B false false] h' (.bool false) h')
    (k1 : ∀ h', CallOk Try.prog 27 [tx T, marksV n s k A false false, marksV n' s' k' B false false] h' (.tup [marksV m1 t1 l1 C1 z1 z2, .int .i64 e]) h')
    (k2 : ∀ h', CallOk Try.prog 28 [tx T, marksV n s k A false false, marksV n' s' k' B false false] h' (.tup [marksV m2 t2 l2 C2 false false, .int .i64 e]) h')
    (k3 : ∀ h', CallOk Try.prog 29 [tx T, marksV n s k A false false, marksV n' s' k' B false false] h' (.tup [.int .i64 c, .int .i64 f]) h')
    (k4 : ∀ h', CallOk Try.prog 30 [tx T, marksV n s k A false false, marksV n' s' k' B false false] h' (.tup [.int .i64 c, .int .i64 f]) h')
    (k5 : ∀ h', CallOk Try.prog 26 [marksV m1 t1 l1 C1 z1 z2, marksV m2 t2 l2 C2 false false] h' (.bool true) h') : CallOk Try.prog 4 [tx T, marksV n s k A false false, marksV n' s' k' B false false] h (.bool true) h := by
  have kL := fun h' => long_ok h' T
  rw [decide_eq_false (show ¬ (20 : Int) < T.length by omega)] at kL
  refine CallOk.run0 Try.func4 rfl rfl rfl rfl rfl (WpR.of_vc ?_)
  (conv => whnf); (repeat' (first | ((with_reducible refine ifb_mk (fun hc => ?_) (fun hc => ?_)) <;> ((try simp only [decide_eq_true_eq, decide_eq_false_iff_not, Bool.not_eq_true', Bool.not_eq_false', Int.not_lt, Int.not_le, ne_eq, Decidable.not_not, beq_iff_eq, List.cons.injEq, and_true] at hc); (first | (exfalso; omega) | exact absurd True.intro hc | conv => whnf))) | ((with_reducible refine And.intro True.intro ?_); conv => whnf) | ((with_reducible refine CallX.all ?_); refine CallW.of_ok (kL _) ?_; conv => whnf) | ((with_reducible refine CallX.all ?_); refine CallW.of_ok (kG1 _) ?_; conv => whnf) | ((with_reducible refine CallX.all ?_); refine CallW.of_ok (kG2 _) ?_; conv => whnf) | ((with_reducible refine CallX.all ?_); refine CallW.of_ok (k1 _) ?_; conv => whnf) | ((with_reducible refine CallX.all ?_); refine CallW.of_ok (k2 _) ?_; conv => whnf) | ((with_reducible refine CallX.all ?_); refine CallW.of_ok (k3 _) ?_; conv => whnf) | ((with_reducible refine CallX.all ?_); refine CallW.of_ok (k4 _) ?_; conv => whnf) | ((with_reducible refine CallX.all ?_); refine CallW.of_ok (k5 _) ?_; conv => whnf) | ((with_reducible refine CallX.all ?_); refine CallW.of_ok (hW _) ?_; conv => whnf) | ((with_reducible refine And.intro ?hh ?_); (case hh => exact condA); conv => whnf) | fail))
  all_goals first | (refine ⟨[], ?_, rfl, rfl, trivial, trivs⟩; simp only [renV, renL]; (first | done | rfl | (simp; done) | (simp; omega) | grind)) | (exfalso; omega)
set_option maxHeartbeats 2000000 in
theorem proofMerges_ok (hW : ∀ h, CallOk Try.prog 19 [] h (.bool true) h) (h : H) (T : List UInt8) (hT : T.length ≤ 9223372036854775807)
    (n : Nat) (s : Nat → Int) (k : Nat) (A : Nat → List UInt8) (hn : n ≤ 9223372036854775807) (hk : k ≤ 9223372036854775807)
    (n' : Nat) (s' : Nat → Int) (k' : Nat) (B : Nat → List UInt8) (hn' : n' ≤ 9223372036854775807) (hk' : k' ≤ 9223372036854775807) :
    CallOk Try.prog 4 [tx T, marksV n s k A false false, marksV n' s' k' B false false] h (.bool true) h := by
  have kL := fun h' => long_ok h' T
  have kG1 := fun h' => great_ok h' n s k A false false hk
  have kG2 := fun h' => great_ok h' n' s' k' B false false hk'
  by_cases h1 : T.length ≤ 20 ∧ grtB n k A = false ∧ grtB n' k' B = false
  · obtain ⟨hL, g1, g2⟩ := h1
    obtain ⟨p1, p2, _⟩ := grt_n g1
    obtain ⟨p3, p4, _⟩ := grt_n g2
    rw [g1] at kG1
    rw [g2] at kG2
    by_cases he : (if ckM T.length n s k A = 0 then ckM T.length n' s' k' B else ckM T.length n s k A) = 0
    · have c1 : ckM T.length n s k A = 0 := by
        by_cases hc : ckM T.length n s k A = 0
        · exact hc
        · rw [if_neg hc] at he; exact absurd he hc
      have c2 : ckM T.length n' s' k' B = 0 := by rw [if_pos c1] at he; exact he
      rcases clP_any (A := A) (B := B) (k := k) with hcl | ⟨p, hp, q1, q2⟩
      · refine merges_fin hW h T 0 0 5 n s k A n' s' k' B _ _ _ _ false true _ _ _ _ hL kG1 kG2 (fun h' => merge_none h' T n s k A _ _ n' s' k' B _ _ c1 c2 hcl) (fun h' => mergeR_ok h' T n s k A _ _ n' s' k' B _ _ c1 c2 hcl) (fun h' => clashP_none h' T n s k A _ _ n' s' k' B _ _ c1 c2 hcl) (fun h' => clashR_none h' T n s k A _ _ n' s' k' B _ _ c1 c2 hcl) (fun h' => ?_)
        have hl := selR_len (orB (stF n s) (stF n' s')) T.length
        have hl2 : (mgS T n s n' s').length ≤ T.length := hl
        have := same_ok h' (mgS T n s n' s').length (iOf (mgS T n s n' s')) k (pkB A B) false true (mgS T n s n' s').length (iOf (mgS T n s n' s')) k (pk A B) false false (by omega) hk
        rw [eqF_refl, eqT_of (fun i hi => pk_eq (hcl i hi))] at this
        exact this
      · refine merges_fin hW h T 21 p 0 n s k A n' s' k' B _ _ _ _ false false _ _ _ _ hL kG1 kG2 (fun h' => zero_freeze (merge_clash h' T n s k A _ _ n' s' k' B _ _ c1 c2 p hp q1 q2)) (fun h' => zero_freeze (mergeR_clash h' T n s k A _ _ n' s' k' B _ _ c1 c2 p hp q1 q2)) (fun h' => clashP_some h' T n s k A _ _ n' s' k' B _ _ c1 c2 p hp q1 q2) (fun h' => clashR_some h' T n s k A _ _ n' s' k' B _ _ c1 c2 p hp q1 q2) (fun h' => ?_)
        have := same_ok h' 0 (fun _ => 0) 0 (fun _ => []) false false 0 (fun _ => 0) 0 (fun _ => []) false false (by omega) (by omega)
        rw [eqF_refl, eqT_of (fun i hi => rfl)] at this
        exact this
    · refine merges_fin hW h T _ 0 _ n s k A n' s' k' B _ _ _ _ false false _ _ _ _ hL kG1 kG2 (fun h' => zero_freeze (merge_err h' T n s k A _ _ n' s' k' B _ _ (by omega) hn hk hn' hk' _ rfl he)) (fun h' => zero_freeze (mergeR_err h' T n s k A _ _ n' s' k' B _ _ (by omega) hn hk hn' hk' _ rfl he)) (fun h' => clashP_err h' T n s k A _ _ n' s' k' B _ _ (by omega) hn hk hn' hk' _ rfl he) (fun h' => clashR_err h' T n s k A _ _ n' s' k' B _ _ (by omega) hn hk hn' hk' _ rfl he) (fun h' => ?_)
      have := same_ok h' 0 (fun _ => 0) 0 (fun _ => []) false false 0 (fun _ => 0) 0 (fun _ => []) false false (by omega) (by omega)
      rw [eqF_refl, eqT_of (fun i hi => rfl)] at this
      exact this
  · have h2 : ¬ T.length ≤ 20 ∨ T.length ≤ 20 ∧ grtB n k A = true ∨ T.length ≤ 20 ∧ grtB n k A = false ∧ grtB n' k' B = true := by
      by_cases hL : T.length ≤ 20
      · cases g1 : grtB n k A with
        | true => exact .inr (.inl ⟨hL, rfl⟩)
        | false =>
          cases g2 : grtB n' k' B with
          | true => exact .inr (.inr ⟨hL, rfl, rfl⟩)
          | false => exact absurd ⟨hL, g1, g2⟩ h1
      · exact .inl hL
    clear h1
    rcases h2 with hL | ⟨hL, g1⟩ | ⟨hL, g1, g2⟩
    · rw [decide_eq_true (show (20 : Int) < T.length by omega)] at kL
      refine CallOk.run0 Try.func4 rfl rfl rfl rfl rfl (WpR.of_vc ?_)
      (conv => whnf); (repeat' (first | ((with_reducible refine ifb_mk (fun hc => ?_) (fun hc => ?_)) <;> ((try simp only [decide_eq_true_eq, decide_eq_false_iff_not, Bool.not_eq_true', Bool.not_eq_false', Int.not_lt, Int.not_le, ne_eq, Decidable.not_not, beq_iff_eq, List.cons.injEq, and_true] at hc); (first | (exfalso; omega) | exact absurd True.intro hc | conv => whnf))) | ((with_reducible refine And.intro True.intro ?_); conv => whnf) | ((with_reducible refine CallX.all ?_); refine CallW.of_ok (kL _) ?_; conv => whnf) | ((with_reducible refine CallX.all ?_); refine CallW.of_ok (hW _) ?_; conv => whnf) | ((with_reducible refine And.intro ?hh ?_); (case hh => exact condA); conv => whnf) | fail))
      (refine ⟨[], ?_, rfl, rfl, trivial, trivs⟩; simp only [renV, renL]; (first | done | rfl | (simp; done) | (simp; omega) | grind))
    · rw [decide_eq_false (show ¬ (20 : Int) < T.length by omega)] at kL
      rw [g1] at kG1
      refine CallOk.run0 Try.func4 rfl rfl rfl rfl rfl (WpR.of_vc ?_)
      (conv => whnf); (repeat' (first | ((with_reducible refine ifb_mk (fun hc => ?_) (fun hc => ?_)) <;> ((try simp only [decide_eq_true_eq, decide_eq_false_iff_not, Bool.not_eq_true', Bool.not_eq_false', Int.not_lt, Int.not_le, ne_eq, Decidable.not_not, beq_iff_eq, List.cons.injEq, and_true] at hc); (first | (exfalso; omega) | exact absurd True.intro hc | conv => whnf))) | ((with_reducible refine And.intro True.intro ?_); conv => whnf) | ((with_reducible refine CallX.all ?_); refine CallW.of_ok (kL _) ?_; conv => whnf) | ((with_reducible refine CallX.all ?_); refine CallW.of_ok (kG1 _) ?_; conv => whnf) | ((with_reducible refine CallX.all ?_); refine CallW.of_ok (hW _) ?_; conv => whnf) | ((with_reducible refine And.intro ?hh ?_); (case hh => exact condA); conv => whnf) | fail))
      (refine ⟨[], ?_, rfl, rfl, trivial, trivs⟩; simp only [renV, renL]; (first | done | rfl | (simp; done) | (simp; omega) | grind))
    · rw [decide_eq_false (show ¬ (20 : Int) < T.length by omega)] at kL
      rw [g1] at kG1
      rw [g2] at kG2
      refine CallOk.run0 Try.func4 rfl rfl rfl rfl rfl (WpR.of_vc ?_)
      (conv => whnf); (repeat' (first | ((with_reducible refine ifb_mk (fun hc => ?_) (fun hc => ?_)) <;> ((try simp only [decide_eq_true_eq, decide_eq_false_iff_not, Bool.not_eq_true', Bool.not_eq_false', Int.not_lt, Int.not_le, ne_eq, Decidable.not_not, beq_iff_eq, List.cons.injEq, and_true] at hc); (first | (exfalso; omega) | exact absurd True.intro hc | conv => whnf))) | ((with_reducible refine And.intro True.intro ?_); conv => whnf) | ((with_reducible refine CallX.all ?_); refine CallW.of_ok (kL _) ?_; conv => whnf) | ((with_reducible refine CallX.all ?_); refine CallW.of_ok (kG1 _) ?_; conv => whnf) | ((with_reducible refine CallX.all ?_); refine CallW.of_ok (kG2 _) ?_; conv => whnf) | ((with_reducible refine CallX.all ?_); refine CallW.of_ok (hW _) ?_; conv => whnf) | ((with_reducible refine And.intro ?hh ?_); (case hh => exact condA); conv => whnf) | fail))
      (refine ⟨[], ?_, rfl, rfl, trivial, trivs⟩; simp only [renV, renL]; (first | done | rfl | (simp; done) | (simp; omega) | grind))
end Go.Proofs.Q
