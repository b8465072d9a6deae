/- What the functions answer that the laws call, one after another (Un). -/
import Derived.Test.YtmfohdhnpanfeaaAs6
import Derived.Test.YtmfohdhnpanfeaaBase

set_option linter.unusedVariables false
namespace Go.Proofs.Q
open Go.As
set_option maxRecDepth 20000
set_option linter.unusedVariables false
set_option linter.unusedSimpArgs false

/-! ### Two readers -/

theorem mul_bd {x y A B : Int} (hx : 0 ≤ x ∧ x ≤ A) (hy : 0 ≤ y ∧ y ≤ B) : 0 ≤ x * y ∧ x * y ≤ A * B :=
  ⟨Int.mul_nonneg hx.1 hy.1, Int.mul_le_mul hx.2 hy.2 hy.1 (Int.le_trans hx.1 hx.2)⟩
def minI (a b : Int) : Int := match ilt b a with | true => b | false => a
theorem minI_eq (a b : Int) : minI a b = min a b := by
  unfold minI
  rw [ilt_eq]
  by_cases h : b < a
  · rw [decide_eq_true h]; show b = _; omega
  · rw [decide_eq_false h]; show a = _; omega
def unA (a b c : Int) : Prop := 0 ≤ a ∧ a ≤ 1000 ∧ 0 ≤ b ∧ b ≤ 1000 ∧ 0 ≤ c ∧ c ≤ a ∧ c ≤ b
def unB (p q : Int) : Prop := 1 ≤ q ∧ q ≤ 1000 ∧ 1 ≤ p ∧ p ≤ q
instance (a b c : Int) : Decidable (unA a b c) := by unfold unA; infer_instance
instance (p q : Int) : Decidable (unB p q) := by unfold unB; infer_instance
def unM (a b p q : Int) : Int := (min a b * q).tdiv p
/-- Unseen: the ends, the error. -/
def uns (a b c p q : Int) : Int × Int × Int := if unA a b c then (if unB p q then (if unM a b p q < a + b - c then (0, 0, 14) else (0, unM a b p q - (a + b - c), 0)) else (0, 0, 3)) else (0, 0, 2)
def unV (r : Int × Int × Int) : V := .tup [.agg [.int .i64 r.1, .int .i64 r.2.1], .int .i64 r.2.2]
theorem unM_iff {a b p q x : Int} (hA : 0 ≤ a ∧ 0 ≤ b) (hp : 1 ≤ p) (hq : 1 ≤ q) : x ≤ unM a b p q ↔ x * p ≤ a * q ∧ x * p ≤ b * q := by
  have hm : 0 ≤ min a b * q := Int.mul_nonneg (by omega) (by omega)
  unfold unM
  rw [Int.tdiv_eq_ediv_of_nonneg hm, Int.le_ediv_iff_mul_le (by omega)]
  constructor
  · intro h
    have h1 : min a b * q ≤ a * q := Int.mul_le_mul_of_nonneg_right (by omega) (by omega)
    have h2 : min a b * q ≤ b * q := Int.mul_le_mul_of_nonneg_right (by omega) (by omega)
    omega
  · rintro ⟨h1, h2⟩
    by_cases h : a ≤ b
    · rw [show min a b = a from by omega]; exact h1
    · rw [show min a b = b from by omega]; exact h2
theorem unM_b {a b p q : Int} (ha : 0 ≤ a ∧ a ≤ 1000) (hb : 0 ≤ b ∧ b ≤ 1000) (hp : 1 ≤ p) (hq : 1 ≤ q ∧ q ≤ 1000) : 0 ≤ unM a b p q ∧ unM a b p q ≤ 1000000 := by
  have hm := mul_bd (x := min a b) (y := q) (A := 1000) (B := 1000) (by omega) (by omega)
  unfold unM
  rw [Int.tdiv_eq_ediv_of_nonneg hm.1]
  exact ⟨Int.ediv_nonneg hm.1 (by omega), Int.le_trans (Int.ediv_le_self _ hm.1) (by omega)⟩
set_option maxHeartbeats 2000000 in
theorem unseen_ok (h : H) (a b c p q : Int) : CallOk Try.prog 43 [.int .i64 a, .int .i64 b, .int .i64 c, .agg [.int .i64 p, .int .i64 q]] h (unV (uns a b c p q)) h := by
  have kW1 := fun h' sv hs => within642_ok h' 0 1000 a b sv hs
  have kW2 := fun h' sv hs => within641_ok h' 0 (minI a b) c sv hs
  have kW3 := fun h' sv hs => within641_ok h' 1 1000 q sv hs
  have kW4 := fun h' sv hs => within641_ok h' 1 q p sv hs
  rw [show decide (0 ≤ c ∧ c ≤ minI a b) = decide (0 ≤ c ∧ c ≤ a ∧ c ≤ b) from by rw [minI_eq]; exact decide_eq_decide.2 (by omega)] at kW2
  unfold uns
  by_cases hA : unA a b c
  · rw [if_pos hA]
    obtain ⟨a1, a2, b1, b2, c1, c2, c3⟩ := hA
    rw [decide_eq_true (show (0 ≤ a ∧ a ≤ 1000) ∧ 0 ≤ b ∧ b ≤ 1000 from ⟨⟨a1, a2⟩, b1, b2⟩)] at kW1
    rw [decide_eq_true (show 0 ≤ c ∧ c ≤ a ∧ c ≤ b from ⟨c1, c2, c3⟩)] at kW2
    by_cases hB : unB p q
    · rw [if_pos hB]
      obtain ⟨q1, q2, p1, p2⟩ := hB
      rw [decide_eq_true (show 1 ≤ q ∧ q ≤ 1000 from ⟨q1, q2⟩)] at kW3
      rw [decide_eq_true (show 1 ≤ p ∧ p ≤ q from ⟨p1, p2⟩)] at kW4
      have hm := unM_b (a := a) (b := b) ⟨a1, a2⟩ ⟨b1, b2⟩ p1 ⟨q1, q2⟩
      have hx := mul_bd (x := min a b) (y := q) (A := 1000) (B := 1000) (by omega) (by omega)
      have e1 : minI a b * q = min a b * q := by rw [minI_eq]
      have e2 : (minI a b * q).tdiv p = unM a b p q := by rw [e1]; rfl
      have i1 : InR (minI a b * q) := by rw [e1]; unfold InR; omega
      have i2 : InR ((minI a b * q).tdiv p) := by rw [e2]; unfold InR; omega
      have i3 : InR ((minI a b * q).tdiv p - (a + b - c)) := by rw [e2]; unfold InR; omega
      generalize hM : unM a b p q = M at *
      refine CallOk.run0 Try.func43 rfl rfl rfl rfl rfl (WpR.of_vc ?_)
      (conv => whnf); (repeat' (first | ((with_reducible refine ifb_mk (fun hc => ?_) (fun hc => ?_)) <;> ((try simp only [decide_eq_true_eq, decide_eq_false_iff_not, Bool.not_eq_true', Bool.not_eq_false', Int.not_lt, Int.not_le, ne_eq, Decidable.not_not, beq_iff_eq, List.cons.injEq, and_true] at hc); (first | (exfalso; omega) | exact absurd True.intro hc | conv => whnf))) | ((with_reducible refine And.intro True.intro ?_); conv => whnf) | ((with_reducible refine CallX.all ?_); refine CallW.of_ok (kW1 _ _ (SlC.own rfl)) ?_; conv => whnf) | ((with_reducible refine CallX.all ?_); refine CallW.of_ok (kW2 _ _ (SlC.own rfl)) ?_; conv => whnf) | ((with_reducible refine CallX.all ?_); refine CallW.of_ok (kW3 _ _ (SlC.own rfl)) ?_; conv => whnf) | ((with_reducible refine CallX.all ?_); refine CallW.of_ok (kW4 _ _ (SlC.own rfl)) ?_; conv => whnf) | ((with_reducible refine grd_and ?_); refine And.intro (i1) ?_; conv => whnf) | ((with_reducible refine grd_and ?_); refine And.intro (i2) ?_; conv => whnf) | ((with_reducible refine grd_and ?_); refine And.intro (i3) ?_; conv => whnf) | ((with_reducible refine And.intro ?hh ?_); (case hh => exact condA); conv => whnf) | fail))
      · have hc' : M < a + b - c := Int.lt_of_le_of_lt (Int.le_of_eq e2.symm) hc
        rw [if_pos hc']
        (refine ⟨[], ?_, rfl, rfl, trivial, trivs⟩; simp only [renV, renL]; (first | done | rfl | (simp; done) | (simp; omega) | grind))
      · have hc' : ¬ M < a + b - c := Int.not_lt.2 (Int.le_trans hc (Int.le_of_eq e2))
        rw [if_neg hc']
        refine ⟨[], ?_, rfl, rfl, trivial, trivs⟩
        exact congrArg (fun z => V.tup [.agg [.int .i64 0, .int .i64 (z - (a + b - c))], .int .i64 0]) e2
    · rw [if_neg hB]
      have hB' : ¬ (1 ≤ q ∧ q ≤ 1000) ∨ (1 ≤ q ∧ q ≤ 1000) ∧ ¬ (1 ≤ p ∧ p ≤ q) := by
        unfold unB at hB; omega
      rcases hB' with h1 | ⟨h1, h2⟩
      · rw [decide_eq_false h1] at kW3
        refine CallOk.run0 Try.func43 rfl rfl rfl rfl rfl (WpR.of_vc ?_)
        (conv => whnf); (repeat' (first | ((with_reducible refine ifb_mk (fun hc => ?_) (fun hc => ?_)) <;> ((try simp only [decide_eq_true_eq, decide_eq_false_iff_not, Bool.not_eq_true', Bool.not_eq_false', Int.not_lt, Int.not_le, ne_eq, Decidable.not_not, beq_iff_eq, List.cons.injEq, and_true] at hc); (first | (exfalso; omega) | exact absurd True.intro hc | conv => whnf))) | ((with_reducible refine And.intro True.intro ?_); conv => whnf) | ((with_reducible refine CallX.all ?_); refine CallW.of_ok (kW1 _ _ (SlC.own rfl)) ?_; conv => whnf) | ((with_reducible refine CallX.all ?_); refine CallW.of_ok (kW2 _ _ (SlC.own rfl)) ?_; conv => whnf) | ((with_reducible refine CallX.all ?_); refine CallW.of_ok (kW3 _ _ (SlC.own rfl)) ?_; conv => whnf) | ((with_reducible refine CallX.all ?_); refine CallW.of_ok (kW4 _ _ (SlC.own rfl)) ?_; conv => whnf) | ((with_reducible refine And.intro ?hh ?_); (case hh => exact condA); conv => whnf) | fail))
        (refine ⟨[], ?_, rfl, rfl, trivial, trivs⟩; simp only [renV, renL]; (first | done | rfl | (simp; done) | (simp; omega) | grind))
      · rw [decide_eq_true h1] at kW3
        rw [decide_eq_false h2] at kW4
        refine CallOk.run0 Try.func43 rfl rfl rfl rfl rfl (WpR.of_vc ?_)
        (conv => whnf); (repeat' (first | ((with_reducible refine ifb_mk (fun hc => ?_) (fun hc => ?_)) <;> ((try simp only [decide_eq_true_eq, decide_eq_false_iff_not, Bool.not_eq_true', Bool.not_eq_false', Int.not_lt, Int.not_le, ne_eq, Decidable.not_not, beq_iff_eq, List.cons.injEq, and_true] at hc); (first | (exfalso; omega) | exact absurd True.intro hc | conv => whnf))) | ((with_reducible refine And.intro True.intro ?_); conv => whnf) | ((with_reducible refine CallX.all ?_); refine CallW.of_ok (kW1 _ _ (SlC.own rfl)) ?_; conv => whnf) | ((with_reducible refine CallX.all ?_); refine CallW.of_ok (kW2 _ _ (SlC.own rfl)) ?_; conv => whnf) | ((with_reducible refine CallX.all ?_); refine CallW.of_ok (kW3 _ _ (SlC.own rfl)) ?_; conv => whnf) | ((with_reducible refine CallX.all ?_); refine CallW.of_ok (kW4 _ _ (SlC.own rfl)) ?_; conv => whnf) | ((with_reducible refine And.intro ?hh ?_); (case hh => exact condA); conv => whnf) | fail))
        (refine ⟨[], ?_, rfl, rfl, trivial, trivs⟩; simp only [renV, renL]; (first | done | rfl | (simp; done) | (simp; omega) | grind))
  · rw [if_neg hA]
    have hA' : ¬ ((0 ≤ a ∧ a ≤ 1000) ∧ 0 ≤ b ∧ b ≤ 1000) ∨ ((0 ≤ a ∧ a ≤ 1000) ∧ 0 ≤ b ∧ b ≤ 1000) ∧ ¬ (0 ≤ c ∧ c ≤ a ∧ c ≤ b) := by
      unfold unA at hA; omega
    rcases hA' with h1 | ⟨h1, h2⟩
    · rw [decide_eq_false h1] at kW1
      refine CallOk.run0 Try.func43 rfl rfl rfl rfl rfl (WpR.of_vc ?_)
      (conv => whnf); (repeat' (first | ((with_reducible refine ifb_mk (fun hc => ?_) (fun hc => ?_)) <;> ((try simp only [decide_eq_true_eq, decide_eq_false_iff_not, Bool.not_eq_true', Bool.not_eq_false', Int.not_lt, Int.not_le, ne_eq, Decidable.not_not, beq_iff_eq, List.cons.injEq, and_true] at hc); (first | (exfalso; omega) | exact absurd True.intro hc | conv => whnf))) | ((with_reducible refine And.intro True.intro ?_); conv => whnf) | ((with_reducible refine CallX.all ?_); refine CallW.of_ok (kW1 _ _ (SlC.own rfl)) ?_; conv => whnf) | ((with_reducible refine CallX.all ?_); refine CallW.of_ok (kW2 _ _ (SlC.own rfl)) ?_; conv => whnf) | ((with_reducible refine And.intro ?hh ?_); (case hh => exact condA); conv => whnf) | fail))
      (refine ⟨[], ?_, rfl, rfl, trivial, trivs⟩; simp only [renV, renL]; (first | done | rfl | (simp; done) | (simp; omega) | grind))
    · rw [decide_eq_true h1] at kW1
      rw [decide_eq_false h2] at kW2
      refine CallOk.run0 Try.func43 rfl rfl rfl rfl rfl (WpR.of_vc ?_)
      (conv => whnf); (repeat' (first | ((with_reducible refine ifb_mk (fun hc => ?_) (fun hc => ?_)) <;> ((try simp only [decide_eq_true_eq, decide_eq_false_iff_not, Bool.not_eq_true', Bool.not_eq_false', Int.not_lt, Int.not_le, ne_eq, Decidable.not_not, beq_iff_eq, List.cons.injEq, and_true] at hc); (first | (exfalso; omega) | exact absurd True.intro hc | conv => whnf))) | ((with_reducible refine And.intro True.intro ?_); conv => whnf) | ((with_reducible refine CallX.all ?_); refine CallW.of_ok (kW1 _ _ (SlC.own rfl)) ?_; conv => whnf) | ((with_reducible refine CallX.all ?_); refine CallW.of_ok (kW2 _ _ (SlC.own rfl)) ?_; conv => whnf) | ((with_reducible refine And.intro ?hh ?_); (case hh => exact condA); conv => whnf) | fail))
      (refine ⟨[], ?_, rfl, rfl, trivial, trivs⟩; simp only [renV, renL]; (first | done | rfl | (simp; done) | (simp; omega) | grind))

set_option maxHeartbeats 4000000 in
theorem unseenR_ok (h : H) (a b c p q : Int) : CallOk Try.prog 44 [.int .i64 a, .int .i64 b, .int .i64 c, .agg [.int .i64 p, .int .i64 q]] h (unV (uns a b c p q)) h := by
  unfold uns
  by_cases hA : unA a b c
  · rw [if_pos hA]
    obtain ⟨a1, a2, b1, b2, c1, c2, c3⟩ := hA
    by_cases hB : unB p q
    · rw [if_pos hB]
      obtain ⟨q1, q2, p1, p2⟩ := hB
      have hm := unM_b (a := a) (b := b) ⟨a1, a2⟩ ⟨b1, b2⟩ p1 ⟨q1, q2⟩
      have hM := fun x => unM_iff (x := x) (a := a) (b := b) (p := p) (q := q) ⟨a1, b1⟩ p1 q1
      have hxa := mul_bd (x := a) (y := q) (A := 1000) (B := 1000) (by omega) (by omega)
      have hxb := mul_bd (x := b) (y := q) (A := 1000) (B := 1000) (by omega) (by omega)
      generalize unM a b p q = M at *
      refine CallOk.run0 Try.func44 rfl rfl rfl rfl rfl (WpR.of_vc ?_)
      (conv => whnf); (repeat' (first | ((with_reducible refine ifb_mk (fun hc => ?_) (fun hc => ?_)) <;> ((try simp only [decide_eq_true_eq, decide_eq_false_iff_not, Bool.not_eq_true', Bool.not_eq_false', Int.not_lt, Int.not_le, ne_eq, Decidable.not_not, beq_iff_eq, List.cons.injEq, and_true] at hc); (first | (exfalso; omega) | exact absurd True.intro hc | conv => whnf))) | ((with_reducible refine And.intro True.intro ?_); conv => whnf) | ((with_reducible refine And.intro ?hh ?_); (case hh => exact condA); conv => whnf) | fail))
      all_goals first | (exfalso; omega) | skip
      refine WpR.loopA (ι := Int × Bool × Int) [] [0, 1, 2, 7, 8, 10, 11] [2] [] 3 (fun r => [(13, .int .i64 r.1), (12, .bool r.2.1)]) (fun r => [(2, .cells (ofL [.int .i64 0, .int .i64 r.2.2] 0) true none)]) (fun r => (M + 1 - r.1).toNat) (fun r => a + b - c ≤ r.1 ∧ (r.1 = a + b - c ∨ r.1 ≤ M + 1) ∧ r.2.1 = decide (a + b - c < r.1) ∧ r.2.2 = (if a + b - c < r.1 then r.1 - 1 - (a + b - c) else 0)) ?_ ((a + b - c, false, 0)) (⟨Int.le_refl _, .inl rfl, (decide_eq_false (by dsimp only; omega)).symm, (if_neg (by dsimp only; omega)).symm⟩) [] Back.auto
      rintro ⟨x, f, hi⟩ ⟨j1, j2, j3, j4⟩
      dsimp only at j1 j2 j3 j4
      refine WpR.of_vc ?_
      have hx1 := mul_bd (x := x) (y := p) (A := 1000001) (B := 1000) (by omega) (by omega)
      by_cases hxM : x ≤ M
      · have hh := (hM x).1 hxM
        (conv => whnf); (repeat' (first | ((with_reducible refine ifb_mk (fun hc => ?_) (fun hc => ?_)) <;> ((try simp only [decide_eq_true_eq, decide_eq_false_iff_not, Bool.not_eq_true', Bool.not_eq_false', Int.not_lt, Int.not_le, ne_eq, Decidable.not_not, beq_iff_eq, List.cons.injEq, and_true] at hc); (first | (exfalso; omega) | exact absurd True.intro hc | conv => whnf))) | ((with_reducible refine And.intro True.intro ?_); conv => whnf) | ((with_reducible refine And.intro ?hh ?_); (case hh => exact condA); conv => whnf) | fail))
        all_goals first | (exfalso; omega) | skip
        refine ⟨(x + 1, true, x - (a + b - c)), [], by dsimp only; omega, ⟨by dsimp only; omega, .inr (by dsimp only; omega), (decide_eq_true (by dsimp only; omega)).symm, ?_⟩, Back.auto⟩
        dsimp only
        rw [if_pos (by omega)]; omega
      · have hh : ¬ (x * p ≤ a * q ∧ x * p ≤ b * q) := fun h => hxM ((hM x).2 h)
        by_cases hs : a + b - c < x
        · rw [decide_eq_true hs] at j3
          rw [if_pos hs] at j4
          subst j3
          subst j4
          rw [if_neg (by omega)]
          have e : x - 1 - (a + b - c) = M - (a + b - c) := by omega
          rw [e]
          (conv => whnf); (repeat' (first | ((with_reducible refine ifb_mk (fun hc => ?_) (fun hc => ?_)) <;> ((try simp only [decide_eq_true_eq, decide_eq_false_iff_not, Bool.not_eq_true', Bool.not_eq_false', Int.not_lt, Int.not_le, ne_eq, Decidable.not_not, beq_iff_eq, List.cons.injEq, and_true] at hc); (first | (exfalso; omega) | exact absurd True.intro hc | conv => whnf))) | ((with_reducible refine And.intro True.intro ?_); conv => whnf) | ((with_reducible refine And.intro ?hh ?_); (case hh => exact condA); conv => whnf) | fail))
          all_goals first | (refine ⟨[], ?_, rfl, rfl, trivial, trivs⟩; simp only [renV, renL]; (first | done | rfl | (simp; done) | (simp; omega) | grind)) | (exfalso; omega)
        · rw [decide_eq_false hs] at j3
          rw [if_neg hs] at j4
          subst j3
          subst j4
          rw [if_pos (by omega)]
          (conv => whnf); (repeat' (first | ((with_reducible refine ifb_mk (fun hc => ?_) (fun hc => ?_)) <;> ((try simp only [decide_eq_true_eq, decide_eq_false_iff_not, Bool.not_eq_true', Bool.not_eq_false', Int.not_lt, Int.not_le, ne_eq, Decidable.not_not, beq_iff_eq, List.cons.injEq, and_true] at hc); (first | (exfalso; omega) | exact absurd True.intro hc | conv => whnf))) | ((with_reducible refine And.intro True.intro ?_); conv => whnf) | ((with_reducible refine And.intro ?hh ?_); (case hh => exact condA); conv => whnf) | fail))
          all_goals first | (refine ⟨[], ?_, rfl, rfl, trivial, trivs⟩; simp only [renV, renL]; (first | done | rfl | (simp; done) | (simp; omega) | grind)) | (exfalso; omega)
    · rw [if_neg hB]
      unfold unB at hB
      refine CallOk.run0 Try.func44 rfl rfl rfl rfl rfl (WpR.of_vc ?_)
      (conv => whnf); (repeat' (first | ((with_reducible refine ifb_mk (fun hc => ?_) (fun hc => ?_)) <;> ((try simp only [decide_eq_true_eq, decide_eq_false_iff_not, Bool.not_eq_true', Bool.not_eq_false', Int.not_lt, Int.not_le, ne_eq, Decidable.not_not, beq_iff_eq, List.cons.injEq, and_true] at hc); (first | (exfalso; omega) | exact absurd True.intro hc | conv => whnf))) | ((with_reducible refine And.intro True.intro ?_); conv => whnf) | ((with_reducible refine And.intro ?hh ?_); (case hh => exact condA); conv => whnf) | fail))
      all_goals first | (refine ⟨[], ?_, rfl, rfl, trivial, trivs⟩; simp only [renV, renL]; (first | done | rfl | (simp; done) | (simp; omega) | grind)) | (exfalso; omega)
  · rw [if_neg hA]
    unfold unA at hA
    refine CallOk.run0 Try.func44 rfl rfl rfl rfl rfl (WpR.of_vc ?_)
    (conv => whnf); (repeat' (first | ((with_reducible refine ifb_mk (fun hc => ?_) (fun hc => ?_)) <;> ((try simp only [decide_eq_true_eq, decide_eq_false_iff_not, Bool.not_eq_true', Bool.not_eq_false', Int.not_lt, Int.not_le, ne_eq, Decidable.not_not, beq_iff_eq, List.cons.injEq, and_true] at hc); (first | (exfalso; omega) | exact absurd True.intro hc | conv => whnf))) | ((with_reducible refine And.intro True.intro ?_); conv => whnf) | ((with_reducible refine And.intro ?hh ?_); (case hh => exact condA); conv => whnf) | fail))
    all_goals first | (refine ⟨[], ?_, rfl, rfl, trivial, trivs⟩; simp only [renV, renL]; (first | done | rfl | (simp; done) | (simp; omega) | grind)) | (exfalso; omega)
end Go.Proofs.Q

namespace Go.Proofs.Q
open Go.As
set_option maxRecDepth 20000
set_option linter.unusedVariables false
set_option linter.unusedSimpArgs false
theorem proofUnseens_ok (hW : ∀ h, CallOk Try.prog 19 [] h (.bool true) h) (h : H) (a b c p q : Int) : CallOk Try.prog 7 [.int .i64 a, .int .i64 b, .int .i64 c, .agg [.int .i64 p, .int .i64 q]] h (.bool true) h := by
  have k1 := fun h' => unseen_ok h' a b c p q
  have k2 := fun h' => unseenR_ok h' a b c p q
  generalize uns a b c p q = r at *
  obtain ⟨x, y, e⟩ := r
  refine CallOk.run0 Try.func7 rfl rfl rfl rfl rfl (WpR.of_vc ?_)
  (conv => whnf); (repeat' (first | ((with_reducible refine ifb_mk (fun hc => ?_) (fun hc => ?_)) <;> ((try simp only [decide_eq_true_eq, decide_eq_false_iff_not, Bool.not_eq_true', Bool.not_eq_false', Int.not_lt, Int.not_le, ne_eq, Decidable.not_not, beq_iff_eq, List.cons.injEq, and_true] at hc); (first | (exfalso; omega) | exact absurd True.intro hc | conv => whnf))) | ((with_reducible refine And.intro True.intro ?_); conv => whnf) | ((with_reducible refine CallX.all ?_); refine CallW.of_ok (k1 _) ?_; conv => whnf) | ((with_reducible refine CallX.all ?_); refine CallW.of_ok (k2 _) ?_; conv => whnf) | ((with_reducible refine CallX.all ?_); refine CallW.of_ok (hW _) ?_; conv => whnf) | ((with_reducible refine grd_slow ?_); refine som_mk (a := ?_) ?hh ?_; (case hh => exact slow_eql (P := Try.prog) (t := 57) (k := 2) (by kernel_rfl) [x, y] [x, y]); conv => whnf) | ((with_reducible refine And.intro ?hh ?_); (case hh => exact condA); conv => whnf) | fail))
  all_goals first | (refine ⟨[], ?_, rfl, rfl, trivial, trivs⟩; simp only [renV, renL]; (first | done | rfl | (simp; done) | (simp; omega) | grind)) | (exfalso; omega)
  trace_state
end Go.Proofs.Q
