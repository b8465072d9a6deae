/- What the functions answer that the laws call, one after another (Moves). -/
import Derived.Test.YtjkgnkhbbnmgbaaAs6
import Derived.Test.YtjkgnkhbbnmgbaaMv
import Derived.Test.YtjkgnkhbbnmgbaaBase

set_option linter.unusedVariables false
namespace Go.Proofs.P
open Go.As
set_option maxRecDepth 20000
set_option linter.unusedVariables false
set_option linter.unusedSimpArgs false

theorem staysR_ok (h : H) (n : Nat) (hn : 1 ≤ n ∧ n ≤ 8) (D : List Int) (hD : D.length = n * n) (hw : wi 0 3 D = true) (b o cap : Nat) (ex : Bool) (hs : SlC h (iVs D) D.length (.sl b o D.length cap ex)) :
    CallOk Try.prog 22 [plateV n (.sl b o D.length cap ex)] h (.tup [grV h.n (stL n D 8).length, .int .i64 0]) (addBs h (growB (stL n D 8))) := by
  obtain ⟨vo, svC, hsv, hca, hvw⟩ := hs.view 0
  have hN : 1 ≤ D.length ∧ D.length ≤ 64 := by
    rw [hD]
    have h1 : 1 * 1 ≤ n * n := Nat.mul_le_mul hn.1 hn.1
    have h2 : n * n ≤ 8 * 8 := Nat.mul_le_mul hn.2 hn.2
    omega
  obtain ⟨cap', ex', rfl⟩ : ∃ cap ex, svC = .sl 0 0 D.length cap ex := by
    cases hsv with
    | nil h0 => omega
    | sl => exact ⟨_, _, rfl⟩
  have hB := @iVs_bare D
  have hck : ckP (n : Int) D = 0 := by unfold ckP; rw [if_pos (by omega), if_pos (by rw [hD]; simp), if_pos hw]
  have kC := fun h' dv hs' => checkPlateR_ok h' n D dv (by omega) hs'
  rw [hck] at kC
  refine CallOk.runN Try.func22 rfl rfl (argsC := [plateV n (.sl 0 0 D.length cap' ex')]) (fun N => .tup [grV N (stL n D 8).length, .int .i64 0]) (fun _ => growB (stL n D 8)) (Nat.le_of_ble_eq_true rfl) [vo] (.cons (CaL.agg (.cons (.bare rfl) (.cons (hca _ rfl) .nil))) .nil) (viewMc1 hB hvw)
    (ShV.tup (.cons (growSh _ _ _ _) (.cons (.bare rfl) .nil))) rfl (growBs _ _ _ _) (WpR.of_vc ?_)
  have kS := fun h' hs' => staysOf_ok h' n hn D hD 0 0 cap' ex' hs'
  generalize stL n D 8 = L at *
  cases L with
  | nil =>
    (conv => whnf); (repeat' (first | ((with_reducible refine ifb_mk (fun hc => ?_) (fun hc => ?_)) <;> ((try simp only [decide_eq_true_eq, decide_eq_false_iff_not, Bool.not_eq_true', Bool.not_eq_false', Int.not_lt, Int.not_le, ne_eq, Decidable.not_not, beq_iff_eq, List.cons.injEq, and_true] at hc); (first | (exfalso; omega) | conv => whnf))) | ((with_reducible refine And.intro True.intro ?_); conv => whnf) | ((with_reducible refine CallX.all ?_); refine CallW.of_ok (kC _ _ (SlC.own rfl)) ?_; conv => whnf) | ((with_reducible refine CallX.all ?_); refine CallW.of_ok (kS _ (SlC.own rfl)) ?_; conv => whnf) | ((with_reducible refine And.intro ?hh ?_); (case hh => (unfold InR; (try dsimp only); omega)); conv => whnf) | ((with_reducible refine And.intro ?hh ?_); (case hh => ((try dsimp only); omega)); conv => whnf) | ((with_reducible refine And.intro ?hh ?_); (case hh => ((conv => whnf); (repeat' (first | exact True.intro | rfl | refine And.intro ?_ ?_)); done)); conv => whnf) | fail))
    all_goals exact ⟨[], rfl, rfl, rfl, trivial, (by (repeat' (first | exact True.intro | rfl | refine And.intro ?_ ?_)))⟩
  | cons x t =>
    (conv => whnf); (repeat' (first | ((with_reducible refine ifb_mk (fun hc => ?_) (fun hc => ?_)) <;> ((try simp only [decide_eq_true_eq, decide_eq_false_iff_not, Bool.not_eq_true', Bool.not_eq_false', Int.not_lt, Int.not_le, ne_eq, Decidable.not_not, beq_iff_eq, List.cons.injEq, and_true] at hc); (first | (exfalso; omega) | conv => whnf))) | ((with_reducible refine And.intro True.intro ?_); conv => whnf) | ((with_reducible refine CallX.all ?_); refine CallW.of_ok (kC _ _ (SlC.own rfl)) ?_; conv => whnf) | ((with_reducible refine CallX.all ?_); refine CallW.of_new (vC := fun N => grV N (x :: t).length) (news := fun _ => growB (x :: t)) (kS _ (SlC.own rfl)) ?_; conv => whnf) | ((with_reducible refine And.intro ?hh ?_); (case hh => (unfold InR; (try dsimp only); omega)); conv => whnf) | ((with_reducible refine And.intro ?hh ?_); (case hh => ((try dsimp only); omega)); conv => whnf) | ((with_reducible refine And.intro ?hh ?_); (case hh => ((conv => whnf); (repeat' (first | exact True.intro | rfl | refine And.intro ?_ ?_)); done)); conv => whnf) | fail))
    all_goals exact ⟨[2], rfl, rfl, rfl, ⟨⟨_, rfl, rfl, SubQ.ofL rfl iVs_bare (.inr rfl)⟩, ltB_ofLb iVs_bare, rfl, trivial⟩, (by (repeat' (first | exact True.intro | rfl | refine And.intro ?_ ?_)))⟩

theorem stL_zero {n : Nat} {D : List Int} (hn : 1 ≤ n ∧ n ≤ 8) (i : Nat) : ∃ t, stL n D (i + 1) = 0 :: t := by
  have h0 : comB n n 0 D D = true := by
    unfold comB
    rw [decide_eq_true rfl, decide_eq_true rfl, Bool.true_and, Bool.true_and, List.all_eq_true]
    intro k hk
    have e : sgN n 0 k = k := by
      show (k / n) * n + k % n = k
      rw [Nat.mul_comm]; exact Nat.div_add_mod k n
    rw [e, beq_iff_eq]
  induction i with
  | zero => exact ⟨[], by unfold stL; simp [h0, List.range_succ]⟩
  | succ i ih =>
    obtain ⟨t, ht⟩ := ih
    rw [stL_succ, ht]
    cases comB n n (i + 1) D D with
    | true => exact ⟨t ++ [Int.ofNat (i + 1)], rfl⟩
    | false => exact ⟨t, rfl⟩

set_option maxHeartbeats 8000000 in
theorem plateMoves_ok (h : H) (n : Int) (D : List Int) (hl : D.length ≤ 9223372036854775807) (dv : V) (hs : SlC h (iVs D) D.length dv) (m : Int) :
    CallOk Try.prog 3 [plateV n dv, .int .i64 m] h (.bool true) h := by
  obtain ⟨vo, svC, hsv, hca, hvw⟩ := hs.view 0
  refine CallOk.run Try.func3 rfl rfl (argsC := [plateV n svC, .int .i64 m]) (Nat.le_of_ble_eq_true rfl) [vo] (.cons (CaL.agg (.cons (.bare rfl) (.cons (hca _ rfl) .nil))) (.cons (.bare rfl) .nil)) (viewMc1 iVs_bare hvw) rfl (WpR.of_vc ?_)
  have kG := fun h' dv hs => great_ok h' n D dv hs
  by_cases hg : 80 < D.length
  · rw [decide_eq_true hg] at kG
    cases hsv
    all_goals
      (conv => whnf); (repeat' (first | ((with_reducible refine ifb_mk (fun hc => ?_) (fun hc => ?_)) <;> ((try simp only [decide_eq_true_eq, decide_eq_false_iff_not, Bool.not_eq_true', Bool.not_eq_false', Int.not_lt, Int.not_le, ne_eq, Decidable.not_not, beq_iff_eq, List.cons.injEq, and_true] at hc); (first | (exfalso; omega) | conv => whnf))) | ((with_reducible refine And.intro True.intro ?_); conv => whnf) | ((with_reducible refine CallX.all ?_); refine CallW.of_ok (kG _ _ (by first | exact SlC.own rfl | exact iNil (by omega))) ?_; conv => whnf) | ((with_reducible refine CallX.all ?_); refine CallW.of_ok (works_any _) ?_; conv => whnf) | ((with_reducible refine And.intro ?hh ?_); (case hh => (unfold InR; (try dsimp only); omega)); conv => whnf) | ((with_reducible refine And.intro ?hh ?_); (case hh => ((try dsimp only); omega)); conv => whnf) | ((with_reducible refine And.intro ?hh ?_); (case hh => ((conv => whnf); (repeat' (first | exact True.intro | rfl | refine And.intro ?_ ?_)); done)); conv => whnf) | fail))
      (refine ⟨[], ?_, rfl, rfl, trivial, (by (repeat' (first | exact True.intro | rfl | refine And.intro ?_ ?_)))⟩; simp only [renV, renL]; (first | done | rfl | simp | grind))
  rw [decide_eq_false hg] at kG
  have kC := fun h' dv hs' => checkPlate_ok h' n D dv hl hs'
  have kCR := fun h' dv hs' => checkPlateR_ok h' n D dv hl hs'
  by_cases hc0 : ckP n D = 0
  · obtain ⟨k, rfl, hk, hD, hw⟩ := ck_valid hc0
    rw [hc0] at kC kCR
    cases hsv with
    | nil h0 => exfalso; rw [hD] at h0; have := Nat.mul_le_mul hk.1 hk.1; omega
    | @sl cap ex =>
      have kS := fun h' hs' => staysP_ok h' k hk D hD hw 0 0 cap ex hs'
      have kSR := fun h' hs' => staysR_ok h' k hk D hD hw 0 0 cap ex hs'
      obtain ⟨t, ht⟩ := stL_zero (D := D) hk 7
      rw [ht] at kS kSR
      have hlt := stL_len k D 8
      rw [ht, List.length_cons] at hlt
      have kI := fun h' av bv g1 g2 => ints_ok h' (0 :: t) (0 :: t) av bv (by rw [List.length_cons]; omega) g1 g2
      rw [decide_eq_true rfl] at kI
      by_cases hm : 0 ≤ m ∧ m ≤ 7
      · obtain ⟨j, rfl⟩ : ∃ j : Nat, m = j := ⟨m.toNat, by omega⟩
        have kM := fun h' hs' => moveP_ok h' k j hk (by omega) D hD hw 0 0 cap ex hs'
        have kMR := fun h' hs' => moveR_ok h' k j hk (by omega) D hD hw 0 0 cap ex hs'
        have kE := fun h' av bv g1 g2 => samePlate_ok h' k k (movL k j D) (movL k j D) av bv (by rw [movL_len]; omega) g1 g2
        rw [decide_eq_true rfl, decide_eq_true rfl, movL_len] at kE
        (conv => whnf); (repeat' (first | ((with_reducible refine ifb_mk (fun hc => ?_) (fun hc => ?_)) <;> ((try simp only [decide_eq_true_eq, decide_eq_false_iff_not, Bool.not_eq_true', Bool.not_eq_false', Int.not_lt, Int.not_le, ne_eq, Decidable.not_not, beq_iff_eq, List.cons.injEq, and_true] at hc); (first | (exfalso; omega) | conv => whnf))) | ((with_reducible refine And.intro True.intro ?_); conv => whnf) | ((with_reducible refine CallX.all ?_); refine CallW.of_ok (kG _ _ (SlC.own rfl)) ?_; conv => whnf) | ((with_reducible refine CallX.all ?_); refine CallW.of_new (vC := fun N => .tup [plateV k (.sl N 0 D.length D.length true), .int .i64 0]) (news := fun _ => [.cells (ofL (iVs (movL k j D)) 0) true none]) (kM _ (SlC.own rfl)) ?_; conv => whnf) | ((with_reducible refine CallX.all ?_); refine CallW.of_new (vC := fun N => .tup [plateV k (.sl N 0 D.length D.length true), .int .i64 0]) (news := fun _ => [.cells (ofL (iVs (movL k j D)) 0) true none]) (kMR _ (SlC.own rfl)) ?_; conv => whnf) | ((with_reducible refine CallX.all ?_); refine CallW.of_new (vC := fun N => .tup [grV N (0 :: t).length, .int .i64 0]) (news := fun _ => growB (0 :: t)) (kS _ (SlC.own rfl)) ?_; conv => whnf) | ((with_reducible refine CallX.all ?_); refine CallW.of_new (vC := fun N => .tup [grV N (0 :: t).length, .int .i64 0]) (news := fun _ => growB (0 :: t)) (kSR _ (SlC.own rfl)) ?_; conv => whnf) | ((with_reducible refine WpR.draw (id := 7) mixed [0, 2, 1, 3, 4, 5, 6, 7, 8, 9, 10, 11, 12, 13, 14, 15, 16, 17, 18, 19, 20, 21, 22, 23, 24, 25, 26, 27, 28] [0, 1, 0, 7, 15, 31, 63, 63, 255, 511, 1023, 2047, 2047, 8191, 16383, 32767, 65535, 65535, 262143, 524287, 1048575, 2097151, 2097151, 8388607, 16777215, 33554431, 67108863, 134217727, 268435455] ?hh ?_); (case hh => kernel_rfl); conv => whnf) | ((with_reducible refine grd_ex ?_); refine ex_ok (kC _ _ (SlC.own rfl)) ?_; conv => whnf) | ((with_reducible refine grd_ex ?_); refine ex_ok (kCR _ _ (SlC.own rfl)) ?_; conv => whnf) | ((with_reducible refine grd_ex ?_); refine ex_ok (kE _ _ _ (SlC.own rfl) (SlC.own rfl)) ?_; conv => whnf) | ((with_reducible refine grd_ex ?_); refine ex_ok (kI _ _ _ (SlC.own rfl) (SlC.own rfl)) ?_; conv => whnf) | ((with_reducible refine grd_ex ?_); refine ex_ok (works_any _) ?_; conv => whnf) | ((with_reducible refine And.intro ?hh ?_); (case hh => (unfold InR; (try dsimp only); omega)); conv => whnf) | ((with_reducible refine And.intro ?hh ?_); (case hh => ((try dsimp only); omega)); conv => whnf) | ((with_reducible refine And.intro ?hh ?_); (case hh => ((conv => whnf); (repeat' (first | exact True.intro | rfl | refine And.intro ?_ ?_)); done)); conv => whnf) | fail))
        all_goals first | exact absurd trivial (by assumption) | (refine ⟨[], ?_, rfl, rfl, trivial, (by (repeat' (first | exact True.intro | rfl | refine And.intro ?_ ?_)))⟩; simp only [renV, renL]; (first | done | rfl | simp | grind))
      · have hmv : mvE k D m = 2 := by unfold mvE; rw [if_pos hc0, if_neg hm]
        have kM := fun h' dv hs' => moveE_ok h' k m D hl (by rw [hmv]; decide) dv hs'
        have kMR := fun h' dv hs' => moveRE_ok h' k m D hl (by rw [hmv]; decide) dv hs'
        rw [hmv] at kM kMR
        have kE := fun h' => samePlate_ok h' 0 0 [] [] .nils .nils (by simp) (.nil rfl rfl) (.nil rfl rfl)
        (conv => whnf); (repeat' (first | ((with_reducible refine ifb_mk (fun hc => ?_) (fun hc => ?_)) <;> ((try simp only [decide_eq_true_eq, decide_eq_false_iff_not, Bool.not_eq_true', Bool.not_eq_false', Int.not_lt, Int.not_le, ne_eq, Decidable.not_not, beq_iff_eq, List.cons.injEq, and_true] at hc); (first | (exfalso; omega) | conv => whnf))) | ((with_reducible refine And.intro True.intro ?_); conv => whnf) | ((with_reducible refine CallX.all ?_); refine CallW.of_ok (kG _ _ (SlC.own rfl)) ?_; conv => whnf) | ((with_reducible refine CallX.all ?_); refine CallW.of_ok (kM _ _ (SlC.own rfl)) ?_; conv => whnf) | ((with_reducible refine CallX.all ?_); refine CallW.of_ok (kMR _ _ (SlC.own rfl)) ?_; conv => whnf) | ((with_reducible refine CallX.all ?_); refine CallW.of_new (vC := fun N => .tup [grV N (0 :: t).length, .int .i64 0]) (news := fun _ => growB (0 :: t)) (kS _ (SlC.own rfl)) ?_; conv => whnf) | ((with_reducible refine CallX.all ?_); refine CallW.of_new (vC := fun N => .tup [grV N (0 :: t).length, .int .i64 0]) (news := fun _ => growB (0 :: t)) (kSR _ (SlC.own rfl)) ?_; conv => whnf) | ((with_reducible refine WpR.draw (id := 7) mixed [0, 2, 1, 3, 4, 5, 6, 7, 8, 9, 10, 11, 12, 13, 14, 15, 16, 17, 18, 19, 20, 21, 22, 23, 24, 25, 26, 27, 28] [0, 1, 0, 7, 15, 31, 63, 63, 255, 511, 1023, 2047, 2047, 8191, 16383, 32767, 65535, 65535, 262143, 524287, 1048575, 2097151, 2097151, 8388607, 16777215, 33554431, 67108863, 134217727, 268435455] ?hh ?_); (case hh => kernel_rfl); conv => whnf) | ((with_reducible refine grd_ex ?_); refine ex_ok (kC _ _ (SlC.own rfl)) ?_; conv => whnf) | ((with_reducible refine grd_ex ?_); refine ex_ok (kCR _ _ (SlC.own rfl)) ?_; conv => whnf) | ((with_reducible refine grd_ex ?_); refine ex_ok (kE _) ?_; conv => whnf) | ((with_reducible refine grd_ex ?_); refine ex_ok (kI _ _ _ (SlC.own rfl) (SlC.own rfl)) ?_; conv => whnf) | ((with_reducible refine grd_ex ?_); refine ex_ok (works_any _) ?_; conv => whnf) | ((with_reducible refine And.intro ?hh ?_); (case hh => (unfold InR; (try dsimp only); omega)); conv => whnf) | ((with_reducible refine And.intro ?hh ?_); (case hh => ((try dsimp only); omega)); conv => whnf) | ((with_reducible refine And.intro ?hh ?_); (case hh => ((conv => whnf); (repeat' (first | exact True.intro | rfl | refine And.intro ?_ ?_)); done)); conv => whnf) | fail))
        all_goals first | exact absurd trivial (by assumption) | (refine ⟨[], ?_, rfl, rfl, trivial, (by (repeat' (first | exact True.intro | rfl | refine And.intro ?_ ?_)))⟩; simp only [renV, renL]; (first | done | rfl | simp | grind))
  · have hmv : mvE n D m = ckP n D := by unfold mvE; rw [if_neg hc0]
    have kM := fun h' dv hs' => moveE_ok h' n m D hl (by rw [hmv]; exact hc0) dv hs'
    have kMR := fun h' dv hs' => moveRE_ok h' n m D hl (by rw [hmv]; exact hc0) dv hs'
    have kS := fun h' dv hs' => staysE_ok h' n D hl hc0 dv hs'
    have kSR := fun h' dv hs' => staysRE_ok h' n D hl hc0 dv hs'
    have kE := fun h' => samePlate_ok h' 0 0 [] [] .nils .nils (by simp) (.nil rfl rfl) (.nil rfl rfl)
    have kI := fun h' => ints_ok h' [] [] .nils .nils (by simp) (.nil rfl rfl) (.nil rfl rfl)
    rw [hmv] at kM kMR
    generalize ckP n D = e at *
    cases hsv
    all_goals
      (conv => whnf); (repeat' (first | ((with_reducible refine ifb_mk (fun hc => ?_) (fun hc => ?_)) <;> ((try simp only [decide_eq_true_eq, decide_eq_false_iff_not, Bool.not_eq_true', Bool.not_eq_false', Int.not_lt, Int.not_le, ne_eq, Decidable.not_not, beq_iff_eq, List.cons.injEq, and_true] at hc); (first | (exfalso; omega) | conv => whnf))) | ((with_reducible refine And.intro True.intro ?_); conv => whnf) | ((with_reducible refine CallX.all ?_); refine CallW.of_ok (kG _ _ (by first | exact SlC.own rfl | exact iNil (by omega))) ?_; conv => whnf) | ((with_reducible refine CallX.all ?_); refine CallW.of_ok (kM _ _ (by first | exact SlC.own rfl | exact iNil (by omega))) ?_; conv => whnf) | ((with_reducible refine CallX.all ?_); refine CallW.of_ok (kMR _ _ (by first | exact SlC.own rfl | exact iNil (by omega))) ?_; conv => whnf) | ((with_reducible refine CallX.all ?_); refine CallW.of_ok (kS _ _ (by first | exact SlC.own rfl | exact iNil (by omega))) ?_; conv => whnf) | ((with_reducible refine CallX.all ?_); refine CallW.of_ok (kSR _ _ (by first | exact SlC.own rfl | exact iNil (by omega))) ?_; conv => whnf) | ((with_reducible refine WpR.draw (id := 7) mixed [0, 2, 1, 3, 4, 5, 6, 7, 8, 9, 10, 11, 12, 13, 14, 15, 16, 17, 18, 19, 20, 21, 22, 23, 24, 25, 26, 27, 28] [0, 1, 0, 7, 15, 31, 63, 63, 255, 511, 1023, 2047, 2047, 8191, 16383, 32767, 65535, 65535, 262143, 524287, 1048575, 2097151, 2097151, 8388607, 16777215, 33554431, 67108863, 134217727, 268435455] ?hh ?_); (case hh => kernel_rfl); conv => whnf) | ((with_reducible refine grd_ex ?_); refine ex_ok (kC _ _ (by first | exact SlC.own rfl | exact iNil (by omega))) ?_; conv => whnf) | ((with_reducible refine grd_ex ?_); refine ex_ok (kCR _ _ (by first | exact SlC.own rfl | exact iNil (by omega))) ?_; conv => whnf) | ((with_reducible refine grd_ex ?_); refine ex_ok (kE _) ?_; conv => whnf) | ((with_reducible refine grd_ex ?_); refine ex_ok (kI _) ?_; conv => whnf) | ((with_reducible refine grd_ex ?_); refine ex_ok (works_any _) ?_; conv => whnf) | ((with_reducible refine And.intro ?hh ?_); (case hh => (unfold InR; (try dsimp only); omega)); conv => whnf) | ((with_reducible refine And.intro ?hh ?_); (case hh => ((try dsimp only); omega)); conv => whnf) | ((with_reducible refine And.intro ?hh ?_); (case hh => ((conv => whnf); (repeat' (first | exact True.intro | rfl | refine And.intro ?_ ?_)); done)); conv => whnf) | fail))
      all_goals first | exact absurd trivial (by assumption) | (refine ⟨[], ?_, rfl, rfl, trivial, (by (repeat' (first | exact True.intro | rfl | refine And.intro ?_ ?_)))⟩; simp only [renV, renL]; (first | done | rfl | simp | grind))
end Go.Proofs.P
