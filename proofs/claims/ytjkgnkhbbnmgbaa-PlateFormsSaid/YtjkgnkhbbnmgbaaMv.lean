/- What the functions answer that the laws call, one after another (Mv). -/
import Derived.Test.YtjkgnkhbbnmgbaaAs6
import Derived.Test.YtjkgnkhbbnmgbaaBase

set_option linter.unusedVariables false
namespace Go.Proofs.P
open Go.As
set_option maxRecDepth 20000
set_option linter.unusedVariables false
set_option linter.unusedSimpArgs false

set_option maxHeartbeats 2000000 in
theorem same_ok (h : H) (A B : List Int) (av bv : V) (hl : A.length ≤ 9223372036854775807) (h1 : SlC h (iVs A) A.length av) (h2 : SlC h (iVs B) B.length bv) : CallOk Try.prog 70 [av, bv] h (.bool (decide (A = B))) h := by
  obtain ⟨o1, s1, q1, c1, w1⟩ := h1.view 0
  obtain ⟨o2, s2, q2, c2, w2⟩ := h2.view 1
  have hB1 := @iVs_bare A
  have hB2 := @iVs_bare B
  refine CallOk.run Try.func70 rfl rfl (argsC := [s1, s2]) (Nat.le_of_ble_eq_true rfl) [o1, o2] (.cons (c1 _ rfl) (.cons (c2 _ rfl) .nil)) (viewMc2 iVs_bare w1 iVs_bare w2) rfl (WpR.of_vc ?_)
  by_cases hl2 : A.length = B.length
  · cases q1 with
    | nil h0 =>
      have eA : A = [] := List.eq_nil_of_length_eq_zero h0
      have eB : B = [] := List.eq_nil_of_length_eq_zero (by omega)
      have e : decide (A = B) = true := decide_eq_true (by rw [eA, eB])
      rw [e]
      cases q2 with
      | nil h3 => (conv => whnf); (repeat' (first | ((with_reducible refine ifb_mk (fun hc => ?_) (fun hc => ?_)) <;> ((try simp only [decide_eq_true_eq, decide_eq_false_iff_not, Bool.not_eq_true', Bool.not_eq_false', Int.not_lt, Int.not_le, ne_eq, Decidable.not_not, beq_iff_eq, List.cons.injEq, and_true] at hc); (first | (exfalso; omega) | conv => whnf))) | ((with_reducible refine And.intro True.intro ?_); conv => whnf) | ((with_reducible refine WpR.loopU 2 ?_); conv => whnf) | ((with_reducible refine And.intro ?hh ?_); (case hh => (unfold InR; (try dsimp only); omega)); conv => whnf) | ((with_reducible refine And.intro ?hh ?_); (case hh => ((try dsimp only); omega)); conv => whnf) | ((with_reducible refine And.intro ?hh ?_); (case hh => ((conv => whnf); (repeat' (first | exact True.intro | rfl | refine And.intro ?_ ?_)); done)); conv => whnf) | fail)); all_goals first | (refine ⟨[], ?_, rfl, rfl, trivial, (by (repeat' (first | exact True.intro | rfl | refine And.intro ?_ ?_)))⟩; simp only [renV, renL]; (first | done | rfl | simp | grind)) | (exfalso; omega)
      | @sl cap2 ex2 => (conv => whnf); (repeat' (first | ((with_reducible refine ifb_mk (fun hc => ?_) (fun hc => ?_)) <;> ((try simp only [decide_eq_true_eq, decide_eq_false_iff_not, Bool.not_eq_true', Bool.not_eq_false', Int.not_lt, Int.not_le, ne_eq, Decidable.not_not, beq_iff_eq, List.cons.injEq, and_true] at hc); (first | (exfalso; omega) | conv => whnf))) | ((with_reducible refine And.intro True.intro ?_); conv => whnf) | ((with_reducible refine WpR.loopU 2 ?_); conv => whnf) | ((with_reducible refine And.intro ?hh ?_); (case hh => (unfold InR; (try dsimp only); omega)); conv => whnf) | ((with_reducible refine And.intro ?hh ?_); (case hh => ((try dsimp only); omega)); conv => whnf) | ((with_reducible refine And.intro ?hh ?_); (case hh => ((conv => whnf); (repeat' (first | exact True.intro | rfl | refine And.intro ?_ ?_)); done)); conv => whnf) | fail)); all_goals first | (refine ⟨[], ?_, rfl, rfl, trivial, (by (repeat' (first | exact True.intro | rfl | refine And.intro ?_ ?_)))⟩; simp only [renV, renL]; (first | done | rfl | simp | grind)) | (exfalso; omega)
    | @sl cap1 ex1 =>
      cases q2 with
      | nil h3 =>
        have eB : B = [] := List.eq_nil_of_length_eq_zero h3
        have eA : A = [] := List.eq_nil_of_length_eq_zero (by omega)
        have e : decide (A = B) = true := decide_eq_true (by rw [eA, eB])
        rw [e]
        (conv => whnf); (repeat' (first | ((with_reducible refine ifb_mk (fun hc => ?_) (fun hc => ?_)) <;> ((try simp only [decide_eq_true_eq, decide_eq_false_iff_not, Bool.not_eq_true', Bool.not_eq_false', Int.not_lt, Int.not_le, ne_eq, Decidable.not_not, beq_iff_eq, List.cons.injEq, and_true] at hc); (first | (exfalso; omega) | conv => whnf))) | ((with_reducible refine And.intro True.intro ?_); conv => whnf) | ((with_reducible refine WpR.loopU 2 ?_); conv => whnf) | ((with_reducible refine And.intro ?hh ?_); (case hh => (unfold InR; (try dsimp only); omega)); conv => whnf) | ((with_reducible refine And.intro ?hh ?_); (case hh => ((try dsimp only); omega)); conv => whnf) | ((with_reducible refine And.intro ?hh ?_); (case hh => ((conv => whnf); (repeat' (first | exact True.intro | rfl | refine And.intro ?_ ?_)); done)); conv => whnf) | fail)); all_goals first | (refine ⟨[], ?_, rfl, rfl, trivial, (by (repeat' (first | exact True.intro | rfl | refine And.intro ?_ ?_)))⟩; simp only [renV, renL]; (first | done | rfl | simp | grind)) | (exfalso; omega)
      | @sl cap2 ex2 =>
        (conv => whnf); (repeat' (first | ((with_reducible refine ifb_mk (fun hc => ?_) (fun hc => ?_)) <;> ((try simp only [decide_eq_true_eq, decide_eq_false_iff_not, Bool.not_eq_true', Bool.not_eq_false', Int.not_lt, Int.not_le, ne_eq, Decidable.not_not, beq_iff_eq, List.cons.injEq, and_true] at hc); (first | (exfalso; omega) | conv => whnf))) | ((with_reducible refine And.intro True.intro ?_); conv => whnf) | ((with_reducible refine And.intro ?hh ?_); (case hh => (unfold InR; (try dsimp only); omega)); conv => whnf) | ((with_reducible refine And.intro ?hh ?_); (case hh => ((try dsimp only); omega)); conv => whnf) | ((with_reducible refine And.intro ?hh ?_); (case hh => ((conv => whnf); (repeat' (first | exact True.intro | rfl | refine And.intro ?_ ?_)); done)); conv => whnf) | fail))
        show WpR Try.prog _ _ _ _ ⟨_, _, _, ⟨_, 2, 0⟩⟩ _
        refine WpR.loopD (ι := Nat) [] [0, 1] [] [] 2 (fun i => [(5, .int .i64 i)]) (fun _ => []) (fun i => A.length - i) (fun i => i ≤ A.length ∧ (A = B ↔ A.drop i = B.drop i)) ?_ (0) (⟨Nat.zero_le _, Iff.rfl⟩) [] ⟨rfl, rfl, (by (repeat' (first | exact True.intro | rfl | refine And.intro ?_ ?_))), (by (repeat' (first | exact True.intro | rfl | refine And.intro ?_ ?_))), (by (repeat' (first | exact True.intro | rfl | refine And.intro ?_ ?_))), (by (repeat' (first | exact True.intro | exact Or.inl rfl | refine And.intro ?_ ?_ | refine Or.inr ⟨_, rfl, ?_⟩ | exact SubQ.same (n := 1000) (Y := []) (fun _ _ _ => rfl) (by first | exact True.intro | exact ltB_all rfl | exact ltB_ofLb (by first | exact bare0_ints | assumption | exact bVs_bare | exact iVs_bare | exact mVs_bare | (intro v hv; (repeat (rcases List.mem_cons.1 hv with rfl | hv; exact rfl)); cases hv)) | exact ltB_loop rfl rfl | exact hMap _ | exact hMap2 _ | exact grB_lt (by first | exact bare0_ints | assumption | exact bVs_bare | exact iVs_bare | exact mVs_bare | (intro v hv; (repeat (rcases List.mem_cons.1 hv with rfl | hv; exact rfl)); cases hv)) _ | exact ltB_encL | exact ltB_map0 | assumption) (avB_nil _) rfl | exact SubQ.ofL (by first | rfl | simp) (by first | exact bare0_ints | assumption | exact bVs_bare | exact iVs_bare | exact mVs_bare | (intro v hv; (repeat (rcases List.mem_cons.1 hv with rfl | hv; exact rfl)); cases hv)) (by first | exact Or.inl rfl | exact Or.inr rfl) | exact SubQ.fin (by (conv => whnf); (repeat' (first | exact True.intro | rfl | refine And.intro ?_ ?_)); done) (fun h => h) (by first | exact Or.inl rfl | exact Or.inr rfl)))), rfl, rfl⟩ rfl rfl rfl (fun _ => rfl) (by (repeat' (first | exact True.intro | refine And.intro ?_ ?_ | exact avV_nil _ | rfl))) (by (repeat' (first | exact True.intro | (with_reducible exact avB_nil _) | ((with_reducible refine avB_all ?_); rfl) | ((with_reducible refine avB_ofLb ?_); exact (by first | exact bare0_ints | assumption | exact bVs_bare | exact iVs_bare | exact mVs_bare | (intro v hv; (repeat (rcases List.mem_cons.1 hv with rfl | hv; exact rfl)); cases hv))) | ((with_reducible refine ltB_all ?_); rfl) | ((with_reducible refine ltB_ofLb ?_); exact (by first | exact bare0_ints | assumption | exact bVs_bare | exact iVs_bare | exact mVs_bare | (intro v hv; (repeat (rcases List.mem_cons.1 hv with rfl | hv; exact rfl)); cases hv))) | ((with_reducible refine ltB_loop ?_ ?_) <;> rfl) | (with_reducible exact hMap _) | (with_reducible exact hMap2 _) | (with_reducible exact ltB_encL) | (with_reducible exact ltB_map0) | ((with_reducible refine grB_lt ?_ _); exact (by first | exact bare0_ints | assumption | exact bVs_bare | exact iVs_bare | exact mVs_bare | (intro v hv; (repeat (rcases List.mem_cons.1 hv with rfl | hv; exact rfl)); cases hv))) | (with_reducible assumption) | refine And.intro ?_ ?_ | exact (by first | exact True.intro | exact ltB_all rfl | exact ltB_ofLb (by first | exact bare0_ints | assumption | exact bVs_bare | exact iVs_bare | exact mVs_bare | (intro v hv; (repeat (rcases List.mem_cons.1 hv with rfl | hv; exact rfl)); cases hv)) | exact ltB_loop rfl rfl | exact hMap _ | exact hMap2 _ | exact grB_lt (by first | exact bare0_ints | assumption | exact bVs_bare | exact iVs_bare | exact mVs_bare | (intro v hv; (repeat (rcases List.mem_cons.1 hv with rfl | hv; exact rfl)); cases hv)) _ | exact ltB_encL | exact ltB_map0 | assumption)))) (fun _ _ => (by (repeat' (first | exact True.intro | rfl | refine And.intro ?_ ?_ | exact (by decide) | exact (by first | exact True.intro | exact hMap _ | exact hMap2 _ | exact grB_lt (by first | exact bare0_ints | assumption | exact bVs_bare | exact iVs_bare | exact mVs_bare | (intro v hv; (repeat (rcases List.mem_cons.1 hv with rfl | hv; exact rfl)); cases hv)) _ | exact ltB_all rfl | exact ltB_ofLb (by first | exact bare0_ints | assumption | exact bVs_bare | exact iVs_bare | exact mVs_bare | (intro v hv; (repeat (rcases List.mem_cons.1 hv with rfl | hv; exact rfl)); cases hv)) | exact ltB_loop rfl rfl | exact ltB_encL | exact ltB_map0 | assumption))))) (fun _ _ => (by (repeat' (first | exact True.intro | rfl | refine And.intro ?_ ?_ | exact (by decide) | exact (by first | exact True.intro | exact hMap _ | exact hMap2 _ | exact grB_lt (by first | exact bare0_ints | assumption | exact bVs_bare | exact iVs_bare | exact mVs_bare | (intro v hv; (repeat (rcases List.mem_cons.1 hv with rfl | hv; exact rfl)); cases hv)) _ | exact ltB_all rfl | exact ltB_ofLb (by first | exact bare0_ints | assumption | exact bVs_bare | exact iVs_bare | exact mVs_bare | (intro v hv; (repeat (rcases List.mem_cons.1 hv with rfl | hv; exact rfl)); cases hv)) | exact ltB_loop rfl rfl | exact ltB_encL | exact ltB_map0 | assumption))))) (fun _ _ => (by (repeat' (first | exact True.intro | rfl | refine And.intro ?_ ?_)))) rfl
        rintro i ⟨j1, j2⟩
        refine WpR.of_vc ?_
        cases hx : A[i]? with
        | some x =>
          have hlt := (List.getElem?_eq_some_iff.1 hx).1
          obtain ⟨y, hy⟩ : ∃ y, B[i]? = some y := ⟨_, List.getElem?_eq_getElem (by omega)⟩
          rw [drop_at hx, drop_at hy, List.cons.injEq] at j2
          (conv => whnf); (repeat' (first | ((with_reducible refine ifb_mk (fun hc => ?_) (fun hc => ?_)) <;> ((try simp only [decide_eq_true_eq, decide_eq_false_iff_not, Bool.not_eq_true', Bool.not_eq_false', Int.not_lt, Int.not_le, ne_eq, Decidable.not_not, beq_iff_eq, List.cons.injEq, and_true] at hc); (first | (exfalso; omega) | conv => whnf))) | ((with_reducible refine And.intro True.intro ?_); conv => whnf) | ((with_reducible refine WpR.draw (id := 6) mixed [0, 1, 2, 3, 4, 5, 6, 7, 8] [0, 0, 3, 7, 0, 0, 48, 112, 255] ?hh ?_); (case hh => kernel_rfl); conv => whnf) | ((with_reducible refine grd_get ?_); refine som_mk (a := ?_) ?hh ?_; (case hh => exact iGet hx); conv => whnf) | ((with_reducible refine grd_get ?_); refine som_mk (a := ?_) ?hh ?_; (case hh => exact iGet hy); conv => whnf) | ((with_reducible refine And.intro ?hh ?_); (case hh => (unfold InR; (try dsimp only); omega)); conv => whnf) | ((with_reducible refine And.intro ?hh ?_); (case hh => ((try dsimp only); omega)); conv => whnf) | ((with_reducible refine And.intro ?hh ?_); (case hh => ((conv => whnf); (repeat' (first | exact True.intro | rfl | refine And.intro ?_ ?_)); done)); conv => whnf) | fail))
          · have e : decide (A = B) = false := decide_eq_false fun h => hc (j2.1 h).1
            rw [e]; (refine ⟨[], ?_, rfl, rfl, trivial, (by (repeat' (first | exact True.intro | rfl | refine And.intro ?_ ?_)))⟩; simp only [renV, renL]; (first | done | rfl | simp | grind))
          · exact ⟨i + 1, [], by omega, ⟨by omega, fun h => (j2.1 h).2, fun h => j2.2 ⟨hc, h⟩⟩, ⟨rfl, rfl, (by (repeat' (first | exact True.intro | rfl | refine And.intro ?_ ?_))), (by (repeat' (first | exact True.intro | rfl | refine And.intro ?_ ?_))), (by (repeat' (first | exact True.intro | rfl | refine And.intro ?_ ?_))), (by (repeat' (first | exact True.intro | exact Or.inl rfl | refine And.intro ?_ ?_ | refine Or.inr ⟨_, rfl, ?_⟩ | exact SubQ.same (n := 1000) (Y := []) (fun _ _ _ => rfl) (by first | exact True.intro | exact ltB_all rfl | exact ltB_ofLb (by first | exact bare0_ints | assumption | exact bVs_bare | exact iVs_bare | exact mVs_bare | (intro v hv; (repeat (rcases List.mem_cons.1 hv with rfl | hv; exact rfl)); cases hv)) | exact ltB_loop rfl rfl | exact hMap _ | exact hMap2 _ | exact grB_lt (by first | exact bare0_ints | assumption | exact bVs_bare | exact iVs_bare | exact mVs_bare | (intro v hv; (repeat (rcases List.mem_cons.1 hv with rfl | hv; exact rfl)); cases hv)) _ | exact ltB_encL | exact ltB_map0 | assumption) (avB_nil _) rfl | exact SubQ.ofL (by first | rfl | simp) (by first | exact bare0_ints | assumption | exact bVs_bare | exact iVs_bare | exact mVs_bare | (intro v hv; (repeat (rcases List.mem_cons.1 hv with rfl | hv; exact rfl)); cases hv)) (by first | exact Or.inl rfl | exact Or.inr rfl) | exact SubQ.fin (by (conv => whnf); (repeat' (first | exact True.intro | rfl | refine And.intro ?_ ?_)); done) (fun h => h) (by first | exact Or.inl rfl | exact Or.inr rfl)))), rfl, rfl⟩⟩
        | none =>
          have hlen : A.length ≤ i := by simpa using hx
          (conv => whnf); (repeat' (first | ((with_reducible refine ifb_mk (fun hc => ?_) (fun hc => ?_)) <;> ((try simp only [decide_eq_true_eq, decide_eq_false_iff_not, Bool.not_eq_true', Bool.not_eq_false', Int.not_lt, Int.not_le, ne_eq, Decidable.not_not, beq_iff_eq, List.cons.injEq, and_true] at hc); (first | (exfalso; omega) | conv => whnf))) | ((with_reducible refine And.intro True.intro ?_); conv => whnf) | ((with_reducible refine And.intro ?hh ?_); (case hh => (unfold InR; (try dsimp only); omega)); conv => whnf) | ((with_reducible refine And.intro ?hh ?_); (case hh => ((try dsimp only); omega)); conv => whnf) | ((with_reducible refine And.intro ?hh ?_); (case hh => ((conv => whnf); (repeat' (first | exact True.intro | rfl | refine And.intro ?_ ?_)); done)); conv => whnf) | fail))
          have e : decide (A = B) = true := decide_eq_true (j2.2 (by rw [List.drop_eq_nil_of_le hlen, List.drop_eq_nil_of_le (by omega)]))
          rw [e]; (refine ⟨[], ?_, rfl, rfl, trivial, (by (repeat' (first | exact True.intro | rfl | refine And.intro ?_ ?_)))⟩; simp only [renV, renL]; (first | done | rfl | simp | grind))
  · have e : decide (A = B) = false := decide_eq_false fun hc => hl2 (by rw [hc])
    rw [e]
    cases q1 with
    | nil h0 =>
      cases q2 with
      | nil h3 => (conv => whnf); (repeat' (first | ((with_reducible refine ifb_mk (fun hc => ?_) (fun hc => ?_)) <;> ((try simp only [decide_eq_true_eq, decide_eq_false_iff_not, Bool.not_eq_true', Bool.not_eq_false', Int.not_lt, Int.not_le, ne_eq, Decidable.not_not, beq_iff_eq, List.cons.injEq, and_true] at hc); (first | (exfalso; omega) | conv => whnf))) | ((with_reducible refine And.intro True.intro ?_); conv => whnf) | ((with_reducible refine And.intro ?hh ?_); (case hh => (unfold InR; (try dsimp only); omega)); conv => whnf) | ((with_reducible refine And.intro ?hh ?_); (case hh => ((try dsimp only); omega)); conv => whnf) | ((with_reducible refine And.intro ?hh ?_); (case hh => ((conv => whnf); (repeat' (first | exact True.intro | rfl | refine And.intro ?_ ?_)); done)); conv => whnf) | fail)); all_goals first | (refine ⟨[], ?_, rfl, rfl, trivial, (by (repeat' (first | exact True.intro | rfl | refine And.intro ?_ ?_)))⟩; simp only [renV, renL]; (first | done | rfl | simp | grind)) | (exfalso; omega)
      | @sl cap2 ex2 => (conv => whnf); (repeat' (first | ((with_reducible refine ifb_mk (fun hc => ?_) (fun hc => ?_)) <;> ((try simp only [decide_eq_true_eq, decide_eq_false_iff_not, Bool.not_eq_true', Bool.not_eq_false', Int.not_lt, Int.not_le, ne_eq, Decidable.not_not, beq_iff_eq, List.cons.injEq, and_true] at hc); (first | (exfalso; omega) | conv => whnf))) | ((with_reducible refine And.intro True.intro ?_); conv => whnf) | ((with_reducible refine And.intro ?hh ?_); (case hh => (unfold InR; (try dsimp only); omega)); conv => whnf) | ((with_reducible refine And.intro ?hh ?_); (case hh => ((try dsimp only); omega)); conv => whnf) | ((with_reducible refine And.intro ?hh ?_); (case hh => ((conv => whnf); (repeat' (first | exact True.intro | rfl | refine And.intro ?_ ?_)); done)); conv => whnf) | fail)); all_goals first | (refine ⟨[], ?_, rfl, rfl, trivial, (by (repeat' (first | exact True.intro | rfl | refine And.intro ?_ ?_)))⟩; simp only [renV, renL]; (first | done | rfl | simp | grind)) | (exfalso; omega)
    | @sl cap1 ex1 =>
      cases q2 with
      | nil h3 => (conv => whnf); (repeat' (first | ((with_reducible refine ifb_mk (fun hc => ?_) (fun hc => ?_)) <;> ((try simp only [decide_eq_true_eq, decide_eq_false_iff_not, Bool.not_eq_true', Bool.not_eq_false', Int.not_lt, Int.not_le, ne_eq, Decidable.not_not, beq_iff_eq, List.cons.injEq, and_true] at hc); (first | (exfalso; omega) | conv => whnf))) | ((with_reducible refine And.intro True.intro ?_); conv => whnf) | ((with_reducible refine And.intro ?hh ?_); (case hh => (unfold InR; (try dsimp only); omega)); conv => whnf) | ((with_reducible refine And.intro ?hh ?_); (case hh => ((try dsimp only); omega)); conv => whnf) | ((with_reducible refine And.intro ?hh ?_); (case hh => ((conv => whnf); (repeat' (first | exact True.intro | rfl | refine And.intro ?_ ?_)); done)); conv => whnf) | fail)); all_goals first | (refine ⟨[], ?_, rfl, rfl, trivial, (by (repeat' (first | exact True.intro | rfl | refine And.intro ?_ ?_)))⟩; simp only [renV, renL]; (first | done | rfl | simp | grind)) | (exfalso; omega)
      | @sl cap2 ex2 => (conv => whnf); (repeat' (first | ((with_reducible refine ifb_mk (fun hc => ?_) (fun hc => ?_)) <;> ((try simp only [decide_eq_true_eq, decide_eq_false_iff_not, Bool.not_eq_true', Bool.not_eq_false', Int.not_lt, Int.not_le, ne_eq, Decidable.not_not, beq_iff_eq, List.cons.injEq, and_true] at hc); (first | (exfalso; omega) | conv => whnf))) | ((with_reducible refine And.intro True.intro ?_); conv => whnf) | ((with_reducible refine And.intro ?hh ?_); (case hh => (unfold InR; (try dsimp only); omega)); conv => whnf) | ((with_reducible refine And.intro ?hh ?_); (case hh => ((try dsimp only); omega)); conv => whnf) | ((with_reducible refine And.intro ?hh ?_); (case hh => ((conv => whnf); (repeat' (first | exact True.intro | rfl | refine And.intro ?_ ?_)); done)); conv => whnf) | fail)); all_goals first | (refine ⟨[], ?_, rfl, rfl, trivial, (by (repeat' (first | exact True.intro | rfl | refine And.intro ?_ ?_)))⟩; simp only [renV, renL]; (first | done | rfl | simp | grind)) | (exfalso; omega)
end Go.Proofs.P

namespace Go.Proofs.P
open Go.As
set_option maxRecDepth 20000
set_option linter.unusedVariables false
set_option linter.unusedSimpArgs false

theorem ints_ok (h : H) (A B : List Int) (av bv : V) (hl : A.length ≤ 9223372036854775807) (h1 : SlC h (iVs A) A.length av) (h2 : SlC h (iVs B) B.length bv) : CallOk Try.prog 26 [av, bv] h (.bool (decide (A = B))) h := by
  obtain ⟨o1, s1, q1, c1, w1⟩ := h1.view 0
  obtain ⟨o2, s2, q2, c2, w2⟩ := h2.view 1
  refine CallOk.run Try.func26 rfl rfl (argsC := [s1, s2]) (Nat.le_of_ble_eq_true rfl) [o1, o2] (.cons (c1 _ rfl) (.cons (c2 _ rfl) .nil)) (viewMc2 iVs_bare w1 iVs_bare w2) rfl (WpR.of_vc ?_)
  have kS := fun h' av bv g1 g2 => same_ok h' A B av bv hl g1 g2
  cases q1 <;> cases q2
  all_goals
    (conv => whnf); (repeat' (first | ((with_reducible refine ifb_mk (fun hc => ?_) (fun hc => ?_)) <;> ((try simp only [decide_eq_true_eq, decide_eq_false_iff_not, Bool.not_eq_true', Bool.not_eq_false', Int.not_lt, Int.not_le, ne_eq, Decidable.not_not, beq_iff_eq, List.cons.injEq, and_true] at hc); (first | (exfalso; omega) | conv => whnf))) | ((with_reducible refine And.intro True.intro ?_); conv => whnf) | ((with_reducible refine CallX.all ?_); refine CallW.of_ok (kS _ _ _ (by first | exact SlC.own rfl | exact iNil (by omega)) (by first | exact SlC.own rfl | exact iNil (by omega))) ?_; conv => whnf) | ((with_reducible refine And.intro ?hh ?_); (case hh => (unfold InR; (try dsimp only); omega)); conv => whnf) | ((with_reducible refine And.intro ?hh ?_); (case hh => ((try dsimp only); omega)); conv => whnf) | ((with_reducible refine And.intro ?hh ?_); (case hh => ((conv => whnf); (repeat' (first | exact True.intro | rfl | refine And.intro ?_ ?_)); done)); conv => whnf) | fail))
    (refine ⟨[], ?_, rfl, rfl, trivial, (by (repeat' (first | exact True.intro | rfl | refine And.intro ?_ ?_)))⟩; simp only [renV, renL]; (first | done | rfl | simp | grind))
theorem samePlate_ok (h : H) (n n2 : Int) (A B : List Int) (av bv : V) (hl : A.length ≤ 9223372036854775807) (h1 : SlC h (iVs A) A.length av) (h2 : SlC h (iVs B) B.length bv) : CallOk Try.prog 25 [plateV n av, plateV n2 bv] h (.bool (decide (n = n2) && decide (A = B))) h := by
  obtain ⟨o1, s1, q1, c1, w1⟩ := h1.view 0
  obtain ⟨o2, s2, q2, c2, w2⟩ := h2.view 1
  refine CallOk.run Try.func25 rfl rfl (argsC := [plateV n s1, plateV n2 s2]) (Nat.le_of_ble_eq_true rfl) [o1, o2] (.cons (CaL.agg (.cons (.bare rfl) (.cons (c1 _ rfl) .nil))) (.cons (CaL.agg (.cons (.bare rfl) (.cons (c2 _ rfl) .nil))) .nil)) (viewMc2 iVs_bare w1 iVs_bare w2) rfl (WpR.of_vc ?_)
  have kS := fun h' av bv g1 g2 => same_ok h' A B av bv hl g1 g2
  by_cases hn : n = n2
  · rw [decide_eq_true hn, Bool.true_and]
    cases q1 <;> cases q2
    all_goals
      (conv => whnf); (repeat' (first | ((with_reducible refine ifb_mk (fun hc => ?_) (fun hc => ?_)) <;> ((try simp only [decide_eq_true_eq, decide_eq_false_iff_not, Bool.not_eq_true', Bool.not_eq_false', Int.not_lt, Int.not_le, ne_eq, Decidable.not_not, beq_iff_eq, List.cons.injEq, and_true] at hc); (first | (exfalso; omega) | conv => whnf))) | ((with_reducible refine And.intro True.intro ?_); conv => whnf) | ((with_reducible refine CallX.all ?_); refine CallW.of_ok (kS _ _ _ (by first | exact SlC.own rfl | exact iNil (by omega)) (by first | exact SlC.own rfl | exact iNil (by omega))) ?_; conv => whnf) | ((with_reducible refine And.intro ?hh ?_); (case hh => (unfold InR; (try dsimp only); omega)); conv => whnf) | ((with_reducible refine And.intro ?hh ?_); (case hh => ((try dsimp only); omega)); conv => whnf) | ((with_reducible refine And.intro ?hh ?_); (case hh => ((conv => whnf); (repeat' (first | exact True.intro | rfl | refine And.intro ?_ ?_)); done)); conv => whnf) | fail))
      (refine ⟨[], ?_, rfl, rfl, trivial, (by (repeat' (first | exact True.intro | rfl | refine And.intro ?_ ?_)))⟩; simp only [renV, renL]; (first | done | rfl | simp | grind))
  · rw [decide_eq_false hn, Bool.false_and]
    cases q1 <;> cases q2
    all_goals
      (conv => whnf); (repeat' (first | ((with_reducible refine ifb_mk (fun hc => ?_) (fun hc => ?_)) <;> ((try simp only [decide_eq_true_eq, decide_eq_false_iff_not, Bool.not_eq_true', Bool.not_eq_false', Int.not_lt, Int.not_le, ne_eq, Decidable.not_not, beq_iff_eq, List.cons.injEq, and_true] at hc); (first | (exfalso; omega) | conv => whnf))) | ((with_reducible refine And.intro True.intro ?_); conv => whnf) | ((with_reducible refine CallX.all ?_); refine CallW.of_ok (kS _ _ _ (by first | exact SlC.own rfl | exact iNil (by omega)) (by first | exact SlC.own rfl | exact iNil (by omega))) ?_; conv => whnf) | ((with_reducible refine And.intro ?hh ?_); (case hh => (unfold InR; (try dsimp only); omega)); conv => whnf) | ((with_reducible refine And.intro ?hh ?_); (case hh => ((try dsimp only); omega)); conv => whnf) | ((with_reducible refine And.intro ?hh ?_); (case hh => ((conv => whnf); (repeat' (first | exact True.intro | rfl | refine And.intro ?_ ?_)); done)); conv => whnf) | fail))
      (refine ⟨[], ?_, rfl, rfl, trivial, (by (repeat' (first | exact True.intro | rfl | refine And.intro ?_ ?_)))⟩; simp only [renV, renL]; (first | done | rfl | simp | grind))
theorem great_ok (h : H) (n : Int) (A : List Int) (av : V) (h1 : SlC h (iVs A) A.length av) : CallOk Try.prog 17 [plateV n av] h (.bool (decide (80 < A.length))) h := by
  obtain ⟨o1, s1, q1, c1, w1⟩ := h1.view 0
  refine CallOk.run Try.func17 rfl rfl (argsC := [plateV n s1]) (Nat.le_of_ble_eq_true rfl) [o1] (.cons (CaL.agg (.cons (.bare rfl) (.cons (c1 _ rfl) .nil))) .nil) (viewMc1 iVs_bare w1) rfl (WpR.of_vc ?_)
  cases q1 with
  | nil h0 =>
    rw [decide_eq_false (by omega)]
    (conv => whnf); (repeat' (first | ((with_reducible refine ifb_mk (fun hc => ?_) (fun hc => ?_)) <;> ((try simp only [decide_eq_true_eq, decide_eq_false_iff_not, Bool.not_eq_true', Bool.not_eq_false', Int.not_lt, Int.not_le, ne_eq, Decidable.not_not, beq_iff_eq, List.cons.injEq, and_true] at hc); (first | (exfalso; omega) | conv => whnf))) | ((with_reducible refine And.intro True.intro ?_); conv => whnf) | ((with_reducible refine And.intro ?hh ?_); (case hh => (unfold InR; (try dsimp only); omega)); conv => whnf) | ((with_reducible refine And.intro ?hh ?_); (case hh => ((try dsimp only); omega)); conv => whnf) | ((with_reducible refine And.intro ?hh ?_); (case hh => ((conv => whnf); (repeat' (first | exact True.intro | rfl | refine And.intro ?_ ?_)); done)); conv => whnf) | fail))
    (refine ⟨[], ?_, rfl, rfl, trivial, (by (repeat' (first | exact True.intro | rfl | refine And.intro ?_ ?_)))⟩; simp only [renV, renL]; (first | done | rfl | simp | grind))
  | @sl cap ex =>
    (conv => whnf); (repeat' (first | ((with_reducible refine ifb_mk (fun hc => ?_) (fun hc => ?_)) <;> ((try simp only [decide_eq_true_eq, decide_eq_false_iff_not, Bool.not_eq_true', Bool.not_eq_false', Int.not_lt, Int.not_le, ne_eq, Decidable.not_not, beq_iff_eq, List.cons.injEq, and_true] at hc); (first | (exfalso; omega) | conv => whnf))) | ((with_reducible refine And.intro True.intro ?_); conv => whnf) | ((with_reducible refine And.intro ?hh ?_); (case hh => (unfold InR; (try dsimp only); omega)); conv => whnf) | ((with_reducible refine And.intro ?hh ?_); (case hh => ((try dsimp only); omega)); conv => whnf) | ((with_reducible refine And.intro ?hh ?_); (case hh => ((conv => whnf); (repeat' (first | exact True.intro | rfl | refine And.intro ?_ ?_)); done)); conv => whnf) | fail))
    (refine ⟨[], ?_, rfl, rfl, trivial, (by (repeat' (first | exact True.intro | rfl | refine And.intro ?_ ?_)))⟩; simp only [renV, renL]; (congr 1; exact decide_eq_decide.2 (by omega)))

set_option maxHeartbeats 1000000 in
theorem checkPlateR_ok (h : H) (n : Int) (D : List Int) (dv : V) (hl : D.length ≤ 9223372036854775807) (hs : SlC h (iVs D) D.length dv) : CallOk Try.prog 24 [plateV n dv] h (.int .i64 (ckP n D)) h := by
  obtain ⟨vo, svC, hsv, hca, hvw⟩ := hs.view 0
  have hB := @iVs_bare D
  refine CallOk.run Try.func24 rfl rfl (argsC := [plateV n svC]) (Nat.le_of_ble_eq_true rfl) [vo] (.cons (CaL.agg (.cons (.bare rfl) (.cons (hca _ rfl) .nil))) .nil) (viewMc1 iVs_bare hvw) rfl (WpR.of_vc ?_)
  by_cases hn : 1 ≤ n ∧ n ≤ 8
  · have hnn : 1 ≤ n * n ∧ n * n ≤ 64 := by
      obtain ⟨h1, h2⟩ := hn
      have : n = 1 ∨ n = 2 ∨ n = 3 ∨ n = 4 ∨ n = 5 ∨ n = 6 ∨ n = 7 ∨ n = 8 := by omega
      rcases this with rfl | rfl | rfl | rfl | rfl | rfl | rfl | rfl <;> decide
    unfold ckP
    rw [if_pos hn]
    cases hsv with
    | nil h0 =>
      (conv => whnf); (repeat' (first | ((with_reducible refine ifb_mk (fun hc => ?_) (fun hc => ?_)) <;> ((try simp only [decide_eq_true_eq, decide_eq_false_iff_not, Bool.not_eq_true', Bool.not_eq_false', Int.not_lt, Int.not_le, ne_eq, Decidable.not_not, beq_iff_eq, List.cons.injEq, and_true] at hc); (first | (exfalso; omega) | conv => whnf))) | ((with_reducible refine And.intro True.intro ?_); conv => whnf) | ((with_reducible refine And.intro ?hh ?_); (case hh => (unfold InR; (try dsimp only); omega)); conv => whnf) | ((with_reducible refine And.intro ?hh ?_); (case hh => ((try dsimp only); omega)); conv => whnf) | ((with_reducible refine And.intro ?hh ?_); (case hh => ((conv => whnf); (repeat' (first | exact True.intro | rfl | refine And.intro ?_ ?_)); done)); conv => whnf) | fail))
      rw [h0, if_neg (by omega)]
      (refine ⟨[], ?_, rfl, rfl, trivial, (by (repeat' (first | exact True.intro | rfl | refine And.intro ?_ ?_)))⟩; simp only [renV, renL]; (first | done | rfl | simp | grind))
    | @sl cap ex =>
      (conv => whnf); (repeat' (first | ((with_reducible refine ifb_mk (fun hc => ?_) (fun hc => ?_)) <;> ((try simp only [decide_eq_true_eq, decide_eq_false_iff_not, Bool.not_eq_true', Bool.not_eq_false', Int.not_lt, Int.not_le, ne_eq, Decidable.not_not, beq_iff_eq, List.cons.injEq, and_true] at hc); (first | (exfalso; omega) | conv => whnf))) | ((with_reducible refine And.intro True.intro ?_); conv => whnf) | ((with_reducible refine And.intro ?hh ?_); (case hh => (unfold InR; (try dsimp only); omega)); conv => whnf) | ((with_reducible refine And.intro ?hh ?_); (case hh => ((try dsimp only); omega)); conv => whnf) | ((with_reducible refine And.intro ?hh ?_); (case hh => ((conv => whnf); (repeat' (first | exact True.intro | rfl | refine And.intro ?_ ?_)); done)); conv => whnf) | fail))
      · rw [if_neg (by omega)]; (refine ⟨[], ?_, rfl, rfl, trivial, (by (repeat' (first | exact True.intro | rfl | refine And.intro ?_ ?_)))⟩; simp only [renV, renL]; (first | done | rfl | simp | grind))
      · rw [if_pos (by omega)]
        refine WpR.loopD (ι := Nat) [] [1] [] [] 2 (fun i => [(3, .int .i64 i)]) (fun _ => []) (fun i => D.length - i) (fun i => i ≤ D.length ∧ wi 0 3 D = wi 0 3 (D.drop i)) ?_ (0) (⟨Nat.zero_le _, rfl⟩) [] ⟨rfl, rfl, (by (repeat' (first | exact True.intro | rfl | refine And.intro ?_ ?_))), (by (repeat' (first | exact True.intro | rfl | refine And.intro ?_ ?_))), (by (repeat' (first | exact True.intro | rfl | refine And.intro ?_ ?_))), (by (repeat' (first | exact True.intro | exact Or.inl rfl | refine And.intro ?_ ?_ | refine Or.inr ⟨_, rfl, ?_⟩ | exact SubQ.same (n := 1000) (Y := []) (fun _ _ _ => rfl) (by first | exact True.intro | exact ltB_all rfl | exact ltB_ofLb (by first | exact bare0_ints | assumption | exact bVs_bare | exact iVs_bare | exact mVs_bare | (intro v hv; (repeat (rcases List.mem_cons.1 hv with rfl | hv; exact rfl)); cases hv)) | exact ltB_loop rfl rfl | exact hMap _ | exact hMap2 _ | exact grB_lt (by first | exact bare0_ints | assumption | exact bVs_bare | exact iVs_bare | exact mVs_bare | (intro v hv; (repeat (rcases List.mem_cons.1 hv with rfl | hv; exact rfl)); cases hv)) _ | exact ltB_encL | exact ltB_map0 | assumption) (avB_nil _) rfl | exact SubQ.ofL (by first | rfl | simp) (by first | exact bare0_ints | assumption | exact bVs_bare | exact iVs_bare | exact mVs_bare | (intro v hv; (repeat (rcases List.mem_cons.1 hv with rfl | hv; exact rfl)); cases hv)) (by first | exact Or.inl rfl | exact Or.inr rfl) | exact SubQ.fin (by (conv => whnf); (repeat' (first | exact True.intro | rfl | refine And.intro ?_ ?_)); done) (fun h => h) (by first | exact Or.inl rfl | exact Or.inr rfl)))), rfl, rfl⟩ rfl rfl rfl (fun _ => rfl) (by (repeat' (first | exact True.intro | refine And.intro ?_ ?_ | exact avV_nil _ | rfl))) (by (repeat' (first | exact True.intro | (with_reducible exact avB_nil _) | ((with_reducible refine avB_all ?_); rfl) | ((with_reducible refine avB_ofLb ?_); exact (by first | exact bare0_ints | assumption | exact bVs_bare | exact iVs_bare | exact mVs_bare | (intro v hv; (repeat (rcases List.mem_cons.1 hv with rfl | hv; exact rfl)); cases hv))) | ((with_reducible refine ltB_all ?_); rfl) | ((with_reducible refine ltB_ofLb ?_); exact (by first | exact bare0_ints | assumption | exact bVs_bare | exact iVs_bare | exact mVs_bare | (intro v hv; (repeat (rcases List.mem_cons.1 hv with rfl | hv; exact rfl)); cases hv))) | ((with_reducible refine ltB_loop ?_ ?_) <;> rfl) | (with_reducible exact hMap _) | (with_reducible exact hMap2 _) | (with_reducible exact ltB_encL) | (with_reducible exact ltB_map0) | ((with_reducible refine grB_lt ?_ _); exact (by first | exact bare0_ints | assumption | exact bVs_bare | exact iVs_bare | exact mVs_bare | (intro v hv; (repeat (rcases List.mem_cons.1 hv with rfl | hv; exact rfl)); cases hv))) | (with_reducible assumption) | refine And.intro ?_ ?_ | exact (by first | exact True.intro | exact ltB_all rfl | exact ltB_ofLb (by first | exact bare0_ints | assumption | exact bVs_bare | exact iVs_bare | exact mVs_bare | (intro v hv; (repeat (rcases List.mem_cons.1 hv with rfl | hv; exact rfl)); cases hv)) | exact ltB_loop rfl rfl | exact hMap _ | exact hMap2 _ | exact grB_lt (by first | exact bare0_ints | assumption | exact bVs_bare | exact iVs_bare | exact mVs_bare | (intro v hv; (repeat (rcases List.mem_cons.1 hv with rfl | hv; exact rfl)); cases hv)) _ | exact ltB_encL | exact ltB_map0 | assumption)))) (fun _ _ => (by (repeat' (first | exact True.intro | rfl | refine And.intro ?_ ?_ | exact (by decide) | exact (by first | exact True.intro | exact hMap _ | exact hMap2 _ | exact grB_lt (by first | exact bare0_ints | assumption | exact bVs_bare | exact iVs_bare | exact mVs_bare | (intro v hv; (repeat (rcases List.mem_cons.1 hv with rfl | hv; exact rfl)); cases hv)) _ | exact ltB_all rfl | exact ltB_ofLb (by first | exact bare0_ints | assumption | exact bVs_bare | exact iVs_bare | exact mVs_bare | (intro v hv; (repeat (rcases List.mem_cons.1 hv with rfl | hv; exact rfl)); cases hv)) | exact ltB_loop rfl rfl | exact ltB_encL | exact ltB_map0 | assumption))))) (fun _ _ => (by (repeat' (first | exact True.intro | rfl | refine And.intro ?_ ?_ | exact (by decide) | exact (by first | exact True.intro | exact hMap _ | exact hMap2 _ | exact grB_lt (by first | exact bare0_ints | assumption | exact bVs_bare | exact iVs_bare | exact mVs_bare | (intro v hv; (repeat (rcases List.mem_cons.1 hv with rfl | hv; exact rfl)); cases hv)) _ | exact ltB_all rfl | exact ltB_ofLb (by first | exact bare0_ints | assumption | exact bVs_bare | exact iVs_bare | exact mVs_bare | (intro v hv; (repeat (rcases List.mem_cons.1 hv with rfl | hv; exact rfl)); cases hv)) | exact ltB_loop rfl rfl | exact ltB_encL | exact ltB_map0 | assumption))))) (fun _ _ => (by (repeat' (first | exact True.intro | rfl | refine And.intro ?_ ?_)))) rfl
        rintro i ⟨h1, hP⟩
        refine WpR.of_vc ?_
        cases hx : D[i]? with
        | some x =>
          have hlt := (List.getElem?_eq_some_iff.1 hx).1
          rw [drop_at hx] at hP
          unfold wi at hP
          rw [List.all_cons] at hP
          have hQ : wi 0 3 D = (decide (0 ≤ x ∧ x ≤ 3) && wi 0 3 (D.drop (i + 1))) := hP
          (conv => whnf); (repeat' (first | ((with_reducible refine ifb_mk (fun hc => ?_) (fun hc => ?_)) <;> ((try simp only [decide_eq_true_eq, decide_eq_false_iff_not, Bool.not_eq_true', Bool.not_eq_false', Int.not_lt, Int.not_le, ne_eq, Decidable.not_not, beq_iff_eq, List.cons.injEq, and_true] at hc); (first | (exfalso; omega) | conv => whnf))) | ((with_reducible refine And.intro True.intro ?_); conv => whnf) | ((with_reducible refine grd_get ?_); refine som_mk (a := ?_) ?hh ?_; (case hh => exact iGet hx); conv => whnf) | ((with_reducible refine And.intro ?hh ?_); (case hh => (unfold InR; (try dsimp only); omega)); conv => whnf) | ((with_reducible refine And.intro ?hh ?_); (case hh => ((try dsimp only); omega)); conv => whnf) | ((with_reducible refine And.intro ?hh ?_); (case hh => ((conv => whnf); (repeat' (first | exact True.intro | rfl | refine And.intro ?_ ?_)); done)); conv => whnf) | fail))
          · (refine ⟨[], ?_, rfl, rfl, trivial, (by (repeat' (first | exact True.intro | rfl | refine And.intro ?_ ?_)))⟩; simp only [renV, renL]; rw [hQ, decide_eq_false (by omega)]; rfl)
          · (refine ⟨[], ?_, rfl, rfl, trivial, (by (repeat' (first | exact True.intro | rfl | refine And.intro ?_ ?_)))⟩; simp only [renV, renL]; rw [hQ, decide_eq_false (by omega)]; rfl)
          · rw [decide_eq_true (by omega), Bool.true_and] at hQ
            exact ⟨i + 1, [], by omega, ⟨by omega, hQ⟩, ⟨rfl, rfl, (by (repeat' (first | exact True.intro | rfl | refine And.intro ?_ ?_))), (by (repeat' (first | exact True.intro | rfl | refine And.intro ?_ ?_))), (by (repeat' (first | exact True.intro | rfl | refine And.intro ?_ ?_))), (by (repeat' (first | exact True.intro | exact Or.inl rfl | refine And.intro ?_ ?_ | refine Or.inr ⟨_, rfl, ?_⟩ | exact SubQ.same (n := 1000) (Y := []) (fun _ _ _ => rfl) (by first | exact True.intro | exact ltB_all rfl | exact ltB_ofLb (by first | exact bare0_ints | assumption | exact bVs_bare | exact iVs_bare | exact mVs_bare | (intro v hv; (repeat (rcases List.mem_cons.1 hv with rfl | hv; exact rfl)); cases hv)) | exact ltB_loop rfl rfl | exact hMap _ | exact hMap2 _ | exact grB_lt (by first | exact bare0_ints | assumption | exact bVs_bare | exact iVs_bare | exact mVs_bare | (intro v hv; (repeat (rcases List.mem_cons.1 hv with rfl | hv; exact rfl)); cases hv)) _ | exact ltB_encL | exact ltB_map0 | assumption) (avB_nil _) rfl | exact SubQ.ofL (by first | rfl | simp) (by first | exact bare0_ints | assumption | exact bVs_bare | exact iVs_bare | exact mVs_bare | (intro v hv; (repeat (rcases List.mem_cons.1 hv with rfl | hv; exact rfl)); cases hv)) (by first | exact Or.inl rfl | exact Or.inr rfl) | exact SubQ.fin (by (conv => whnf); (repeat' (first | exact True.intro | rfl | refine And.intro ?_ ?_)); done) (fun h => h) (by first | exact Or.inl rfl | exact Or.inr rfl)))), rfl, rfl⟩⟩
        | none =>
          have hlen : D.length ≤ i := by simpa using hx
          (conv => whnf); (repeat' (first | ((with_reducible refine ifb_mk (fun hc => ?_) (fun hc => ?_)) <;> ((try simp only [decide_eq_true_eq, decide_eq_false_iff_not, Bool.not_eq_true', Bool.not_eq_false', Int.not_lt, Int.not_le, ne_eq, Decidable.not_not, beq_iff_eq, List.cons.injEq, and_true] at hc); (first | (exfalso; omega) | conv => whnf))) | ((with_reducible refine And.intro True.intro ?_); conv => whnf) | ((with_reducible refine And.intro ?hh ?_); (case hh => (unfold InR; (try dsimp only); omega)); conv => whnf) | ((with_reducible refine And.intro ?hh ?_); (case hh => ((try dsimp only); omega)); conv => whnf) | ((with_reducible refine And.intro ?hh ?_); (case hh => ((conv => whnf); (repeat' (first | exact True.intro | rfl | refine And.intro ?_ ?_)); done)); conv => whnf) | fail))
          have e : wi 0 3 D = true := by rw [hP, List.drop_eq_nil_of_le hlen]; rfl
          (refine ⟨[], ?_, rfl, rfl, trivial, (by (repeat' (first | exact True.intro | rfl | refine And.intro ?_ ?_)))⟩; simp only [renV, renL]; rw [e]; rfl)
  · unfold ckP
    rw [if_neg hn]
    cases hsv with
    | nil h0 => (conv => whnf); (repeat' (first | ((with_reducible refine ifb_mk (fun hc => ?_) (fun hc => ?_)) <;> ((try simp only [decide_eq_true_eq, decide_eq_false_iff_not, Bool.not_eq_true', Bool.not_eq_false', Int.not_lt, Int.not_le, ne_eq, Decidable.not_not, beq_iff_eq, List.cons.injEq, and_true] at hc); (first | (exfalso; omega) | conv => whnf))) | ((with_reducible refine And.intro True.intro ?_); conv => whnf) | ((with_reducible refine And.intro ?hh ?_); (case hh => (unfold InR; (try dsimp only); omega)); conv => whnf) | ((with_reducible refine And.intro ?hh ?_); (case hh => ((try dsimp only); omega)); conv => whnf) | ((with_reducible refine And.intro ?hh ?_); (case hh => ((conv => whnf); (repeat' (first | exact True.intro | rfl | refine And.intro ?_ ?_)); done)); conv => whnf) | fail)); all_goals first | (refine ⟨[], ?_, rfl, rfl, trivial, (by (repeat' (first | exact True.intro | rfl | refine And.intro ?_ ?_)))⟩; simp only [renV, renL]; (first | done | rfl | simp | grind)) | (exfalso; omega)
    | @sl cap ex => (conv => whnf); (repeat' (first | ((with_reducible refine ifb_mk (fun hc => ?_) (fun hc => ?_)) <;> ((try simp only [decide_eq_true_eq, decide_eq_false_iff_not, Bool.not_eq_true', Bool.not_eq_false', Int.not_lt, Int.not_le, ne_eq, Decidable.not_not, beq_iff_eq, List.cons.injEq, and_true] at hc); (first | (exfalso; omega) | conv => whnf))) | ((with_reducible refine And.intro True.intro ?_); conv => whnf) | ((with_reducible refine And.intro ?hh ?_); (case hh => (unfold InR; (try dsimp only); omega)); conv => whnf) | ((with_reducible refine And.intro ?hh ?_); (case hh => ((try dsimp only); omega)); conv => whnf) | ((with_reducible refine And.intro ?hh ?_); (case hh => ((conv => whnf); (repeat' (first | exact True.intro | rfl | refine And.intro ?_ ?_)); done)); conv => whnf) | fail)); all_goals first | (refine ⟨[], ?_, rfl, rfl, trivial, (by (repeat' (first | exact True.intro | rfl | refine And.intro ?_ ?_)))⟩; simp only [renV, renL]; (first | done | rfl | simp | grind)) | (exfalso; omega)
end Go.Proofs.P

namespace Go.Proofs.P
open Go.As
set_option maxRecDepth 20000
set_option linter.unusedVariables false
set_option linter.unusedSimpArgs false

/-! ### The reference's moved plate -/

set_option maxHeartbeats 2000000 in
theorem moveOf_ok (h : H) (n m : Nat) (hn : 1 ≤ n ∧ n ≤ 8) (hm : m < 8) (D : List Int) (hD : D.length = n * n) (b o cap : Nat) (ex : Bool) (hs : SlC h (iVs D) D.length (.sl b o D.length cap ex)) :
    CallOk Try.prog 56 [plateV n (.sl b o D.length cap ex), nV m] h (plateV n (.sl h.n 0 D.length D.length true)) (addBs h [.cells (ofL (iVs (movL n m D)) 0) true none]) := by
  obtain ⟨vo, svC, hsv, hca, hvw⟩ := hs.view 0
  have hN : 1 ≤ D.length ∧ D.length ≤ 64 := by
    rw [hD]
    have h1 : 1 * 1 ≤ n * n := Nat.mul_le_mul hn.1 hn.1
    have h2 : n * n ≤ 8 * 8 := Nat.mul_le_mul hn.2 hn.2
    omega
  obtain ⟨cap', ex', rfl⟩ : ∃ cap ex, svC = .sl 0 0 D.length cap ex := by
    cases hsv with
    | nil h0 => omega
    | sl => exact ⟨_, _, rfl⟩
  have hB := @iVs_bare D
  refine CallOk.runN Try.func56 rfl rfl (argsC := [plateV n (.sl 0 0 D.length cap' ex'), .int .i64 m]) (fun N => plateV n (.sl N 0 D.length D.length true)) (fun _ => [.cells (ofL (iVs (movL n m D)) 0) true none]) (Nat.le_of_ble_eq_true rfl) [vo] (.cons (CaL.agg (.cons (.bare rfl) (.cons (hca _ rfl) .nil))) (.cons (.bare rfl) .nil)) (viewMc1 hB hvw)
    (ShV.agg (.cons (.bare rfl) (.cons (.sl (i := 0) (Nat.le_of_ble_eq_true rfl) rfl rfl) .nil))) rfl
    (fun i b hi => by
      match i with
      | 0 => simp at hi; subst hi; exact ⟨_, rfl, rfl, .bare (ofL_bare iVs_bare)⟩
      | i + 1 => simp at hi)
    (WpR.of_vc ?_)
  (conv => whnf); (repeat' (first | ((with_reducible refine ifb_mk (fun hc => ?_) (fun hc => ?_)) <;> ((try simp only [decide_eq_true_eq, decide_eq_false_iff_not, Bool.not_eq_true', Bool.not_eq_false', Int.not_lt, Int.not_le, ne_eq, Decidable.not_not, beq_iff_eq, List.cons.injEq, and_true] at hc); (first | (exfalso; omega) | conv => whnf))) | ((with_reducible refine And.intro True.intro ?_); conv => whnf) | ((with_reducible refine WpR.drawTail (id := 1) mixed 8 [0, 1, 2, 3, 4, 5, 6, 7] [0, 1, 0, 4, 12, 28, 63, 0] ?hh ?hk ?_); (case hh => kernel_rfl); (case hk => kernel_rfl); conv => whnf) | ((with_reducible refine And.intro ?hh ?_); (case hh => (unfold InR; (try dsimp only); omega)); conv => whnf) | ((with_reducible refine And.intro ?hh ?_); (case hh => ((try dsimp only); omega)); conv => whnf) | ((with_reducible refine And.intro ?hh ?_); (case hh => ((conv => whnf); (repeat' (first | exact True.intro | rfl | refine And.intro ?_ ?_)); done)); conv => whnf) | fail))
  have hMap : ∀ i : Nat, ltB 5 (.cells (ofL (iVs (mvS n m D (List.range i))) 0) true none) := fun i => ltB_ofLb iVs_bare
  have hs0 : SubQ (rho []) (.cells (ofL (iVs (mvS n m D (List.range 0))) 0) true none) (.cells (ofL (rep D.length [V.int .i64 0]) 0) true none) := by
    show SubQ (rho []) (.cells (ofL (iVs (mvS n m D [])) 0) true none) _
    rw [mvS_nil]
    exact SubQ.bare (fun i v hv => ⟨hv, by rw [← mvS_nil n m D] at hv; exact ofL_bare iVs_bare i v hv⟩) (fun h => h) (.inl rfl)
  refine WpR.loopD (ι := Nat) [] [1, 2, 4, 5] [3] [] 5 (fun i => [(6, .int .i64 i)]) (fun i => [(3, .cells (ofL (iVs (mvS n m D (List.range i))) 0) true none)]) (fun i => D.length - i) (fun i => i ≤ D.length) ?_ (0) (Nat.zero_le _) [] ⟨rfl, rfl, (by (repeat' (first | exact True.intro | rfl | refine And.intro ?_ ?_))), (by (repeat' (first | exact True.intro | rfl | refine And.intro ?_ ?_))), (by (repeat' (first | exact True.intro | rfl | refine And.intro ?_ ?_))), ⟨.inr ⟨_, rfl, hs0⟩, trivial⟩, rfl, rfl⟩ rfl rfl rfl (fun _ => rfl) (by (repeat' (first | exact True.intro | refine And.intro ?_ ?_ | exact avV_nil _ | rfl))) (by (repeat' (first | exact True.intro | (with_reducible exact avB_nil _) | ((with_reducible refine avB_all ?_); rfl) | ((with_reducible refine avB_ofLb ?_); exact (by first | exact bare0_ints | assumption | exact bVs_bare | exact iVs_bare | exact mVs_bare | (intro v hv; (repeat (rcases List.mem_cons.1 hv with rfl | hv; exact rfl)); cases hv))) | ((with_reducible refine ltB_all ?_); rfl) | ((with_reducible refine ltB_ofLb ?_); exact (by first | exact bare0_ints | assumption | exact bVs_bare | exact iVs_bare | exact mVs_bare | (intro v hv; (repeat (rcases List.mem_cons.1 hv with rfl | hv; exact rfl)); cases hv))) | ((with_reducible refine ltB_loop ?_ ?_) <;> rfl) | (with_reducible exact hMap _) | (with_reducible exact hMap2 _) | (with_reducible exact ltB_encL) | (with_reducible exact ltB_map0) | ((with_reducible refine grB_lt ?_ _); exact (by first | exact bare0_ints | assumption | exact bVs_bare | exact iVs_bare | exact mVs_bare | (intro v hv; (repeat (rcases List.mem_cons.1 hv with rfl | hv; exact rfl)); cases hv))) | (with_reducible assumption) | refine And.intro ?_ ?_ | exact (by first | exact True.intro | exact ltB_all rfl | exact ltB_ofLb (by first | exact bare0_ints | assumption | exact bVs_bare | exact iVs_bare | exact mVs_bare | (intro v hv; (repeat (rcases List.mem_cons.1 hv with rfl | hv; exact rfl)); cases hv)) | exact ltB_loop rfl rfl | exact hMap _ | exact hMap2 _ | exact grB_lt (by first | exact bare0_ints | assumption | exact bVs_bare | exact iVs_bare | exact mVs_bare | (intro v hv; (repeat (rcases List.mem_cons.1 hv with rfl | hv; exact rfl)); cases hv)) _ | exact ltB_encL | exact ltB_map0 | assumption)))) (fun _ _ => (by (repeat' (first | exact True.intro | rfl | refine And.intro ?_ ?_ | exact (by decide) | exact (by first | exact True.intro | exact hMap _ | exact hMap2 _ | exact grB_lt (by first | exact bare0_ints | assumption | exact bVs_bare | exact iVs_bare | exact mVs_bare | (intro v hv; (repeat (rcases List.mem_cons.1 hv with rfl | hv; exact rfl)); cases hv)) _ | exact ltB_all rfl | exact ltB_ofLb (by first | exact bare0_ints | assumption | exact bVs_bare | exact iVs_bare | exact mVs_bare | (intro v hv; (repeat (rcases List.mem_cons.1 hv with rfl | hv; exact rfl)); cases hv)) | exact ltB_loop rfl rfl | exact ltB_encL | exact ltB_map0 | assumption))))) (fun _ _ => (by (repeat' (first | exact True.intro | rfl | refine And.intro ?_ ?_ | exact (by decide) | exact (by first | exact True.intro | exact hMap _ | exact hMap2 _ | exact grB_lt (by first | exact bare0_ints | assumption | exact bVs_bare | exact iVs_bare | exact mVs_bare | (intro v hv; (repeat (rcases List.mem_cons.1 hv with rfl | hv; exact rfl)); cases hv)) _ | exact ltB_all rfl | exact ltB_ofLb (by first | exact bare0_ints | assumption | exact bVs_bare | exact iVs_bare | exact mVs_bare | (intro v hv; (repeat (rcases List.mem_cons.1 hv with rfl | hv; exact rfl)); cases hv)) | exact ltB_loop rfl rfl | exact ltB_encL | exact ltB_map0 | assumption))))) (fun _ _ => (by (repeat' (first | exact True.intro | rfl | refine And.intro ?_ ?_)))) rfl
  rintro q j1
  refine WpR.of_vc ?_
  cases hx : D[q]? with
  | some x =>
    have hqr := (List.getElem?_eq_some_iff.1 hx).1
    have hn0 : 0 < n := hn.1
    have hr1 : q / n < n := by rw [Nat.div_lt_iff_lt_mul hn0]; omega
    have hr2 : q % n < n := Nat.mod_lt _ hn0
    have hml := mvN_lt (n := n) (m := m) (p := (q / n, q % n)) hr1 hr2
    have hqf := sg_facts hn.2 hm (show q < n * n by omega)
    obtain ⟨r, hr⟩ : ∃ r, (mvN n m (q / n, q % n)).1 = r := ⟨_, rfl⟩
    obtain ⟨c, hc⟩ : ∃ c, (mvN n m (q / n, q % n)).2 = c := ⟨_, rfl⟩
    have kT : ∀ h', CallOk Try.prog 96 [.int .i64 n, .int .i64 m, .int .i64 ((q : Int).tdiv n), .int .i64 ((q : Int).tmod n)] h' (.tup [.int .i64 (r : Int), .int .i64 (c : Int)]) h' := fun h' => by
      have := to_ok h' n m (q / n) (q % n) hn.2 hm hr1 hr2
      rw [hr, hc] at this
      exact this
    rw [hr, hc] at hml
    obtain ⟨s, hsE⟩ : ∃ s, sgN n m q = s := ⟨_, rfl⟩
    have hsE' : r * n + c = s := by rw [← hsE, ← hr, ← hc]; rfl
    have hsl : s < D.length := by rw [← hsE, hD]; exact hqf.2.2
    have ⟨b1, b2⟩ := mul_lt hn.2 hml.1 hml.2
    have e1 : ((r * n : Nat) : Int) = (r : Int) * n := by simp
    have e2 : (s : Int) = (r : Int) * n + c := by rw [← hsE']; simp
    have i1 : InR ((q : Int).tdiv n) := by
      rw [tdiv_nat]
      have := Nat.div_le_self q n
      generalize q / n = z at *
      unfold InR; omega
    have i2 : InR ((q : Int).tmod n) := by
      rw [tmod_nat]
      have := Nat.mod_le q n
      generalize q % n = z at *
      unfold InR; omega
    have i3 : InR ((r : Int) * n) := by rw [← e1]; unfold InR; omega
    have i4 : InR ((r : Int) * n + c) := by rw [← e2]; unfold InR; omega
    have i5 : 0 ≤ (r : Int) * n + c := by rw [← e2]; omega
    have i6 : (r : Int) * n + c < (D.length : Int) := by rw [← e2]; omega
    obtain ⟨u, hu⟩ : ∃ u, (iVs (mvS n m D (List.range q)))[s]? = some u := ⟨_, List.getElem?_eq_getElem (by unfold iVs; rw [List.length_map, mvS_len]; exact hsl)⟩
    have hput : ∀ v, putN [v] (ofL (iVs (mvS n m D (List.range q))) 0) (0 + ((r : Int) * n + c).toNat * 1) = some ((ofL (iVs (mvS n m D (List.range q))) 0).set s v) := fun v => by
      rw [← e2, show 0 + (s : Int).toNat * 1 = s from by simp]
      exact putN_one (get_ofL0 hu)
    have hset : SubQ (rho []) (.cells (ofL (iVs (mvS n m D (List.range (q + 1)))) 0) true none) (.cells ((ofL (iVs (mvS n m D (List.range q))) 0).set s (.int .i64 x)) true none) := by
      have e : iVs (mvS n m D (List.range (q + 1))) = (iVs (mvS n m D (List.range q))).set s (.int .i64 x) := by
        rw [List.range_succ, mvS_step hn.2 hm hD hqr, hsE, getD_at hx]; unfold iVs; rw [List.map_set]
      refine SubQ.bare (fun i v hv => ⟨?_, ofL_bare iVs_bare i v hv⟩) (fun h => h) (.inl rfl)
      rw [e] at hv
      rw [ofL_set_get (by unfold iVs; rw [List.length_map, mvS_len]; exact hsl)]
      exact hv
    (conv => whnf); (repeat' (first | ((with_reducible refine ifb_mk (fun hc => ?_) (fun hc => ?_)) <;> ((try simp only [decide_eq_true_eq, decide_eq_false_iff_not, Bool.not_eq_true', Bool.not_eq_false', Int.not_lt, Int.not_le, ne_eq, Decidable.not_not, beq_iff_eq, List.cons.injEq, and_true] at hc); (first | (exfalso; omega) | conv => whnf))) | ((with_reducible refine And.intro True.intro ?_); conv => whnf) | ((with_reducible refine grd_and ?_); refine And.intro (i1) ?_; conv => whnf) | ((with_reducible refine grd_and ?_); refine And.intro (i2) ?_; conv => whnf) | ((with_reducible refine grd_and ?_); refine And.intro (i3) ?_; conv => whnf) | ((with_reducible refine grd_and ?_); refine And.intro (i4) ?_; conv => whnf) | ((with_reducible refine grd_and ?_); refine And.intro (i5) ?_; conv => whnf) | ((with_reducible refine grd_and ?_); refine And.intro (i6) ?_; conv => whnf) | ((with_reducible refine WpR.draw (id := 5) mixed [0, 1, 2, 3, 4, 5, 6, 7, 8, 9, 10, 11, 12, 13, 14, 15, 16] [0, 1, 0, 0, 0, 16, 56, 0, 0, 256, 896, 2047, 4095, 8191, 8191, 16383, 65535] ?hh ?_); (case hh => kernel_rfl); conv => whnf) | ((with_reducible refine WpR.drawTail (id := 6) mixed 13 [0, 1, 2, 3, 4, 5, 6, 7, 8, 9, 10, 11, 12] [0, 1, 0, 0, 8, 28, 0, 124, 0, 256, 0, 1792, 3840] ?hh ?hk ?_); (case hh => kernel_rfl); (case hk => kernel_rfl); conv => whnf) | ((with_reducible refine grd_ex ?_); refine ex_ok (kT _) ?_; conv => whnf) | ((with_reducible refine grd_get ?_); refine som_mk (a := ?_) ?hh ?_; (case hh => exact iGet hx); conv => whnf) | ((with_reducible refine grd_putN ?_); refine som_mk (a := ?_) ?hh ?_; (case hh => exact hput _); conv => whnf) | ((with_reducible refine And.intro ?hh ?_); (case hh => (unfold InR; (try dsimp only); omega)); conv => whnf) | ((with_reducible refine And.intro ?hh ?_); (case hh => ((try dsimp only); omega)); conv => whnf) | ((with_reducible refine And.intro ?hh ?_); (case hh => ((conv => whnf); (repeat' (first | exact True.intro | rfl | refine And.intro ?_ ?_)); done)); conv => whnf) | fail))
    exact ⟨q + 1, [], by omega, by omega, ⟨rfl, rfl, (by (repeat' (first | exact True.intro | rfl | refine And.intro ?_ ?_))), (by (repeat' (first | exact True.intro | rfl | refine And.intro ?_ ?_))), (by (repeat' (first | exact True.intro | rfl | refine And.intro ?_ ?_))), ⟨.inr ⟨_, rfl, hset⟩, trivial⟩, rfl, rfl⟩⟩
  | none =>
    have hlen : D.length ≤ q := by simpa using hx
    have hi : q = D.length := by omega
    subst hi
    have hend : mvS n m D (List.range D.length) = movL n m D := mvS_end hn.2 hm hD (fun k hk => (List.mem_filter.1 hk).1)
    rw [hend]
    (conv => whnf); (repeat' (first | ((with_reducible refine ifb_mk (fun hc => ?_) (fun hc => ?_)) <;> ((try simp only [decide_eq_true_eq, decide_eq_false_iff_not, Bool.not_eq_true', Bool.not_eq_false', Int.not_lt, Int.not_le, ne_eq, Decidable.not_not, beq_iff_eq, List.cons.injEq, and_true] at hc); (first | (exfalso; omega) | conv => whnf))) | ((with_reducible refine And.intro True.intro ?_); conv => whnf) | ((with_reducible refine And.intro ?hh ?_); (case hh => (unfold InR; (try dsimp only); omega)); conv => whnf) | ((with_reducible refine And.intro ?hh ?_); (case hh => ((try dsimp only); omega)); conv => whnf) | ((with_reducible refine And.intro ?hh ?_); (case hh => ((conv => whnf); (repeat' (first | exact True.intro | rfl | refine And.intro ?_ ?_)); done)); conv => whnf) | fail))
    exact ⟨[3], rfl, rfl, rfl, ⟨⟨_, rfl, rfl, SubQ.ofL rfl iVs_bare (.inl rfl)⟩, ltB_ofLb iVs_bare, rfl, trivial⟩, (by (repeat' (first | exact True.intro | rfl | refine And.intro ?_ ?_)))⟩
end Go.Proofs.P

namespace Go.Proofs.P
open Go.As
set_option maxRecDepth 20000
set_option linter.unusedVariables false
set_option linter.unusedSimpArgs false

theorem tableFor_new {X : List Nat} {K : V → H → Prop} (h : H) (n : Nat) (hn : 1 ≤ n ∧ n ≤ 8) (D : List Int) (hD : D.length = n * n) (hw : wi 0 3 D = true) (b o cap : Nat) (ex : Bool) (hs : SlC h (iVs D) D.length (.sl b o D.length cap ex))
    (hK : addNP h (fun _ => [.map (esP n D (nzL D)) D.length]) fun N h' => K (.tup [tabV n (.sl b o D.length cap ex) N, .int .i64 0]) h') : CallW Try.prog X 61 [plateV n (.sl b o D.length cap ex)] h K :=
  CallW.of_new (vC := fun N => .tup [tabV n (.sl b o D.length cap ex) N, .int .i64 0]) (news := fun _ => [.map (esP n D (nzL D)) D.length]) (tableFor_ok h n hn D hD hw b o cap ex hs) hK
theorem moved_new {X : List Nat} {K : V → H → Prop} (h : H) (n m : Nat) (hn : 1 ≤ n ∧ n ≤ 8) (hm : m < 8) (D : List Int) (hD : D.length = n * n) (l : List V) (hl : ∀ v ∈ l, bare0 v = true) (b o cap : Nat) (ex : Bool) (j : Nat) (hs : SlC h l D.length (.sl b o D.length cap ex)) (hj : h.get j = some (.map (esP n D (nzL D)) D.length))
    (hK : addNP h (fun _ => [.cells (ofL (iVs (movL n m D)) 0) true none]) fun N h' => K (plateV n (.sl N 0 D.length D.length true)) h') : CallW Try.prog X 63 [tabV n (.sl b o D.length cap ex) j, nV m] h K :=
  CallW.of_new (vC := fun N => plateV n (.sl N 0 D.length D.length true)) (news := fun _ => [.cells (ofL (iVs (movL n m D)) 0) true none]) (moved_ok h n m hn hm D hD l hl b o cap ex hs j hj) hK
theorem moveOf_new {X : List Nat} {K : V → H → Prop} (h : H) (n m : Nat) (hn : 1 ≤ n ∧ n ≤ 8) (hm : m < 8) (D : List Int) (hD : D.length = n * n) (b o cap : Nat) (ex : Bool) (hs : SlC h (iVs D) D.length (.sl b o D.length cap ex))
    (hK : addNP h (fun _ => [.cells (ofL (iVs (movL n m D)) 0) true none]) fun N h' => K (plateV n (.sl N 0 D.length D.length true)) h') : CallW Try.prog X 56 [plateV n (.sl b o D.length cap ex), nV m] h K :=
  CallW.of_new (vC := fun N => plateV n (.sl N 0 D.length D.length true)) (news := fun _ => [.cells (ofL (iVs (movL n m D)) 0) true none]) (moveOf_ok h n m hn hm D hD b o cap ex hs) hK

theorem tableForE_ok (h : H) (n : Int) (D : List Int) (hl : D.length ≤ 9223372036854775807) (he : ckP n D ≠ 0) (dv : V) (hs : SlC h (iVs D) D.length dv) :
    CallOk Try.prog 61 [plateV n dv] h (.tup [.agg [.int .i64 0, .nils, .nilm], .int .i64 (ckP n D)]) h := by
  obtain ⟨vo, svC, hsv, hca, hvw⟩ := hs.view 0
  have kC := fun h' dv hs' => checkPlate_ok h' n D dv hl hs'
  generalize ckP n D = e at he kC
  refine CallOk.run Try.func61 rfl rfl (argsC := [plateV n svC]) (Nat.le_of_ble_eq_true rfl) [vo] (.cons (CaL.agg (.cons (.bare rfl) (.cons (hca _ rfl) .nil))) .nil) (viewMc1 iVs_bare hvw) rfl (WpR.of_vc ?_)
  cases hsv
  all_goals
    (conv => whnf); (repeat' (first | ((with_reducible refine ifb_mk (fun hc => ?_) (fun hc => ?_)) <;> ((try simp only [decide_eq_true_eq, decide_eq_false_iff_not, Bool.not_eq_true', Bool.not_eq_false', Int.not_lt, Int.not_le, ne_eq, Decidable.not_not, beq_iff_eq, List.cons.injEq, and_true] at hc); (first | (exfalso; omega) | conv => whnf))) | ((with_reducible refine And.intro True.intro ?_); conv => whnf) | ((with_reducible refine CallX.all ?_); refine CallW.of_ok (kC _ _ (by first | exact SlC.own rfl | exact iNil (by omega))) ?_; conv => whnf) | ((with_reducible refine And.intro ?hh ?_); (case hh => (unfold InR; (try dsimp only); omega)); conv => whnf) | ((with_reducible refine And.intro ?hh ?_); (case hh => ((try dsimp only); omega)); conv => whnf) | ((with_reducible refine And.intro ?hh ?_); (case hh => ((conv => whnf); (repeat' (first | exact True.intro | rfl | refine And.intro ?_ ?_)); done)); conv => whnf) | fail))
    all_goals first | (refine ⟨[], ?_, rfl, rfl, trivial, (by (repeat' (first | exact True.intro | rfl | refine And.intro ?_ ?_)))⟩; simp only [renV, renL]; (first | done | rfl | simp | grind)) | exact absurd (by assumption) he

/-- What Move answers: the error of the plate, or that of the motion. -/
def mvE (n : Int) (D : List Int) (m : Int) : Int := if ckP n D = 0 then (if 0 ≤ m ∧ m ≤ 7 then 0 else 2) else ckP n D
def zP : V := .agg [.int .i64 0, .nils]
theorem ck_valid {n : Int} {D : List Int} (h : ckP n D = 0) : ∃ k : Nat, n = k ∧ (1 ≤ k ∧ k ≤ 8) ∧ D.length = k * k ∧ wi 0 3 D = true := by
  unfold ckP at h
  split at h
  · rename_i hn
    split at h
    · rename_i hl
      split at h
      · rename_i hw
        obtain ⟨k, rfl⟩ : ∃ k : Nat, n = k := ⟨n.toNat, by omega⟩
        exact ⟨k, rfl, by omega, by exact_mod_cast hl, hw⟩
      · cases h
    · cases h
  · cases h
theorem ck_range (n : Int) (D : List Int) : 0 ≤ ckP n D ∧ ckP n D ≤ 15 := by
  unfold ckP
  split
  · split
    · split <;> decide
    · decide
  · decide

theorem moveE_ok (h : H) (n m : Int) (D : List Int) (hl : D.length ≤ 9223372036854775807) (he : mvE n D m ≠ 0) (dv : V) (hs : SlC h (iVs D) D.length dv) :
    CallOk Try.prog 19 [plateV n dv, .int .i64 m] h (.tup [zP, .int .i64 (mvE n D m)]) h := by
  obtain ⟨vo, svC, hsv, hca, hvw⟩ := hs.view 0
  refine CallOk.run Try.func19 rfl rfl (argsC := [plateV n svC, .int .i64 m]) (Nat.le_of_ble_eq_true rfl) [vo] (.cons (CaL.agg (.cons (.bare rfl) (.cons (hca _ rfl) .nil))) (.cons (.bare rfl) .nil)) (viewMc1 iVs_bare hvw) rfl (WpR.of_vc ?_)
  unfold mvE at he ⊢
  by_cases hc0 : ckP n D = 0
  · rw [if_pos hc0] at he ⊢
    by_cases hm : 0 ≤ m ∧ m ≤ 7
    · rw [if_pos hm] at he; exact absurd rfl he
    · rw [if_neg hm]
      have kM := fun h' sv hs => areMotions1_ok h' m sv hs
      rw [decide_eq_false hm] at kM
      obtain ⟨k, rfl, hk, hD, hw⟩ := ck_valid hc0
      cases hsv with
      | nil h0 => exfalso; rw [hD] at h0; have := Nat.mul_le_mul hk.1 hk.1; omega
      | @sl cap ex =>
        (conv => whnf); (repeat' (first | ((with_reducible refine ifb_mk (fun hc => ?_) (fun hc => ?_)) <;> ((try simp only [decide_eq_true_eq, decide_eq_false_iff_not, Bool.not_eq_true', Bool.not_eq_false', Int.not_lt, Int.not_le, ne_eq, Decidable.not_not, beq_iff_eq, List.cons.injEq, and_true] at hc); (first | (exfalso; omega) | conv => whnf))) | ((with_reducible refine And.intro True.intro ?_); conv => whnf) | ((with_reducible refine CallX.all ?_); refine tableFor_new _ k hk D hD hw 0 0 cap ex (SlC.own rfl) ?_; conv => whnf) | ((with_reducible refine CallX.all ?_); refine CallW.of_ok (kM _ _ (SlC.own rfl)) ?_; conv => whnf) | ((with_reducible refine And.intro ?hh ?_); (case hh => (unfold InR; (try dsimp only); omega)); conv => whnf) | ((with_reducible refine And.intro ?hh ?_); (case hh => ((try dsimp only); omega)); conv => whnf) | ((with_reducible refine And.intro ?hh ?_); (case hh => ((conv => whnf); (repeat' (first | exact True.intro | rfl | refine And.intro ?_ ?_)); done)); conv => whnf) | fail))
        (refine ⟨[], ?_, rfl, rfl, trivial, (by (repeat' (first | exact True.intro | rfl | refine And.intro ?_ ?_)))⟩; simp only [renV, renL]; (first | done | rfl | simp | grind))
  · rw [if_neg hc0]
    have kE := fun h' dv hs => tableForE_ok h' n D hl hc0 dv hs
    generalize ckP n D = e at *
    cases hsv
    all_goals
      (conv => whnf); (repeat' (first | ((with_reducible refine ifb_mk (fun hc => ?_) (fun hc => ?_)) <;> ((try simp only [decide_eq_true_eq, decide_eq_false_iff_not, Bool.not_eq_true', Bool.not_eq_false', Int.not_lt, Int.not_le, ne_eq, Decidable.not_not, beq_iff_eq, List.cons.injEq, and_true] at hc); (first | (exfalso; omega) | conv => whnf))) | ((with_reducible refine And.intro True.intro ?_); conv => whnf) | ((with_reducible refine CallX.all ?_); refine CallW.of_ok (kE _ _ (by first | exact SlC.own rfl | exact iNil (by omega))) ?_; conv => whnf) | ((with_reducible refine And.intro ?hh ?_); (case hh => (unfold InR; (try dsimp only); omega)); conv => whnf) | ((with_reducible refine And.intro ?hh ?_); (case hh => ((try dsimp only); omega)); conv => whnf) | ((with_reducible refine And.intro ?hh ?_); (case hh => ((conv => whnf); (repeat' (first | exact True.intro | rfl | refine And.intro ?_ ?_)); done)); conv => whnf) | fail))
      all_goals first | (refine ⟨[], ?_, rfl, rfl, trivial, (by (repeat' (first | exact True.intro | rfl | refine And.intro ?_ ?_)))⟩; simp only [renV, renL]; (first | done | rfl | simp | grind)) | exact absurd (by assumption) hc0
theorem moveP_ok (h : H) (n m : Nat) (hn : 1 ≤ n ∧ n ≤ 8) (hm : m < 8) (D : List Int) (hD : D.length = n * n) (hw : wi 0 3 D = true) (b o cap : Nat) (ex : Bool) (hs : SlC h (iVs D) D.length (.sl b o D.length cap ex)) :
    CallOk Try.prog 19 [plateV n (.sl b o D.length cap ex), nV m] h (.tup [plateV n (.sl h.n 0 D.length D.length true), .int .i64 0]) (addBs h [.cells (ofL (iVs (movL n m D)) 0) true none]) := by
  obtain ⟨vo, svC, hsv, hca, hvw⟩ := hs.view 0
  have hN : 1 ≤ D.length := by
    rw [hD]
    exact Nat.mul_le_mul hn.1 hn.1
  obtain ⟨cap', ex', rfl⟩ : ∃ cap ex, svC = .sl 0 0 D.length cap ex := by
    cases hsv with
    | nil h0 => omega
    | sl => exact ⟨_, _, rfl⟩
  have kM := fun h' sv hs => areMotions1_ok h' m sv hs
  rw [decide_eq_true (by omega)] at kM
  refine CallOk.runN Try.func19 rfl rfl (argsC := [plateV n (.sl 0 0 D.length cap' ex'), .int .i64 m]) (fun N => .tup [plateV n (.sl N 0 D.length D.length true), .int .i64 0]) (fun _ => [.cells (ofL (iVs (movL n m D)) 0) true none]) (Nat.le_of_ble_eq_true rfl) [vo] (.cons (CaL.agg (.cons (.bare rfl) (.cons (hca _ rfl) .nil))) (.cons (.bare rfl) .nil)) (viewMc1 iVs_bare hvw)
    (ShV.tup (.cons (ShV.agg (.cons (.bare rfl) (.cons (.sl (i := 0) (Nat.le_of_ble_eq_true rfl) rfl rfl) .nil))) (.cons (.bare rfl) .nil))) rfl
    (fun i b hi => by
      match i with
      | 0 => simp at hi; subst hi; exact ⟨_, rfl, rfl, .bare (ofL_bare iVs_bare)⟩
      | i + 1 => simp at hi)
    (WpR.of_vc ?_)
  (conv => whnf); (repeat' (first | ((with_reducible refine ifb_mk (fun hc => ?_) (fun hc => ?_)) <;> ((try simp only [decide_eq_true_eq, decide_eq_false_iff_not, Bool.not_eq_true', Bool.not_eq_false', Int.not_lt, Int.not_le, ne_eq, Decidable.not_not, beq_iff_eq, List.cons.injEq, and_true] at hc); (first | (exfalso; omega) | conv => whnf))) | ((with_reducible refine And.intro True.intro ?_); conv => whnf) | ((with_reducible refine CallX.all ?_); refine tableFor_new _ n hn D hD hw 0 0 cap' ex' (SlC.own rfl) ?_; conv => whnf) | ((with_reducible refine CallX.all ?_); refine CallW.of_ok (kM _ _ (SlC.own rfl)) ?_; conv => whnf) | ((with_reducible refine CallX.all ?_); refine moved_new _ n m hn hm D hD (iVs D) iVs_bare 0 0 cap' ex' 3 (SlC.own rfl) rfl ?_; conv => whnf) | ((with_reducible refine And.intro ?hh ?_); (case hh => (unfold InR; (try dsimp only); omega)); conv => whnf) | ((with_reducible refine And.intro ?hh ?_); (case hh => ((try dsimp only); omega)); conv => whnf) | ((with_reducible refine And.intro ?hh ?_); (case hh => ((conv => whnf); (repeat' (first | exact True.intro | rfl | refine And.intro ?_ ?_)); done)); conv => whnf) | fail))
  exact ⟨[6], rfl, rfl, rfl, ⟨⟨_, rfl, rfl, SubQ.ofL rfl iVs_bare (.inl rfl)⟩, ltB_ofLb iVs_bare, rfl, trivial⟩, (by (repeat' (first | exact True.intro | rfl | refine And.intro ?_ ?_)))⟩
end Go.Proofs.P

namespace Go.Proofs.P
open Go.As
set_option maxRecDepth 20000
set_option linter.unusedVariables false
set_option linter.unusedSimpArgs false

/-! ### The motions under which a plate stays -/

def stL (n : Nat) (D : List Int) (i : Nat) : List Int := ((List.range i).filter fun m => comB n n m D D).map Int.ofNat
theorem stL_len (n : Nat) (D : List Int) (i : Nat) : (stL n D i).length ≤ i := by
  unfold stL
  rw [List.length_map]
  refine Nat.le_trans (List.length_filter_le _ _) ?_
  simp
theorem stL_succ (n : Nat) (D : List Int) (i : Nat) : stL n D (i + 1) = match comB n n i D D with | true => stL n D i ++ [Int.ofNat i] | false => stL n D i := by
  unfold stL
  rw [List.range_succ, List.filter_append, List.map_append]
  cases h : comB n n i D D <;> simp [h]
theorem iVs_length (l : List Int) : (iVs l).length = l.length * 1 := by unfold iVs; simp
theorem iVs_one (l : List Int) : (iVs l).all one = true := by
  rw [List.all_eq_true]
  intro v hv
  obtain ⟨x, _, rfl⟩ := List.mem_map.1 hv
  rfl
theorem grB_snoc (x : Int) (t : List Int) (k : Int) : grB 1 (iVs ((x :: t) ++ [k])) ((x :: t) ++ [k]).length = .cells (ofL (iVs (x :: t) ++ [.int .i64 k]) 0) true (some (1, (t.length + 1 + 1) * 1)) := by
  have e : iVs ((x :: t) ++ [k]) = iVs (x :: t) ++ [.int .i64 k] := by unfold iVs; rw [List.map_append]; rfl
  have e2 : ((x :: t) ++ [k]).length = t.length + 1 + 1 := by simp
  rw [e2, e]
  rfl
theorem grV_snoc (b : Nat) (x : Int) (t : List Int) (k : Int) : grV b ((x :: t) ++ [k]).length = .sl b 0 (t.length + 1 + 1) (t.length + 1 + 1) false := by
  have e2 : ((x :: t) ++ [k]).length = t.length + 1 + 1 := by simp
  rw [e2]; rfl
noncomputable def growB : List Int → List Blk
  | [] => []
  | x :: l => [.cells (ofL (iVs (x :: l)) 0) true (some (1, (l.length + 1) * 1))]
theorem growSh (vs : Vw) (n k : Nat) (l : List Int) : ShV vs n k (growB l).length (grV n l.length) (grV k l.length) := by
  cases l with
  | nil => exact .bare rfl
  | cons x l => exact .sl (i := 0) (Nat.lt_succ_self 0) rfl rfl
theorem growBs (vs : Vw) (n k : Nat) (l : List Int) (i : Nat) (b : Blk) (h : (growB l)[i]? = some b) : ∃ b', (growB l)[i]? = some b' ∧ b'.wr = true ∧ ShB vs n k (growB l).length b b' := by
  cases l with
  | nil => simp [growB] at h
  | cons x l =>
    cases i with
    | zero => have e : Blk.cells (ofL (iVs (x :: l)) 0) true (some (1, (l.length + 1) * 1)) = b := Option.some.inj h; subst e; exact ⟨_, rfl, rfl, .bare (ofL_bare iVs_bare)⟩
    | succ i => simp [growB] at h

set_option maxHeartbeats 4000000 in
theorem staysP_ok (h : H) (n : Nat) (hn : 1 ≤ n ∧ n ≤ 8) (D : List Int) (hD : D.length = n * n) (hw : wi 0 3 D = true) (b o cap : Nat) (ex : Bool) (hs : SlC h (iVs D) D.length (.sl b o D.length cap ex)) :
    CallOk Try.prog 21 [plateV n (.sl b o D.length cap ex)] h (.tup [grV h.n (stL n D 8).length, .int .i64 0]) (addBs h (growB (stL n D 8))) := by
  obtain ⟨vo, svC, hsv, hca, hvw⟩ := hs.view 0
  have hN : 1 ≤ D.length := by
    rw [hD]
    exact Nat.mul_le_mul hn.1 hn.1
  obtain ⟨cap', ex', rfl⟩ : ∃ cap ex, svC = .sl 0 0 D.length cap ex := by
    cases hsv with
    | nil h0 => omega
    | sl => exact ⟨_, _, rfl⟩
  have hB := @iVs_bare D
  refine CallOk.runN Try.func21 rfl rfl (argsC := [plateV n (.sl 0 0 D.length cap' ex')]) (fun N => .tup [grV N (stL n D 8).length, .int .i64 0]) (fun _ => growB (stL n D 8)) (Nat.le_of_ble_eq_true rfl) [vo] (.cons (CaL.agg (.cons (.bare rfl) (.cons (hca _ rfl) .nil))) .nil) (viewMc1 hB hvw)
    (ShV.tup (.cons (growSh _ _ _ _) (.cons (.bare rfl) .nil))) rfl (growBs _ _ _ _) (WpR.of_vc ?_)
  (conv => whnf); (repeat' (first | ((with_reducible refine ifb_mk (fun hc => ?_) (fun hc => ?_)) <;> ((try simp only [decide_eq_true_eq, decide_eq_false_iff_not, Bool.not_eq_true', Bool.not_eq_false', Int.not_lt, Int.not_le, ne_eq, Decidable.not_not, beq_iff_eq, List.cons.injEq, and_true] at hc); (first | (exfalso; omega) | conv => whnf))) | ((with_reducible refine And.intro True.intro ?_); conv => whnf) | ((with_reducible refine CallX.all ?_); refine tableFor_new _ n hn D hD hw 0 0 cap' ex' (SlC.own rfl) ?_; conv => whnf) | ((with_reducible refine CallX.all (f := 65) ?_); refine CallW.inline Try.func65 rfl rfl (Nat.le_of_ble_eq_true rfl) (WpR.of_vc ?_); conv => whnf) | ((with_reducible refine CallX.all (f := 64) ?_); refine CallW.inline Try.func64 rfl rfl (Nat.le_of_ble_eq_true rfl) (WpR.of_vc ?_); conv => whnf) | ((with_reducible refine CallX.all (f := 100) ?_); refine CallW.inline Try.func100 rfl rfl (Nat.le_of_ble_eq_true rfl) (WpR.of_vc ?_); conv => whnf) | ((with_reducible refine RangeX.all ?_); conv => whnf) | ((with_reducible refine CallW.inline (f := 101) Try.func101 rfl rfl (Nat.le_of_ble_eq_true rfl) (WpR.of_vc ?_)); conv => whnf) | ((with_reducible refine And.intro ?hh ?_); (case hh => (unfold InR; (try dsimp only); omega)); conv => whnf) | ((with_reducible refine And.intro ?hh ?_); (case hh => ((try dsimp only); omega)); conv => whnf) | ((with_reducible refine And.intro ?hh ?_); (case hh => ((conv => whnf); (repeat' (first | exact True.intro | rfl | refine And.intro ?_ ?_)); done)); conv => whnf) | fail))
  have hMap : ∀ l : List Int, ltB 9 (.cells (ofL [grV 8 l.length] 0) true none) := fun l => ltB_ofL (fun v hv => by rw [List.mem_singleton] at hv; subst hv; exact grV_lt rfl _)
  have hMap2 : ∀ l : List Int, ltB 9 (grB 1 (iVs l) l.length) := fun l => grB_lt iVs_bare _
  have hMm : ltB 8 (.map (esP n D (nzL D)) D.length) := ltB_esP
  refine WpR.loopD (ι := Nat × List Int) [] [0, 1] [5, 8] [] 9 (fun p => [(4, .int .i64 p.1)]) (fun p => [(5, .cells (ofL [grV 8 p.2.length] 0) true none), (8, grB 1 (iVs p.2) p.2.length)]) (fun p => 8 - p.1) (fun p => p.1 ≤ 8 ∧ p.2 = stL n D p.1) ?_ ((0, [])) (⟨Nat.zero_le _, rfl⟩) [] ⟨rfl, rfl, (by (repeat' (first | exact True.intro | rfl | refine And.intro ?_ ?_))), (by (repeat' (first | exact True.intro | rfl | refine And.intro ?_ ?_))), (by (repeat' (first | exact True.intro | rfl | refine And.intro ?_ ?_))), (by (repeat' (first | exact True.intro | exact Or.inl rfl | refine And.intro ?_ ?_ | refine Or.inr ⟨_, rfl, ?_⟩ | exact SubQ.same (n := 1000) (Y := []) (fun _ _ _ => rfl) (by first | exact True.intro | exact ltB_all rfl | exact ltB_ofLb (by first | exact bare0_ints | assumption | exact bVs_bare | exact iVs_bare | exact mVs_bare | (intro v hv; (repeat (rcases List.mem_cons.1 hv with rfl | hv; exact rfl)); cases hv)) | exact ltB_loop rfl rfl | exact hMap _ | exact hMap2 _ | exact grB_lt (by first | exact bare0_ints | assumption | exact bVs_bare | exact iVs_bare | exact mVs_bare | (intro v hv; (repeat (rcases List.mem_cons.1 hv with rfl | hv; exact rfl)); cases hv)) _ | exact ltB_encL | exact ltB_map0 | assumption) (avB_nil _) rfl | exact SubQ.ofL (by first | rfl | simp) (by first | exact bare0_ints | assumption | exact bVs_bare | exact iVs_bare | exact mVs_bare | (intro v hv; (repeat (rcases List.mem_cons.1 hv with rfl | hv; exact rfl)); cases hv)) (by first | exact Or.inl rfl | exact Or.inr rfl) | exact SubQ.fin (by (conv => whnf); (repeat' (first | exact True.intro | rfl | refine And.intro ?_ ?_)); done) (fun h => h) (by first | exact Or.inl rfl | exact Or.inr rfl)))), rfl, rfl⟩ rfl rfl rfl (fun _ => rfl) (by (repeat' (first | exact True.intro | refine And.intro ?_ ?_ | exact avV_nil _ | rfl))) (by (repeat' (first | exact True.intro | (with_reducible exact avB_nil _) | ((with_reducible refine avB_all ?_); rfl) | ((with_reducible refine avB_ofLb ?_); exact (by first | exact bare0_ints | assumption | exact bVs_bare | exact iVs_bare | exact mVs_bare | (intro v hv; (repeat (rcases List.mem_cons.1 hv with rfl | hv; exact rfl)); cases hv))) | ((with_reducible refine ltB_all ?_); rfl) | ((with_reducible refine ltB_ofLb ?_); exact (by first | exact bare0_ints | assumption | exact bVs_bare | exact iVs_bare | exact mVs_bare | (intro v hv; (repeat (rcases List.mem_cons.1 hv with rfl | hv; exact rfl)); cases hv))) | ((with_reducible refine ltB_loop ?_ ?_) <;> rfl) | (with_reducible exact hMap _) | (with_reducible exact hMap2 _) | (with_reducible exact ltB_encL) | (with_reducible exact ltB_map0) | ((with_reducible refine grB_lt ?_ _); exact (by first | exact bare0_ints | assumption | exact bVs_bare | exact iVs_bare | exact mVs_bare | (intro v hv; (repeat (rcases List.mem_cons.1 hv with rfl | hv; exact rfl)); cases hv))) | (with_reducible assumption) | refine And.intro ?_ ?_ | exact (by first | exact True.intro | exact ltB_all rfl | exact ltB_ofLb (by first | exact bare0_ints | assumption | exact bVs_bare | exact iVs_bare | exact mVs_bare | (intro v hv; (repeat (rcases List.mem_cons.1 hv with rfl | hv; exact rfl)); cases hv)) | exact ltB_loop rfl rfl | exact hMap _ | exact hMap2 _ | exact grB_lt (by first | exact bare0_ints | assumption | exact bVs_bare | exact iVs_bare | exact mVs_bare | (intro v hv; (repeat (rcases List.mem_cons.1 hv with rfl | hv; exact rfl)); cases hv)) _ | exact ltB_encL | exact ltB_map0 | assumption)))) (fun _ _ => (by (repeat' (first | exact True.intro | rfl | refine And.intro ?_ ?_ | exact (by decide) | exact (by first | exact True.intro | exact hMap _ | exact hMap2 _ | exact grB_lt (by first | exact bare0_ints | assumption | exact bVs_bare | exact iVs_bare | exact mVs_bare | (intro v hv; (repeat (rcases List.mem_cons.1 hv with rfl | hv; exact rfl)); cases hv)) _ | exact ltB_all rfl | exact ltB_ofLb (by first | exact bare0_ints | assumption | exact bVs_bare | exact iVs_bare | exact mVs_bare | (intro v hv; (repeat (rcases List.mem_cons.1 hv with rfl | hv; exact rfl)); cases hv)) | exact ltB_loop rfl rfl | exact ltB_encL | exact ltB_map0 | assumption))))) (fun _ _ => (by (repeat' (first | exact True.intro | rfl | refine And.intro ?_ ?_ | exact (by decide) | exact (by first | exact True.intro | exact hMap _ | exact hMap2 _ | exact grB_lt (by first | exact bare0_ints | assumption | exact bVs_bare | exact iVs_bare | exact mVs_bare | (intro v hv; (repeat (rcases List.mem_cons.1 hv with rfl | hv; exact rfl)); cases hv)) _ | exact ltB_all rfl | exact ltB_ofLb (by first | exact bare0_ints | assumption | exact bVs_bare | exact iVs_bare | exact mVs_bare | (intro v hv; (repeat (rcases List.mem_cons.1 hv with rfl | hv; exact rfl)); cases hv)) | exact ltB_loop rfl rfl | exact ltB_encL | exact ltB_map0 | assumption))))) (fun _ _ => (by (repeat' (first | exact True.intro | rfl | refine And.intro ?_ ?_)))) rfl
  rintro ⟨i, l⟩ ⟨j1, j2⟩
  dsimp only at j1 j2
  refine WpR.of_vc ?_
  by_cases hi : i < 8
  · have kS := fun h' hs' hj' => stays_ok h' n i hn hi D hD (iVs D) iVs_bare 0 0 cap' ex' hs' 2 hj'
    have hs1 := stL_succ n D i
    have hlen := stL_len n D i
    rw [← j2] at hs1 hlen
    cases hcm : comB n n i D D with
    | false =>
      rw [hcm] at kS hs1
      dsimp only at hs1
      cases l with
      | nil =>
        (conv => whnf); (repeat' (first | ((with_reducible refine ifb_mk (fun hc => ?_) (fun hc => ?_)) <;> ((try simp only [decide_eq_true_eq, decide_eq_false_iff_not, Bool.not_eq_true', Bool.not_eq_false', Int.not_lt, Int.not_le, ne_eq, Decidable.not_not, beq_iff_eq, List.cons.injEq, and_true] at hc); (first | (exfalso; omega) | conv => whnf))) | ((with_reducible refine And.intro True.intro ?_); conv => whnf) | ((with_reducible refine CallX.all ?_); refine CallW.of_ok (kS _ (SlC.own rfl) rfl) ?_; conv => whnf) | ((with_reducible refine And.intro ?hh ?_); (case hh => (unfold InR; (try dsimp only); omega)); conv => whnf) | ((with_reducible refine And.intro ?hh ?_); (case hh => ((try dsimp only); omega)); conv => whnf) | ((with_reducible refine And.intro ?hh ?_); (case hh => ((conv => whnf); (repeat' (first | exact True.intro | rfl | refine And.intro ?_ ?_)); done)); conv => whnf) | fail))
        exact ⟨(i + 1, []), [], by dsimp only; omega, ⟨by dsimp only; omega, hs1.symm⟩, ⟨rfl, rfl, (by (repeat' (first | exact True.intro | rfl | refine And.intro ?_ ?_))), (by (repeat' (first | exact True.intro | rfl | refine And.intro ?_ ?_))), (by (repeat' (first | exact True.intro | rfl | refine And.intro ?_ ?_))), (by (repeat' (first | exact True.intro | exact Or.inl rfl | refine And.intro ?_ ?_ | refine Or.inr ⟨_, rfl, ?_⟩ | exact SubQ.same (n := 1000) (Y := []) (fun _ _ _ => rfl) (by first | exact True.intro | exact ltB_all rfl | exact ltB_ofLb (by first | exact bare0_ints | assumption | exact bVs_bare | exact iVs_bare | exact mVs_bare | (intro v hv; (repeat (rcases List.mem_cons.1 hv with rfl | hv; exact rfl)); cases hv)) | exact ltB_loop rfl rfl | exact hMap _ | exact hMap2 _ | exact grB_lt (by first | exact bare0_ints | assumption | exact bVs_bare | exact iVs_bare | exact mVs_bare | (intro v hv; (repeat (rcases List.mem_cons.1 hv with rfl | hv; exact rfl)); cases hv)) _ | exact ltB_encL | exact ltB_map0 | assumption) (avB_nil _) rfl | exact SubQ.ofL (by first | rfl | simp) (by first | exact bare0_ints | assumption | exact bVs_bare | exact iVs_bare | exact mVs_bare | (intro v hv; (repeat (rcases List.mem_cons.1 hv with rfl | hv; exact rfl)); cases hv)) (by first | exact Or.inl rfl | exact Or.inr rfl) | exact SubQ.fin (by (conv => whnf); (repeat' (first | exact True.intro | rfl | refine And.intro ?_ ?_)); done) (fun h => h) (by first | exact Or.inl rfl | exact Or.inr rfl)))), rfl, rfl⟩⟩
      | cons x t =>
        (conv => whnf); (repeat' (first | ((with_reducible refine ifb_mk (fun hc => ?_) (fun hc => ?_)) <;> ((try simp only [decide_eq_true_eq, decide_eq_false_iff_not, Bool.not_eq_true', Bool.not_eq_false', Int.not_lt, Int.not_le, ne_eq, Decidable.not_not, beq_iff_eq, List.cons.injEq, and_true] at hc); (first | (exfalso; omega) | conv => whnf))) | ((with_reducible refine And.intro True.intro ?_); conv => whnf) | ((with_reducible refine CallX.all ?_); refine CallW.of_ok (kS _ (SlC.own rfl) rfl) ?_; conv => whnf) | ((with_reducible refine And.intro ?hh ?_); (case hh => (unfold InR; (try dsimp only); omega)); conv => whnf) | ((with_reducible refine And.intro ?hh ?_); (case hh => ((try dsimp only); omega)); conv => whnf) | ((with_reducible refine And.intro ?hh ?_); (case hh => ((conv => whnf); (repeat' (first | exact True.intro | rfl | refine And.intro ?_ ?_)); done)); conv => whnf) | fail))
        exact ⟨(i + 1, x :: t), [], by dsimp only; omega, ⟨by dsimp only; omega, hs1.symm⟩, ⟨rfl, rfl, (by (repeat' (first | exact True.intro | rfl | refine And.intro ?_ ?_))), (by (repeat' (first | exact True.intro | rfl | refine And.intro ?_ ?_))), (by (repeat' (first | exact True.intro | rfl | refine And.intro ?_ ?_))), (by (repeat' (first | exact True.intro | exact Or.inl rfl | refine And.intro ?_ ?_ | refine Or.inr ⟨_, rfl, ?_⟩ | exact SubQ.same (n := 1000) (Y := []) (fun _ _ _ => rfl) (by first | exact True.intro | exact ltB_all rfl | exact ltB_ofLb (by first | exact bare0_ints | assumption | exact bVs_bare | exact iVs_bare | exact mVs_bare | (intro v hv; (repeat (rcases List.mem_cons.1 hv with rfl | hv; exact rfl)); cases hv)) | exact ltB_loop rfl rfl | exact hMap _ | exact hMap2 _ | exact grB_lt (by first | exact bare0_ints | assumption | exact bVs_bare | exact iVs_bare | exact mVs_bare | (intro v hv; (repeat (rcases List.mem_cons.1 hv with rfl | hv; exact rfl)); cases hv)) _ | exact ltB_encL | exact ltB_map0 | assumption) (avB_nil _) rfl | exact SubQ.ofL (by first | rfl | simp) (by first | exact bare0_ints | assumption | exact bVs_bare | exact iVs_bare | exact mVs_bare | (intro v hv; (repeat (rcases List.mem_cons.1 hv with rfl | hv; exact rfl)); cases hv)) (by first | exact Or.inl rfl | exact Or.inr rfl) | exact SubQ.fin (by (conv => whnf); (repeat' (first | exact True.intro | rfl | refine And.intro ?_ ?_)); done) (fun h => h) (by first | exact Or.inl rfl | exact Or.inr rfl)))), rfl, rfl⟩⟩
    | true =>
      rw [hcm] at kS hs1
      dsimp only at hs1
      cases l with
      | nil =>
        rw [List.nil_append] at hs1
        (conv => whnf); (repeat' (first | ((with_reducible refine ifb_mk (fun hc => ?_) (fun hc => ?_)) <;> ((try simp only [decide_eq_true_eq, decide_eq_false_iff_not, Bool.not_eq_true', Bool.not_eq_false', Int.not_lt, Int.not_le, ne_eq, Decidable.not_not, beq_iff_eq, List.cons.injEq, and_true] at hc); (first | (exfalso; omega) | conv => whnf))) | ((with_reducible refine And.intro True.intro ?_); conv => whnf) | ((with_reducible refine CallX.all ?_); refine CallW.of_ok (kS _ (SlC.own rfl) rfl) ?_; conv => whnf) | ((with_reducible refine And.intro ?hh ?_); (case hh => (unfold InR; (try dsimp only); omega)); conv => whnf) | ((with_reducible refine And.intro ?hh ?_); (case hh => ((try dsimp only); omega)); conv => whnf) | ((with_reducible refine And.intro ?hh ?_); (case hh => ((conv => whnf); (repeat' (first | exact True.intro | rfl | refine And.intro ?_ ?_)); done)); conv => whnf) | fail))
        refine YldX.all ?_
        refine YldW.inline rfl rfl rfl (WpR.of_vc ?_)
        conv => whnf
        refine ⟨rfl, _, rfl, rfl, WpR.of_vc ?_⟩
        (conv => whnf); (repeat' (first | ((with_reducible refine ifb_mk (fun hc => ?_) (fun hc => ?_)) <;> ((try simp only [decide_eq_true_eq, decide_eq_false_iff_not, Bool.not_eq_true', Bool.not_eq_false', Int.not_lt, Int.not_le, ne_eq, Decidable.not_not, beq_iff_eq, List.cons.injEq, and_true] at hc); (first | (exfalso; omega) | conv => whnf))) | ((with_reducible refine And.intro True.intro ?_); conv => whnf) | (refine AppX.nil (n := 1) Nat.zero_lt_one (Nat.le_of_ble_eq_true rfl) ?_; conv => whnf) | ((with_reducible refine And.intro ?hh ?_); (case hh => (unfold InR; (try dsimp only); omega)); conv => whnf) | ((with_reducible refine And.intro ?hh ?_); (case hh => ((try dsimp only); omega)); conv => whnf) | ((with_reducible refine And.intro ?hh ?_); (case hh => ((conv => whnf); (repeat' (first | exact True.intro | rfl | refine And.intro ?_ ?_)); done)); conv => whnf) | fail))
        refine ⟨_, _, rfl, ?_⟩
        (conv => whnf); (repeat' (first | ((with_reducible refine ifb_mk (fun hc => ?_) (fun hc => ?_)) <;> ((try simp only [decide_eq_true_eq, decide_eq_false_iff_not, Bool.not_eq_true', Bool.not_eq_false', Int.not_lt, Int.not_le, ne_eq, Decidable.not_not, beq_iff_eq, List.cons.injEq, and_true] at hc); (first | (exfalso; omega) | conv => whnf))) | ((with_reducible refine And.intro True.intro ?_); conv => whnf) | ((with_reducible refine And.intro ?hh ?_); (case hh => (unfold InR; (try dsimp only); omega)); conv => whnf) | ((with_reducible refine And.intro ?hh ?_); (case hh => ((try dsimp only); omega)); conv => whnf) | ((with_reducible refine And.intro ?hh ?_); (case hh => ((conv => whnf); (repeat' (first | exact True.intro | rfl | refine And.intro ?_ ?_)); done)); conv => whnf) | fail))
        exact ⟨(i + 1, [Int.ofNat i]), [(8, 10)], by dsimp only; omega, ⟨by dsimp only; omega, hs1.symm⟩, ⟨rfl, rfl, (by (repeat' (first | exact True.intro | rfl | refine And.intro ?_ ?_))), (by (repeat' (first | exact True.intro | rfl | refine And.intro ?_ ?_))), (by (repeat' (first | exact True.intro | rfl | refine And.intro ?_ ?_))), (by (repeat' (first | exact True.intro | exact Or.inl rfl | refine And.intro ?_ ?_ | refine Or.inr ⟨_, rfl, ?_⟩ | exact SubQ.same (n := 1000) (Y := []) (fun _ _ _ => rfl) (by first | exact True.intro | exact ltB_all rfl | exact ltB_ofLb (by first | exact bare0_ints | assumption | exact bVs_bare | exact iVs_bare | exact mVs_bare | (intro v hv; (repeat (rcases List.mem_cons.1 hv with rfl | hv; exact rfl)); cases hv)) | exact ltB_loop rfl rfl | exact hMap _ | exact hMap2 _ | exact grB_lt (by first | exact bare0_ints | assumption | exact bVs_bare | exact iVs_bare | exact mVs_bare | (intro v hv; (repeat (rcases List.mem_cons.1 hv with rfl | hv; exact rfl)); cases hv)) _ | exact ltB_encL | exact ltB_map0 | assumption) (avB_nil _) rfl | exact SubQ.ofL (by first | rfl | simp) (by first | exact bare0_ints | assumption | exact bVs_bare | exact iVs_bare | exact mVs_bare | (intro v hv; (repeat (rcases List.mem_cons.1 hv with rfl | hv; exact rfl)); cases hv)) (by first | exact Or.inl rfl | exact Or.inr rfl) | exact SubQ.fin (by (conv => whnf); (repeat' (first | exact True.intro | rfl | refine And.intro ?_ ?_)); done) (fun h => h) (by first | exact Or.inl rfl | exact Or.inr rfl)))), rfl, rfl⟩⟩
      | cons x t =>
        rw [List.length_cons] at hlen
        (conv => whnf); (repeat' (first | ((with_reducible refine ifb_mk (fun hc => ?_) (fun hc => ?_)) <;> ((try simp only [decide_eq_true_eq, decide_eq_false_iff_not, Bool.not_eq_true', Bool.not_eq_false', Int.not_lt, Int.not_le, ne_eq, Decidable.not_not, beq_iff_eq, List.cons.injEq, and_true] at hc); (first | (exfalso; omega) | conv => whnf))) | ((with_reducible refine And.intro True.intro ?_); conv => whnf) | ((with_reducible refine CallX.all ?_); refine CallW.of_ok (kS _ (SlC.own rfl) rfl) ?_; conv => whnf) | ((with_reducible refine And.intro ?hh ?_); (case hh => (unfold InR; (try dsimp only); omega)); conv => whnf) | ((with_reducible refine And.intro ?hh ?_); (case hh => ((try dsimp only); omega)); conv => whnf) | ((with_reducible refine And.intro ?hh ?_); (case hh => ((conv => whnf); (repeat' (first | exact True.intro | rfl | refine And.intro ?_ ?_)); done)); conv => whnf) | fail))
        refine YldX.all ?_
        refine YldW.inline rfl rfl rfl (WpR.of_vc ?_)
        conv => whnf
        refine ⟨rfl, _, rfl, rfl, WpR.of_vc ?_⟩
        (conv => whnf); (repeat' (first | ((with_reducible refine ifb_mk (fun hc => ?_) (fun hc => ?_)) <;> ((try simp only [decide_eq_true_eq, decide_eq_false_iff_not, Bool.not_eq_true', Bool.not_eq_false', Int.not_lt, Int.not_le, ne_eq, Decidable.not_not, beq_iff_eq, List.cons.injEq, and_true] at hc); (first | (exfalso; omega) | conv => whnf))) | ((with_reducible refine And.intro True.intro ?_); conv => whnf) | (refine AppX.own (n := 1) (L := iVs (x :: t)) (len := t.length + 1) rfl (iVs_length (x :: t)) (iVs_one _) Nat.zero_lt_one (by omega) ?_; conv => whnf) | ((with_reducible refine And.intro ?hh ?_); (case hh => (unfold InR; (try dsimp only); omega)); conv => whnf) | ((with_reducible refine And.intro ?hh ?_); (case hh => ((try dsimp only); omega)); conv => whnf) | ((with_reducible refine And.intro ?hh ?_); (case hh => ((conv => whnf); (repeat' (first | exact True.intro | rfl | refine And.intro ?_ ?_)); done)); conv => whnf) | fail))
        refine ⟨_, _, rfl, ?_⟩
        (conv => whnf); (repeat' (first | ((with_reducible refine ifb_mk (fun hc => ?_) (fun hc => ?_)) <;> ((try simp only [decide_eq_true_eq, decide_eq_false_iff_not, Bool.not_eq_true', Bool.not_eq_false', Int.not_lt, Int.not_le, ne_eq, Decidable.not_not, beq_iff_eq, List.cons.injEq, and_true] at hc); (first | (exfalso; omega) | conv => whnf))) | ((with_reducible refine And.intro True.intro ?_); conv => whnf) | ((with_reducible refine And.intro ?hh ?_); (case hh => (unfold InR; (try dsimp only); omega)); conv => whnf) | ((with_reducible refine And.intro ?hh ?_); (case hh => ((try dsimp only); omega)); conv => whnf) | ((with_reducible refine And.intro ?hh ?_); (case hh => ((conv => whnf); (repeat' (first | exact True.intro | rfl | refine And.intro ?_ ?_)); done)); conv => whnf) | fail))
        have hB4 : ∀ v ∈ iVs (x :: t) ++ [.int .i64 (Int.ofNat i)], bare0 v = true := fun v hv => by
          have e : iVs ((x :: t) ++ [Int.ofNat i]) = iVs (x :: t) ++ [.int .i64 (Int.ofNat i)] := by unfold iVs; rw [List.map_append]; rfl
          rw [← e] at hv; exact iVs_bare v hv
        refine ⟨(i + 1, (x :: t) ++ [Int.ofNat i]), [(8, 10)], by dsimp only; omega, ⟨by dsimp only; omega, hs1.symm⟩, ?_⟩
        dsimp only
        rw [grB_snoc, grV_snoc]
        exact ⟨rfl, rfl, (by (repeat' (first | exact True.intro | rfl | refine And.intro ?_ ?_))), (by (repeat' (first | exact True.intro | rfl | refine And.intro ?_ ?_))), (by (repeat' (first | exact True.intro | rfl | refine And.intro ?_ ?_))), (by (repeat' (first | exact True.intro | exact Or.inl rfl | refine And.intro ?_ ?_ | refine Or.inr ⟨_, rfl, ?_⟩ | exact SubQ.same (n := 1000) (Y := []) (fun _ _ _ => rfl) (by first | exact True.intro | exact ltB_all rfl | exact ltB_ofLb (by first | exact bare0_ints | assumption | exact bVs_bare | exact iVs_bare | exact mVs_bare | (intro v hv; (repeat (rcases List.mem_cons.1 hv with rfl | hv; exact rfl)); cases hv)) | exact ltB_loop rfl rfl | exact hMap _ | exact hMap2 _ | exact grB_lt (by first | exact bare0_ints | assumption | exact bVs_bare | exact iVs_bare | exact mVs_bare | (intro v hv; (repeat (rcases List.mem_cons.1 hv with rfl | hv; exact rfl)); cases hv)) _ | exact ltB_encL | exact ltB_map0 | assumption) (avB_nil _) rfl | exact SubQ.ofL (by first | rfl | simp) (by first | exact bare0_ints | assumption | exact bVs_bare | exact iVs_bare | exact mVs_bare | (intro v hv; (repeat (rcases List.mem_cons.1 hv with rfl | hv; exact rfl)); cases hv)) (by first | exact Or.inl rfl | exact Or.inr rfl) | exact SubQ.fin (by (conv => whnf); (repeat' (first | exact True.intro | rfl | refine And.intro ?_ ?_)); done) (fun h => h) (by first | exact Or.inl rfl | exact Or.inr rfl)))), rfl, rfl⟩
  · have e : i = 8 := by omega
    subst e
    rw [← j2]
    cases l with
    | nil =>
      (conv => whnf); (repeat' (first | ((with_reducible refine ifb_mk (fun hc => ?_) (fun hc => ?_)) <;> ((try simp only [decide_eq_true_eq, decide_eq_false_iff_not, Bool.not_eq_true', Bool.not_eq_false', Int.not_lt, Int.not_le, ne_eq, Decidable.not_not, beq_iff_eq, List.cons.injEq, and_true] at hc); (first | (exfalso; omega) | conv => whnf))) | ((with_reducible refine And.intro True.intro ?_); conv => whnf) | ((with_reducible refine And.intro ?hh ?_); (case hh => (unfold InR; (try dsimp only); omega)); conv => whnf) | ((with_reducible refine And.intro ?hh ?_); (case hh => ((try dsimp only); omega)); conv => whnf) | ((with_reducible refine And.intro ?hh ?_); (case hh => ((conv => whnf); (repeat' (first | exact True.intro | rfl | refine And.intro ?_ ?_)); done)); conv => whnf) | fail))
      all_goals exact ⟨[], rfl, rfl, rfl, trivial, (by (repeat' (first | exact True.intro | rfl | refine And.intro ?_ ?_)))⟩
    | cons x t =>
      (conv => whnf); (repeat' (first | ((with_reducible refine ifb_mk (fun hc => ?_) (fun hc => ?_)) <;> ((try simp only [decide_eq_true_eq, decide_eq_false_iff_not, Bool.not_eq_true', Bool.not_eq_false', Int.not_lt, Int.not_le, ne_eq, Decidable.not_not, beq_iff_eq, List.cons.injEq, and_true] at hc); (first | (exfalso; omega) | conv => whnf))) | ((with_reducible refine And.intro True.intro ?_); conv => whnf) | ((with_reducible refine And.intro ?hh ?_); (case hh => (unfold InR; (try dsimp only); omega)); conv => whnf) | ((with_reducible refine And.intro ?hh ?_); (case hh => ((try dsimp only); omega)); conv => whnf) | ((with_reducible refine And.intro ?hh ?_); (case hh => ((conv => whnf); (repeat' (first | exact True.intro | rfl | refine And.intro ?_ ?_)); done)); conv => whnf) | fail))
      all_goals exact ⟨[8], rfl, rfl, rfl, ⟨⟨_, rfl, rfl, SubQ.ofL rfl iVs_bare (.inr rfl)⟩, ltB_ofLb iVs_bare, rfl, trivial⟩, (by (repeat' (first | exact True.intro | rfl | refine And.intro ?_ ?_)))⟩
end Go.Proofs.P

namespace Go.Proofs.P
open Go.As
set_option maxRecDepth 20000
set_option linter.unusedVariables false
set_option linter.unusedSimpArgs false

/-! ### Coming to another plate, and being it -/

def permAll : Bool := (List.range 9).all fun n => (List.range 8).all fun m => ((List.range (n * n)).map (sgN n m)).isPerm (List.range (n * n))
theorem permAll_ok : permAll = true := by kernel_rfl
theorem sg_perm {n m : Nat} (hn : n ≤ 8) (hm : m < 8) : ((List.range (n * n)).map (sgN n m)).Perm (List.range (n * n)) :=
  List.isPerm_iff.1 (all_range (all_range permAll_ok (show n < 9 by omega)) hm)
theorem movL_at {n m : Nat} {D : List Int} {j : Nat} (hj : j < D.length) : (movL n m D).getD j 0 = D.getD (sgN n (invN m) j) 0 := by
  unfold movL
  rw [List.getD_eq_getElem?_getD, List.getElem?_map, List.getElem?_range hj]
  rfl
theorem nz_mov {n m : Nat} {D : List Int} (hn : n ≤ 8) (hm : m < 8) (hD : D.length = n * n) : (nzL (movL n m D)).length = (nzL D).length := by
  unfold nzL
  rw [movL_len]
  have e : (List.range D.length).filter (fun k => !zr (movL n m D) k) = (List.range D.length).filter ((fun k => !zr D k) ∘ sgN n (invN m)) := by
    refine List.filter_congr fun k hk => ?_
    unfold zr
    rw [movL_at (List.mem_range.1 hk)]
    rfl
  rw [e]
  have h1 := (sg_perm (n := n) hn (inv_lt hm)).filter (fun k => !zr D k)
  rw [List.filter_map] at h1
  have h2 := h1.length_eq
  rw [List.length_map, ← hD] at h2
  exact h2
theorem zr_lt {D : List Int} {j : Nat} (h : zr D j = false) : j < D.length := by
  by_cases hj : j < D.length
  · exact hj
  · unfold zr at h
    rw [List.getD_eq_getElem?_getD, List.getElem?_eq_none (by omega)] at h
    cases h
theorem getD_ext {A B : List Int} (hl : A.length = B.length) (h : ∀ j, j < A.length → A.getD j 0 = B.getD j 0) : A = B := by
  apply List.ext_getElem hl
  intro j h1 h2
  have := h j h1
  rw [List.getD_eq_getElem?_getD, List.getD_eq_getElem?_getD, List.getElem?_eq_getElem h1, List.getElem?_eq_getElem h2] at this
  exact this
theorem comB_eq {n m : Nat} {D E : List Int} (hn : n ≤ 8) (hm : m < 8) (hD : D.length = n * n) (hE : E.length = n * n) : comB n n m D E = decide (movL n m D = E) := by
  unfold comB
  rw [decide_eq_true rfl, Bool.true_and]
  rw [Bool.eq_iff_iff, Bool.and_eq_true, decide_eq_true_eq, decide_eq_true_eq, List.all_eq_true]
  constructor
  · rintro ⟨h1, h2⟩
    have hp : ∀ j, (!zr (movL n m D) j) = true → (!zr E j) = true ∧ E.getD j 0 = (movL n m D).getD j 0 := by
      intro j hj
      have hj' : zr (movL n m D) j = false := by simpa using hj
      have hlt := zr_lt hj'
      rw [movL_len] at hlt
      have hf := sg_facts hn (inv_lt hm) (show j < n * n by omega)
      have hk : sgN n (invN m) j ∈ nzL D := by
        refine List.mem_filter.2 ⟨List.mem_range.2 (by omega), ?_⟩
        unfold zr at hj' ⊢
        rw [movL_at hlt] at hj'
        rw [hj']; rfl
      have h3 := beq_iff_eq.1 (h2 _ hk)
      have hg := sg_facts hn hm (show j < n * n by omega)
      rw [hg.2.1] at h3
      refine ⟨?_, by rw [h3, movL_at hlt]⟩
      unfold zr at hj' ⊢
      rw [h3, ← movL_at hlt, hj']; rfl
    have hlen : ((List.range (n * n)).filter fun j => !zr (movL n m D) j).length = ((List.range (n * n)).filter fun j => !zr E j).length := by
      have a := nz_mov (m := m) hn hm hD
      unfold nzL at a h1
      rw [movL_len, hD] at a
      rw [hD, hE] at h1
      rw [a, h1]
    refine getD_ext (by rw [movL_len, hD, hE]) fun j hj => ?_
    rw [movL_len, hD] at hj
    cases hz : zr (movL n m D) j with
    | false => exact ((hp j (by rw [hz]; rfl)).2).symm
    | true =>
      have hz0 : (movL n m D).getD j 0 = 0 := by unfold zr at hz; exact beq_iff_eq.1 hz
      rw [hz0]
      cases he : zr E j with
      | true => unfold zr at he; exact (beq_iff_eq.1 he).symm
      | false =>
        exfalso
        have := filter_lt (p := fun j => !zr E j) (p' := fun j => !zr (movL n m D) j) (fun a ha => (hp a ha).1) (List.mem_range.2 hj) (by rw [he]; rfl) (by rw [hz]; rfl)
        omega
  · intro h
    subst h
    refine ⟨(nz_mov hn hm hD).symm, fun k hk => ?_⟩
    have hk' := List.mem_range.1 (List.mem_filter.1 hk).1
    have hf := sg_facts hn hm (show k < n * n by omega)
    rw [beq_iff_eq, movL_at (by omega), hf.1]
end Go.Proofs.P

namespace Go.Proofs.P
open Go.As
set_option maxRecDepth 20000
set_option linter.unusedVariables false
set_option linter.unusedSimpArgs false

/-! ### The reference's motions under which a plate stays; errors -/

theorem staysE_ok (h : H) (n : Int) (D : List Int) (hl : D.length ≤ 9223372036854775807) (he : ckP n D ≠ 0) (dv : V) (hs : SlC h (iVs D) D.length dv) :
    CallOk Try.prog 21 [plateV n dv] h (.tup [.nils, .int .i64 (ckP n D)]) h := by
  obtain ⟨vo, svC, hsv, hca, hvw⟩ := hs.view 0
  have kE := fun h' dv hs => tableForE_ok h' n D hl he dv hs
  generalize ckP n D = e at *
  refine CallOk.run Try.func21 rfl rfl (argsC := [plateV n svC]) (Nat.le_of_ble_eq_true rfl) [vo] (.cons (CaL.agg (.cons (.bare rfl) (.cons (hca _ rfl) .nil))) .nil) (viewMc1 iVs_bare hvw) rfl (WpR.of_vc ?_)
  cases hsv
  all_goals
    (conv => whnf); (repeat' (first | ((with_reducible refine ifb_mk (fun hc => ?_) (fun hc => ?_)) <;> ((try simp only [decide_eq_true_eq, decide_eq_false_iff_not, Bool.not_eq_true', Bool.not_eq_false', Int.not_lt, Int.not_le, ne_eq, Decidable.not_not, beq_iff_eq, List.cons.injEq, and_true] at hc); (first | (exfalso; omega) | conv => whnf))) | ((with_reducible refine And.intro True.intro ?_); conv => whnf) | ((with_reducible refine CallX.all ?_); refine CallW.of_ok (kE _ _ (by first | exact SlC.own rfl | exact iNil (by omega))) ?_; conv => whnf) | ((with_reducible refine And.intro ?hh ?_); (case hh => (unfold InR; (try dsimp only); omega)); conv => whnf) | ((with_reducible refine And.intro ?hh ?_); (case hh => ((try dsimp only); omega)); conv => whnf) | ((with_reducible refine And.intro ?hh ?_); (case hh => ((conv => whnf); (repeat' (first | exact True.intro | rfl | refine And.intro ?_ ?_)); done)); conv => whnf) | fail))
    all_goals first | (refine ⟨[], ?_, rfl, rfl, trivial, (by (repeat' (first | exact True.intro | rfl | refine And.intro ?_ ?_)))⟩; simp only [renV, renL]; (first | done | rfl | simp | grind)) | exact absurd (by assumption) he
theorem staysRE_ok (h : H) (n : Int) (D : List Int) (hl : D.length ≤ 9223372036854775807) (he : ckP n D ≠ 0) (dv : V) (hs : SlC h (iVs D) D.length dv) :
    CallOk Try.prog 22 [plateV n dv] h (.tup [.nils, .int .i64 (ckP n D)]) h := by
  obtain ⟨vo, svC, hsv, hca, hvw⟩ := hs.view 0
  have kE := fun h' dv hs => checkPlateR_ok h' n D dv hl hs
  generalize ckP n D = e at *
  refine CallOk.run Try.func22 rfl rfl (argsC := [plateV n svC]) (Nat.le_of_ble_eq_true rfl) [vo] (.cons (CaL.agg (.cons (.bare rfl) (.cons (hca _ rfl) .nil))) .nil) (viewMc1 iVs_bare hvw) rfl (WpR.of_vc ?_)
  cases hsv
  all_goals
    (conv => whnf); (repeat' (first | ((with_reducible refine ifb_mk (fun hc => ?_) (fun hc => ?_)) <;> ((try simp only [decide_eq_true_eq, decide_eq_false_iff_not, Bool.not_eq_true', Bool.not_eq_false', Int.not_lt, Int.not_le, ne_eq, Decidable.not_not, beq_iff_eq, List.cons.injEq, and_true] at hc); (first | (exfalso; omega) | conv => whnf))) | ((with_reducible refine And.intro True.intro ?_); conv => whnf) | ((with_reducible refine CallX.all ?_); refine CallW.of_ok (kE _ _ (by first | exact SlC.own rfl | exact iNil (by omega))) ?_; conv => whnf) | ((with_reducible refine And.intro ?hh ?_); (case hh => (unfold InR; (try dsimp only); omega)); conv => whnf) | ((with_reducible refine And.intro ?hh ?_); (case hh => ((try dsimp only); omega)); conv => whnf) | ((with_reducible refine And.intro ?hh ?_); (case hh => ((conv => whnf); (repeat' (first | exact True.intro | rfl | refine And.intro ?_ ?_)); done)); conv => whnf) | fail))
    all_goals first | (refine ⟨[], ?_, rfl, rfl, trivial, (by (repeat' (first | exact True.intro | rfl | refine And.intro ?_ ?_)))⟩; simp only [renV, renL]; (first | done | rfl | simp | grind)) | exact absurd (by assumption) he
theorem moveRE_ok (h : H) (n m : Int) (D : List Int) (hl : D.length ≤ 9223372036854775807) (he : mvE n D m ≠ 0) (dv : V) (hs : SlC h (iVs D) D.length dv) :
    CallOk Try.prog 20 [plateV n dv, .int .i64 m] h (.tup [zP, .int .i64 (mvE n D m)]) h := by
  obtain ⟨vo, svC, hsv, hca, hvw⟩ := hs.view 0
  refine CallOk.run Try.func20 rfl rfl (argsC := [plateV n svC, .int .i64 m]) (Nat.le_of_ble_eq_true rfl) [vo] (.cons (CaL.agg (.cons (.bare rfl) (.cons (hca _ rfl) .nil))) (.cons (.bare rfl) .nil)) (viewMc1 iVs_bare hvw) rfl (WpR.of_vc ?_)
  have kE := fun h' dv hs => checkPlateR_ok h' n D dv hl hs
  have kM := fun h' => isMotion_ok h' m
  unfold mvE at he ⊢
  by_cases hc0 : ckP n D = 0
  · rw [if_pos hc0] at he ⊢
    rw [hc0] at kE
    by_cases hm : 0 ≤ m ∧ m ≤ 7
    · rw [if_pos hm] at he; exact absurd rfl he
    · rw [if_neg hm]
      rw [decide_eq_false hm] at kM
      cases hsv
      all_goals
        (conv => whnf); (repeat' (first | ((with_reducible refine ifb_mk (fun hc => ?_) (fun hc => ?_)) <;> ((try simp only [decide_eq_true_eq, decide_eq_false_iff_not, Bool.not_eq_true', Bool.not_eq_false', Int.not_lt, Int.not_le, ne_eq, Decidable.not_not, beq_iff_eq, List.cons.injEq, and_true] at hc); (first | (exfalso; omega) | conv => whnf))) | ((with_reducible refine And.intro True.intro ?_); conv => whnf) | ((with_reducible refine CallX.all ?_); refine CallW.of_ok (kE _ _ (by first | exact SlC.own rfl | exact iNil (by omega))) ?_; conv => whnf) | ((with_reducible refine CallX.all ?_); refine CallW.of_ok (kM _) ?_; conv => whnf) | ((with_reducible refine And.intro ?hh ?_); (case hh => (unfold InR; (try dsimp only); omega)); conv => whnf) | ((with_reducible refine And.intro ?hh ?_); (case hh => ((try dsimp only); omega)); conv => whnf) | ((with_reducible refine And.intro ?hh ?_); (case hh => ((conv => whnf); (repeat' (first | exact True.intro | rfl | refine And.intro ?_ ?_)); done)); conv => whnf) | fail))
        (refine ⟨[], ?_, rfl, rfl, trivial, (by (repeat' (first | exact True.intro | rfl | refine And.intro ?_ ?_)))⟩; simp only [renV, renL]; (first | done | rfl | simp | grind))
  · rw [if_neg hc0]
    generalize ckP n D = e at *
    cases hsv
    all_goals
      (conv => whnf); (repeat' (first | ((with_reducible refine ifb_mk (fun hc => ?_) (fun hc => ?_)) <;> ((try simp only [decide_eq_true_eq, decide_eq_false_iff_not, Bool.not_eq_true', Bool.not_eq_false', Int.not_lt, Int.not_le, ne_eq, Decidable.not_not, beq_iff_eq, List.cons.injEq, and_true] at hc); (first | (exfalso; omega) | conv => whnf))) | ((with_reducible refine And.intro True.intro ?_); conv => whnf) | ((with_reducible refine CallX.all ?_); refine CallW.of_ok (kE _ _ (by first | exact SlC.own rfl | exact iNil (by omega))) ?_; conv => whnf) | ((with_reducible refine And.intro ?hh ?_); (case hh => (unfold InR; (try dsimp only); omega)); conv => whnf) | ((with_reducible refine And.intro ?hh ?_); (case hh => ((try dsimp only); omega)); conv => whnf) | ((with_reducible refine And.intro ?hh ?_); (case hh => ((conv => whnf); (repeat' (first | exact True.intro | rfl | refine And.intro ?_ ?_)); done)); conv => whnf) | fail))
      all_goals first | (refine ⟨[], ?_, rfl, rfl, trivial, (by (repeat' (first | exact True.intro | rfl | refine And.intro ?_ ?_)))⟩; simp only [renV, renL]; (first | done | rfl | simp | grind)) | exact absurd (by assumption) hc0
theorem moveR_ok (h : H) (n m : Nat) (hn : 1 ≤ n ∧ n ≤ 8) (hm : m < 8) (D : List Int) (hD : D.length = n * n) (hw : wi 0 3 D = true) (b o cap : Nat) (ex : Bool) (hs : SlC h (iVs D) D.length (.sl b o D.length cap ex)) :
    CallOk Try.prog 20 [plateV n (.sl b o D.length cap ex), nV m] h (.tup [plateV n (.sl h.n 0 D.length D.length true), .int .i64 0]) (addBs h [.cells (ofL (iVs (movL n m D)) 0) true none]) := by
  obtain ⟨vo, svC, hsv, hca, hvw⟩ := hs.view 0
  have hN : 1 ≤ D.length ∧ D.length ≤ 64 := by
    rw [hD]
    have h1 : 1 * 1 ≤ n * n := Nat.mul_le_mul hn.1 hn.1
    have h2 : n * n ≤ 8 * 8 := Nat.mul_le_mul hn.2 hn.2
    omega
  obtain ⟨cap', ex', rfl⟩ : ∃ cap ex, svC = .sl 0 0 D.length cap ex := by
    cases hsv with
    | nil h0 => omega
    | sl => exact ⟨_, _, rfl⟩
  have hck : ckP (n : Int) D = 0 := by unfold ckP; rw [if_pos (by omega), if_pos (by rw [hD]; simp), if_pos hw]
  have kC := fun h' dv hs' => checkPlateR_ok h' n D dv (by omega) hs'
  rw [hck] at kC
  have kM := fun h' => isMotion_ok h' m
  rw [decide_eq_true (by omega)] at kM
  refine CallOk.runN Try.func20 rfl rfl (argsC := [plateV n (.sl 0 0 D.length cap' ex'), .int .i64 m]) (fun N => .tup [plateV n (.sl N 0 D.length D.length true), .int .i64 0]) (fun _ => [.cells (ofL (iVs (movL n m D)) 0) true none]) (Nat.le_of_ble_eq_true rfl) [vo] (.cons (CaL.agg (.cons (.bare rfl) (.cons (hca _ rfl) .nil))) (.cons (.bare rfl) .nil)) (viewMc1 iVs_bare hvw)
    (ShV.tup (.cons (ShV.agg (.cons (.bare rfl) (.cons (.sl (i := 0) (Nat.le_of_ble_eq_true rfl) rfl rfl) .nil))) (.cons (.bare rfl) .nil))) rfl
    (fun i b hi => by
      match i with
      | 0 => simp at hi; subst hi; exact ⟨_, rfl, rfl, .bare (ofL_bare iVs_bare)⟩
      | i + 1 => simp at hi)
    (WpR.of_vc ?_)
  (conv => whnf); (repeat' (first | ((with_reducible refine ifb_mk (fun hc => ?_) (fun hc => ?_)) <;> ((try simp only [decide_eq_true_eq, decide_eq_false_iff_not, Bool.not_eq_true', Bool.not_eq_false', Int.not_lt, Int.not_le, ne_eq, Decidable.not_not, beq_iff_eq, List.cons.injEq, and_true] at hc); (first | (exfalso; omega) | conv => whnf))) | ((with_reducible refine And.intro True.intro ?_); conv => whnf) | ((with_reducible refine CallX.all ?_); refine CallW.of_ok (kC _ _ (SlC.own rfl)) ?_; conv => whnf) | ((with_reducible refine CallX.all ?_); refine CallW.of_ok (kM _) ?_; conv => whnf) | ((with_reducible refine CallX.all ?_); refine moveOf_new _ n m hn hm D hD 0 0 cap' ex' (SlC.own rfl) ?_; conv => whnf) | ((with_reducible refine And.intro ?hh ?_); (case hh => (unfold InR; (try dsimp only); omega)); conv => whnf) | ((with_reducible refine And.intro ?hh ?_); (case hh => ((try dsimp only); omega)); conv => whnf) | ((with_reducible refine And.intro ?hh ?_); (case hh => ((conv => whnf); (repeat' (first | exact True.intro | rfl | refine And.intro ?_ ?_)); done)); conv => whnf) | fail))
  exact ⟨[3], rfl, rfl, rfl, ⟨⟨_, rfl, rfl, SubQ.ofL rfl iVs_bare (.inl rfl)⟩, ltB_ofLb iVs_bare, rfl, trivial⟩, (by (repeat' (first | exact True.intro | rfl | refine And.intro ?_ ?_)))⟩

set_option maxHeartbeats 4000000 in
theorem staysOf_ok (h : H) (n : Nat) (hn : 1 ≤ n ∧ n ≤ 8) (D : List Int) (hD : D.length = n * n) (b o cap : Nat) (ex : Bool) (hs : SlC h (iVs D) D.length (.sl b o D.length cap ex)) :
    CallOk Try.prog 67 [plateV n (.sl b o D.length cap ex)] h (grV h.n (stL n D 8).length) (addBs h (growB (stL n D 8))) := by
  obtain ⟨vo, svC, hsv, hca, hvw⟩ := hs.view 0
  have hN : 1 ≤ D.length ∧ D.length ≤ 64 := by
    rw [hD]
    have h1 : 1 * 1 ≤ n * n := Nat.mul_le_mul hn.1 hn.1
    have h2 : n * n ≤ 8 * 8 := Nat.mul_le_mul hn.2 hn.2
    omega
  obtain ⟨cap', ex', rfl⟩ : ∃ cap ex, svC = .sl 0 0 D.length cap ex := by
    cases hsv with
    | nil h0 => omega
    | sl => exact ⟨_, _, rfl⟩
  have hB := @iVs_bare D
  refine CallOk.runN Try.func67 rfl rfl (argsC := [plateV n (.sl 0 0 D.length cap' ex')]) (fun N => grV N (stL n D 8).length) (fun _ => growB (stL n D 8)) (Nat.le_of_ble_eq_true rfl) [vo] (.cons (CaL.agg (.cons (.bare rfl) (.cons (hca _ rfl) .nil))) .nil) (viewMc1 hB hvw)
    (growSh _ _ _ _) rfl (growBs _ _ _ _) (WpR.of_vc ?_)
  (conv => whnf); (repeat' (first | ((with_reducible refine ifb_mk (fun hc => ?_) (fun hc => ?_)) <;> ((try simp only [decide_eq_true_eq, decide_eq_false_iff_not, Bool.not_eq_true', Bool.not_eq_false', Int.not_lt, Int.not_le, ne_eq, Decidable.not_not, beq_iff_eq, List.cons.injEq, and_true] at hc); (first | (exfalso; omega) | conv => whnf))) | ((with_reducible refine And.intro True.intro ?_); conv => whnf) | ((with_reducible refine And.intro ?hh ?_); (case hh => (unfold InR; (try dsimp only); omega)); conv => whnf) | ((with_reducible refine And.intro ?hh ?_); (case hh => ((try dsimp only); omega)); conv => whnf) | ((with_reducible refine And.intro ?hh ?_); (case hh => ((conv => whnf); (repeat' (first | exact True.intro | rfl | refine And.intro ?_ ?_)); done)); conv => whnf) | fail))
  have hMap : ∀ i, ltV 3 (grV 2 i) = true := grV_lt rfl
  have hMap2 : ∀ l : List Int, ltB 3 (grB 1 (iVs l) l.length) := fun l => grB_lt iVs_bare _
  refine WpR.loopD (ι := Nat × List Int) [] [1] [2] [] 3 (fun p => [(3, grV 2 p.2.length), (4, .int .i64 p.1)]) (fun p => [(2, grB 1 (iVs p.2) p.2.length)]) (fun p => 8 - p.1) (fun p => p.1 ≤ 8 ∧ p.2 = stL n D p.1) ?_ ((0, [])) (⟨Nat.zero_le _, rfl⟩) [] ⟨rfl, rfl, (by (repeat' (first | exact True.intro | rfl | refine And.intro ?_ ?_))), (by (repeat' (first | exact True.intro | rfl | refine And.intro ?_ ?_))), (by (repeat' (first | exact True.intro | rfl | refine And.intro ?_ ?_))), (by (repeat' (first | exact True.intro | exact Or.inl rfl | refine And.intro ?_ ?_ | refine Or.inr ⟨_, rfl, ?_⟩ | exact SubQ.same (n := 1000) (Y := []) (fun _ _ _ => rfl) (by first | exact True.intro | exact ltB_all rfl | exact ltB_ofLb (by first | exact bare0_ints | assumption | exact bVs_bare | exact iVs_bare | exact mVs_bare | (intro v hv; (repeat (rcases List.mem_cons.1 hv with rfl | hv; exact rfl)); cases hv)) | exact ltB_loop rfl rfl | exact hMap _ | exact hMap2 _ | exact grB_lt (by first | exact bare0_ints | assumption | exact bVs_bare | exact iVs_bare | exact mVs_bare | (intro v hv; (repeat (rcases List.mem_cons.1 hv with rfl | hv; exact rfl)); cases hv)) _ | exact ltB_encL | exact ltB_map0 | assumption) (avB_nil _) rfl | exact SubQ.ofL (by first | rfl | simp) (by first | exact bare0_ints | assumption | exact bVs_bare | exact iVs_bare | exact mVs_bare | (intro v hv; (repeat (rcases List.mem_cons.1 hv with rfl | hv; exact rfl)); cases hv)) (by first | exact Or.inl rfl | exact Or.inr rfl) | exact SubQ.fin (by (conv => whnf); (repeat' (first | exact True.intro | rfl | refine And.intro ?_ ?_)); done) (fun h => h) (by first | exact Or.inl rfl | exact Or.inr rfl)))), rfl, rfl⟩ rfl rfl rfl (fun _ => rfl) (by (repeat' (first | exact True.intro | refine And.intro ?_ ?_ | exact avV_nil _ | rfl))) (by (repeat' (first | exact True.intro | (with_reducible exact avB_nil _) | ((with_reducible refine avB_all ?_); rfl) | ((with_reducible refine avB_ofLb ?_); exact (by first | exact bare0_ints | assumption | exact bVs_bare | exact iVs_bare | exact mVs_bare | (intro v hv; (repeat (rcases List.mem_cons.1 hv with rfl | hv; exact rfl)); cases hv))) | ((with_reducible refine ltB_all ?_); rfl) | ((with_reducible refine ltB_ofLb ?_); exact (by first | exact bare0_ints | assumption | exact bVs_bare | exact iVs_bare | exact mVs_bare | (intro v hv; (repeat (rcases List.mem_cons.1 hv with rfl | hv; exact rfl)); cases hv))) | ((with_reducible refine ltB_loop ?_ ?_) <;> rfl) | (with_reducible exact hMap _) | (with_reducible exact hMap2 _) | (with_reducible exact ltB_encL) | (with_reducible exact ltB_map0) | ((with_reducible refine grB_lt ?_ _); exact (by first | exact bare0_ints | assumption | exact bVs_bare | exact iVs_bare | exact mVs_bare | (intro v hv; (repeat (rcases List.mem_cons.1 hv with rfl | hv; exact rfl)); cases hv))) | (with_reducible assumption) | refine And.intro ?_ ?_ | exact (by first | exact True.intro | exact ltB_all rfl | exact ltB_ofLb (by first | exact bare0_ints | assumption | exact bVs_bare | exact iVs_bare | exact mVs_bare | (intro v hv; (repeat (rcases List.mem_cons.1 hv with rfl | hv; exact rfl)); cases hv)) | exact ltB_loop rfl rfl | exact hMap _ | exact hMap2 _ | exact grB_lt (by first | exact bare0_ints | assumption | exact bVs_bare | exact iVs_bare | exact mVs_bare | (intro v hv; (repeat (rcases List.mem_cons.1 hv with rfl | hv; exact rfl)); cases hv)) _ | exact ltB_encL | exact ltB_map0 | assumption)))) (fun _ _ => (by (repeat' (first | exact True.intro | rfl | refine And.intro ?_ ?_ | exact (by decide) | exact (by first | exact True.intro | exact hMap _ | exact hMap2 _ | exact grB_lt (by first | exact bare0_ints | assumption | exact bVs_bare | exact iVs_bare | exact mVs_bare | (intro v hv; (repeat (rcases List.mem_cons.1 hv with rfl | hv; exact rfl)); cases hv)) _ | exact ltB_all rfl | exact ltB_ofLb (by first | exact bare0_ints | assumption | exact bVs_bare | exact iVs_bare | exact mVs_bare | (intro v hv; (repeat (rcases List.mem_cons.1 hv with rfl | hv; exact rfl)); cases hv)) | exact ltB_loop rfl rfl | exact ltB_encL | exact ltB_map0 | assumption))))) (fun _ _ => (by (repeat' (first | exact True.intro | rfl | refine And.intro ?_ ?_ | exact (by decide) | exact (by first | exact True.intro | exact hMap _ | exact hMap2 _ | exact grB_lt (by first | exact bare0_ints | assumption | exact bVs_bare | exact iVs_bare | exact mVs_bare | (intro v hv; (repeat (rcases List.mem_cons.1 hv with rfl | hv; exact rfl)); cases hv)) _ | exact ltB_all rfl | exact ltB_ofLb (by first | exact bare0_ints | assumption | exact bVs_bare | exact iVs_bare | exact mVs_bare | (intro v hv; (repeat (rcases List.mem_cons.1 hv with rfl | hv; exact rfl)); cases hv)) | exact ltB_loop rfl rfl | exact ltB_encL | exact ltB_map0 | assumption))))) (fun _ _ => (by (repeat' (first | exact True.intro | rfl | refine And.intro ?_ ?_)))) rfl
  rintro ⟨i, l⟩ ⟨j1, j2⟩
  dsimp only at j1 j2
  refine WpR.of_vc ?_
  by_cases hi : i < 8
  · have hs1 := stL_succ n D i
    have hlen := stL_len n D i
    rw [← j2] at hs1 hlen
    have kS := fun h' av bv g1 g2 => same_ok h' (movL n i D) D av bv (by rw [movL_len]; omega) g1 g2
    rw [← comB_eq hn.2 hi hD hD, movL_len] at kS
    cases hcm : comB n n i D D with
    | false =>
      rw [hcm] at kS hs1
      dsimp only at hs1
      cases l with
      | nil =>
        (conv => whnf); (repeat' (first | ((with_reducible refine ifb_mk (fun hc => ?_) (fun hc => ?_)) <;> ((try simp only [decide_eq_true_eq, decide_eq_false_iff_not, Bool.not_eq_true', Bool.not_eq_false', Int.not_lt, Int.not_le, ne_eq, Decidable.not_not, beq_iff_eq, List.cons.injEq, and_true] at hc); (first | (exfalso; omega) | conv => whnf))) | ((with_reducible refine And.intro True.intro ?_); conv => whnf) | ((with_reducible refine WpR.draw (id := 5) mixed [0, 1, 4, 5, 2, 3, 6] [0, 0, 3, 7, 0, 16, 63] ?hh ?_); (case hh => kernel_rfl); conv => whnf) | ((with_reducible refine grd_ex ?_); refine ex_new (vC := fun N => plateV n (.sl N 0 D.length D.length true)) (news := fun _ => [.cells (ofL (iVs (movL n i D)) 0) true none]) (moveOf_ok _ n i hn hi D hD 0 0 cap' ex' (SlC.own rfl)) ?_; conv => whnf) | ((with_reducible refine grd_ex ?_); refine ex_ok (kS _ _ _ (SlC.own rfl) (SlC.own rfl)) ?_; conv => whnf) | ((with_reducible refine And.intro ?hh ?_); (case hh => (unfold InR; (try dsimp only); omega)); conv => whnf) | ((with_reducible refine And.intro ?hh ?_); (case hh => ((try dsimp only); omega)); conv => whnf) | ((with_reducible refine And.intro ?hh ?_); (case hh => ((conv => whnf); (repeat' (first | exact True.intro | rfl | refine And.intro ?_ ?_)); done)); conv => whnf) | fail))
        exact ⟨(i + 1, []), [], by dsimp only; omega, ⟨by dsimp only; omega, hs1.symm⟩, ⟨rfl, rfl, (by (repeat' (first | exact True.intro | rfl | refine And.intro ?_ ?_))), (by (repeat' (first | exact True.intro | rfl | refine And.intro ?_ ?_))), (by (repeat' (first | exact True.intro | rfl | refine And.intro ?_ ?_))), (by (repeat' (first | exact True.intro | exact Or.inl rfl | refine And.intro ?_ ?_ | refine Or.inr ⟨_, rfl, ?_⟩ | exact SubQ.same (n := 1000) (Y := []) (fun _ _ _ => rfl) (by first | exact True.intro | exact ltB_all rfl | exact ltB_ofLb (by first | exact bare0_ints | assumption | exact bVs_bare | exact iVs_bare | exact mVs_bare | (intro v hv; (repeat (rcases List.mem_cons.1 hv with rfl | hv; exact rfl)); cases hv)) | exact ltB_loop rfl rfl | exact hMap _ | exact hMap2 _ | exact grB_lt (by first | exact bare0_ints | assumption | exact bVs_bare | exact iVs_bare | exact mVs_bare | (intro v hv; (repeat (rcases List.mem_cons.1 hv with rfl | hv; exact rfl)); cases hv)) _ | exact ltB_encL | exact ltB_map0 | assumption) (avB_nil _) rfl | exact SubQ.ofL (by first | rfl | simp) (by first | exact bare0_ints | assumption | exact bVs_bare | exact iVs_bare | exact mVs_bare | (intro v hv; (repeat (rcases List.mem_cons.1 hv with rfl | hv; exact rfl)); cases hv)) (by first | exact Or.inl rfl | exact Or.inr rfl) | exact SubQ.fin (by (conv => whnf); (repeat' (first | exact True.intro | rfl | refine And.intro ?_ ?_)); done) (fun h => h) (by first | exact Or.inl rfl | exact Or.inr rfl)))), rfl, rfl⟩⟩
      | cons x t =>
        (conv => whnf); (repeat' (first | ((with_reducible refine ifb_mk (fun hc => ?_) (fun hc => ?_)) <;> ((try simp only [decide_eq_true_eq, decide_eq_false_iff_not, Bool.not_eq_true', Bool.not_eq_false', Int.not_lt, Int.not_le, ne_eq, Decidable.not_not, beq_iff_eq, List.cons.injEq, and_true] at hc); (first | (exfalso; omega) | conv => whnf))) | ((with_reducible refine And.intro True.intro ?_); conv => whnf) | ((with_reducible refine WpR.draw (id := 5) mixed [0, 1, 4, 5, 2, 3, 6] [0, 0, 3, 7, 0, 16, 63] ?hh ?_); (case hh => kernel_rfl); conv => whnf) | ((with_reducible refine grd_ex ?_); refine ex_new (vC := fun N => plateV n (.sl N 0 D.length D.length true)) (news := fun _ => [.cells (ofL (iVs (movL n i D)) 0) true none]) (moveOf_ok _ n i hn hi D hD 0 0 cap' ex' (SlC.own rfl)) ?_; conv => whnf) | ((with_reducible refine grd_ex ?_); refine ex_ok (kS _ _ _ (SlC.own rfl) (SlC.own rfl)) ?_; conv => whnf) | ((with_reducible refine And.intro ?hh ?_); (case hh => (unfold InR; (try dsimp only); omega)); conv => whnf) | ((with_reducible refine And.intro ?hh ?_); (case hh => ((try dsimp only); omega)); conv => whnf) | ((with_reducible refine And.intro ?hh ?_); (case hh => ((conv => whnf); (repeat' (first | exact True.intro | rfl | refine And.intro ?_ ?_)); done)); conv => whnf) | fail))
        exact ⟨(i + 1, x :: t), [], by dsimp only; omega, ⟨by dsimp only; omega, hs1.symm⟩, ⟨rfl, rfl, (by (repeat' (first | exact True.intro | rfl | refine And.intro ?_ ?_))), (by (repeat' (first | exact True.intro | rfl | refine And.intro ?_ ?_))), (by (repeat' (first | exact True.intro | rfl | refine And.intro ?_ ?_))), (by (repeat' (first | exact True.intro | exact Or.inl rfl | refine And.intro ?_ ?_ | refine Or.inr ⟨_, rfl, ?_⟩ | exact SubQ.same (n := 1000) (Y := []) (fun _ _ _ => rfl) (by first | exact True.intro | exact ltB_all rfl | exact ltB_ofLb (by first | exact bare0_ints | assumption | exact bVs_bare | exact iVs_bare | exact mVs_bare | (intro v hv; (repeat (rcases List.mem_cons.1 hv with rfl | hv; exact rfl)); cases hv)) | exact ltB_loop rfl rfl | exact hMap _ | exact hMap2 _ | exact grB_lt (by first | exact bare0_ints | assumption | exact bVs_bare | exact iVs_bare | exact mVs_bare | (intro v hv; (repeat (rcases List.mem_cons.1 hv with rfl | hv; exact rfl)); cases hv)) _ | exact ltB_encL | exact ltB_map0 | assumption) (avB_nil _) rfl | exact SubQ.ofL (by first | rfl | simp) (by first | exact bare0_ints | assumption | exact bVs_bare | exact iVs_bare | exact mVs_bare | (intro v hv; (repeat (rcases List.mem_cons.1 hv with rfl | hv; exact rfl)); cases hv)) (by first | exact Or.inl rfl | exact Or.inr rfl) | exact SubQ.fin (by (conv => whnf); (repeat' (first | exact True.intro | rfl | refine And.intro ?_ ?_)); done) (fun h => h) (by first | exact Or.inl rfl | exact Or.inr rfl)))), rfl, rfl⟩⟩
    | true =>
      rw [hcm] at kS hs1
      dsimp only at hs1
      cases l with
      | nil =>
        rw [List.nil_append] at hs1
        (conv => whnf); (repeat' (first | ((with_reducible refine ifb_mk (fun hc => ?_) (fun hc => ?_)) <;> ((try simp only [decide_eq_true_eq, decide_eq_false_iff_not, Bool.not_eq_true', Bool.not_eq_false', Int.not_lt, Int.not_le, ne_eq, Decidable.not_not, beq_iff_eq, List.cons.injEq, and_true] at hc); (first | (exfalso; omega) | conv => whnf))) | ((with_reducible refine And.intro True.intro ?_); conv => whnf) | ((with_reducible refine WpR.draw (id := 5) mixed [0, 1, 4, 5, 2, 3, 6] [0, 0, 3, 7, 0, 16, 63] ?hh ?_); (case hh => kernel_rfl); conv => whnf) | ((with_reducible refine grd_ex ?_); refine ex_new (vC := fun N => plateV n (.sl N 0 D.length D.length true)) (news := fun _ => [.cells (ofL (iVs (movL n i D)) 0) true none]) (moveOf_ok _ n i hn hi D hD 0 0 cap' ex' (SlC.own rfl)) ?_; conv => whnf) | ((with_reducible refine grd_ex ?_); refine ex_ok (kS _ _ _ (SlC.own rfl) (SlC.own rfl)) ?_; conv => whnf) | (refine AppX.nil (n := 1) Nat.zero_lt_one (Nat.le_of_ble_eq_true rfl) ?_; conv => whnf) | ((with_reducible refine And.intro ?hh ?_); (case hh => (unfold InR; (try dsimp only); omega)); conv => whnf) | ((with_reducible refine And.intro ?hh ?_); (case hh => ((try dsimp only); omega)); conv => whnf) | ((with_reducible refine And.intro ?hh ?_); (case hh => ((conv => whnf); (repeat' (first | exact True.intro | rfl | refine And.intro ?_ ?_)); done)); conv => whnf) | fail))
        exact ⟨(i + 1, [Int.ofNat i]), [(2, 5)], by dsimp only; omega, ⟨by dsimp only; omega, hs1.symm⟩, ⟨rfl, rfl, (by (repeat' (first | exact True.intro | rfl | refine And.intro ?_ ?_))), (by (repeat' (first | exact True.intro | rfl | refine And.intro ?_ ?_))), (by (repeat' (first | exact True.intro | rfl | refine And.intro ?_ ?_))), (by (repeat' (first | exact True.intro | exact Or.inl rfl | refine And.intro ?_ ?_ | refine Or.inr ⟨_, rfl, ?_⟩ | exact SubQ.same (n := 1000) (Y := []) (fun _ _ _ => rfl) (by first | exact True.intro | exact ltB_all rfl | exact ltB_ofLb (by first | exact bare0_ints | assumption | exact bVs_bare | exact iVs_bare | exact mVs_bare | (intro v hv; (repeat (rcases List.mem_cons.1 hv with rfl | hv; exact rfl)); cases hv)) | exact ltB_loop rfl rfl | exact hMap _ | exact hMap2 _ | exact grB_lt (by first | exact bare0_ints | assumption | exact bVs_bare | exact iVs_bare | exact mVs_bare | (intro v hv; (repeat (rcases List.mem_cons.1 hv with rfl | hv; exact rfl)); cases hv)) _ | exact ltB_encL | exact ltB_map0 | assumption) (avB_nil _) rfl | exact SubQ.ofL (by first | rfl | simp) (by first | exact bare0_ints | assumption | exact bVs_bare | exact iVs_bare | exact mVs_bare | (intro v hv; (repeat (rcases List.mem_cons.1 hv with rfl | hv; exact rfl)); cases hv)) (by first | exact Or.inl rfl | exact Or.inr rfl) | exact SubQ.fin (by (conv => whnf); (repeat' (first | exact True.intro | rfl | refine And.intro ?_ ?_)); done) (fun h => h) (by first | exact Or.inl rfl | exact Or.inr rfl)))), rfl, rfl⟩⟩
      | cons x t =>
        rw [List.length_cons] at hlen
        (conv => whnf); (repeat' (first | ((with_reducible refine ifb_mk (fun hc => ?_) (fun hc => ?_)) <;> ((try simp only [decide_eq_true_eq, decide_eq_false_iff_not, Bool.not_eq_true', Bool.not_eq_false', Int.not_lt, Int.not_le, ne_eq, Decidable.not_not, beq_iff_eq, List.cons.injEq, and_true] at hc); (first | (exfalso; omega) | conv => whnf))) | ((with_reducible refine And.intro True.intro ?_); conv => whnf) | ((with_reducible refine WpR.draw (id := 5) mixed [0, 1, 4, 5, 2, 3, 6] [0, 0, 3, 7, 0, 16, 63] ?hh ?_); (case hh => kernel_rfl); conv => whnf) | ((with_reducible refine grd_ex ?_); refine ex_new (vC := fun N => plateV n (.sl N 0 D.length D.length true)) (news := fun _ => [.cells (ofL (iVs (movL n i D)) 0) true none]) (moveOf_ok _ n i hn hi D hD 0 0 cap' ex' (SlC.own rfl)) ?_; conv => whnf) | ((with_reducible refine grd_ex ?_); refine ex_ok (kS _ _ _ (SlC.own rfl) (SlC.own rfl)) ?_; conv => whnf) | (refine AppX.own (n := 1) (L := iVs (x :: t)) (len := t.length + 1) rfl (iVs_length (x :: t)) (iVs_one _) Nat.zero_lt_one (by omega) ?_; conv => whnf) | ((with_reducible refine And.intro ?hh ?_); (case hh => (unfold InR; (try dsimp only); omega)); conv => whnf) | ((with_reducible refine And.intro ?hh ?_); (case hh => ((try dsimp only); omega)); conv => whnf) | ((with_reducible refine And.intro ?hh ?_); (case hh => ((conv => whnf); (repeat' (first | exact True.intro | rfl | refine And.intro ?_ ?_)); done)); conv => whnf) | fail))
        have hB4 : ∀ v ∈ iVs (x :: t) ++ [.int .i64 (Int.ofNat i)], bare0 v = true := fun v hv => by
          have e : iVs ((x :: t) ++ [Int.ofNat i]) = iVs (x :: t) ++ [.int .i64 (Int.ofNat i)] := by unfold iVs; rw [List.map_append]; rfl
          rw [← e] at hv; exact iVs_bare v hv
        refine ⟨(i + 1, (x :: t) ++ [Int.ofNat i]), [(2, 5)], by dsimp only; omega, ⟨by dsimp only; omega, hs1.symm⟩, ?_⟩
        dsimp only
        rw [grB_snoc, grV_snoc]
        exact ⟨rfl, rfl, (by (repeat' (first | exact True.intro | rfl | refine And.intro ?_ ?_))), (by (repeat' (first | exact True.intro | rfl | refine And.intro ?_ ?_))), (by (repeat' (first | exact True.intro | rfl | refine And.intro ?_ ?_))), (by (repeat' (first | exact True.intro | exact Or.inl rfl | refine And.intro ?_ ?_ | refine Or.inr ⟨_, rfl, ?_⟩ | exact SubQ.same (n := 1000) (Y := []) (fun _ _ _ => rfl) (by first | exact True.intro | exact ltB_all rfl | exact ltB_ofLb (by first | exact bare0_ints | assumption | exact bVs_bare | exact iVs_bare | exact mVs_bare | (intro v hv; (repeat (rcases List.mem_cons.1 hv with rfl | hv; exact rfl)); cases hv)) | exact ltB_loop rfl rfl | exact hMap _ | exact hMap2 _ | exact grB_lt (by first | exact bare0_ints | assumption | exact bVs_bare | exact iVs_bare | exact mVs_bare | (intro v hv; (repeat (rcases List.mem_cons.1 hv with rfl | hv; exact rfl)); cases hv)) _ | exact ltB_encL | exact ltB_map0 | assumption) (avB_nil _) rfl | exact SubQ.ofL (by first | rfl | simp) (by first | exact bare0_ints | assumption | exact bVs_bare | exact iVs_bare | exact mVs_bare | (intro v hv; (repeat (rcases List.mem_cons.1 hv with rfl | hv; exact rfl)); cases hv)) (by first | exact Or.inl rfl | exact Or.inr rfl) | exact SubQ.fin (by (conv => whnf); (repeat' (first | exact True.intro | rfl | refine And.intro ?_ ?_)); done) (fun h => h) (by first | exact Or.inl rfl | exact Or.inr rfl)))), rfl, rfl⟩
  · have e : i = 8 := by omega
    subst e
    rw [← j2]
    cases l with
    | nil =>
      (conv => whnf); (repeat' (first | ((with_reducible refine ifb_mk (fun hc => ?_) (fun hc => ?_)) <;> ((try simp only [decide_eq_true_eq, decide_eq_false_iff_not, Bool.not_eq_true', Bool.not_eq_false', Int.not_lt, Int.not_le, ne_eq, Decidable.not_not, beq_iff_eq, List.cons.injEq, and_true] at hc); (first | (exfalso; omega) | conv => whnf))) | ((with_reducible refine And.intro True.intro ?_); conv => whnf) | ((with_reducible refine And.intro ?hh ?_); (case hh => (unfold InR; (try dsimp only); omega)); conv => whnf) | ((with_reducible refine And.intro ?hh ?_); (case hh => ((try dsimp only); omega)); conv => whnf) | ((with_reducible refine And.intro ?hh ?_); (case hh => ((conv => whnf); (repeat' (first | exact True.intro | rfl | refine And.intro ?_ ?_)); done)); conv => whnf) | fail))
      all_goals exact ⟨[], rfl, rfl, rfl, trivial, (by (repeat' (first | exact True.intro | rfl | refine And.intro ?_ ?_)))⟩
    | cons x t =>
      (conv => whnf); (repeat' (first | ((with_reducible refine ifb_mk (fun hc => ?_) (fun hc => ?_)) <;> ((try simp only [decide_eq_true_eq, decide_eq_false_iff_not, Bool.not_eq_true', Bool.not_eq_false', Int.not_lt, Int.not_le, ne_eq, Decidable.not_not, beq_iff_eq, List.cons.injEq, and_true] at hc); (first | (exfalso; omega) | conv => whnf))) | ((with_reducible refine And.intro True.intro ?_); conv => whnf) | ((with_reducible refine And.intro ?hh ?_); (case hh => (unfold InR; (try dsimp only); omega)); conv => whnf) | ((with_reducible refine And.intro ?hh ?_); (case hh => ((try dsimp only); omega)); conv => whnf) | ((with_reducible refine And.intro ?hh ?_); (case hh => ((conv => whnf); (repeat' (first | exact True.intro | rfl | refine And.intro ?_ ?_)); done)); conv => whnf) | fail))
      all_goals exact ⟨[2], rfl, rfl, rfl, ⟨⟨_, rfl, rfl, SubQ.ofL rfl iVs_bare (.inr rfl)⟩, ltB_ofLb iVs_bare, rfl, trivial⟩, (by (repeat' (first | exact True.intro | rfl | refine And.intro ?_ ?_)))⟩
end Go.Proofs.P

namespace Go.Proofs.P
open Go.As
set_option maxRecDepth 20000
set_option linter.unusedVariables false
set_option linter.unusedSimpArgs false

theorem stL_zero {n : Nat} {D : List Int} (hn : 1 ≤ n ∧ n ≤ 8) (i : Nat) : ∃ t, stL n D (i + 1) = 0 :: t := by
  have h0 : comB n n 0 D D = true := by
    unfold comB
    rw [decide_eq_true rfl, decide_eq_true rfl, Bool.true_and, Bool.true_and, List.all_eq_true]
    intro k hk
    have e : sgN n 0 k = k := by
      show (k / n) * n + k % n = k
      rw [Nat.mul_comm]; exact Nat.div_add_mod k n
    rw [e, beq_iff_eq]
  induction i with
  | zero => exact ⟨[], by unfold stL; simp [h0, List.range_succ]⟩
  | succ i ih =>
    obtain ⟨t, ht⟩ := ih
    rw [stL_succ, ht]
    cases comB n n (i + 1) D D with
    | true => exact ⟨t ++ [Int.ofNat (i + 1)], rfl⟩
    | false => exact ⟨t, rfl⟩

def fineB (n : Int) (D : List Int) : Bool := decide (D.length ≤ 80) && decide (ckP n D = 0)
theorem fine_ok (h : H) (n : Int) (D : List Int) (hl : D.length ≤ 9223372036854775807) (dv : V) (hs : SlC h (iVs D) D.length dv) : CallOk Try.prog 55 [plateV n dv] h (.bool (fineB n D)) h := by
  obtain ⟨o1, s1, q1, c1, w1⟩ := hs.view 0
  refine CallOk.run Try.func55 rfl rfl (argsC := [plateV n s1]) (Nat.le_of_ble_eq_true rfl) [o1] (.cons (CaL.agg (.cons (.bare rfl) (.cons (c1 _ rfl) .nil))) .nil) (viewMc1 iVs_bare w1) rfl (WpR.of_vc ?_)
  have kG := fun h' dv hs => great_ok h' n D dv hs
  have kC := fun h' dv hs' => checkPlateR_ok h' n D dv hl hs'
  unfold fineB
  by_cases hg : 80 < D.length
  · rw [decide_eq_true hg] at kG
    rw [decide_eq_false (show ¬ D.length ≤ 80 by omega), Bool.false_and]
    cases q1
    all_goals
      (conv => whnf); (repeat' (first | ((with_reducible refine ifb_mk (fun hc => ?_) (fun hc => ?_)) <;> ((try simp only [decide_eq_true_eq, decide_eq_false_iff_not, Bool.not_eq_true', Bool.not_eq_false', Int.not_lt, Int.not_le, ne_eq, Decidable.not_not, beq_iff_eq, List.cons.injEq, and_true] at hc); (first | (exfalso; omega) | conv => whnf))) | ((with_reducible refine And.intro True.intro ?_); conv => whnf) | ((with_reducible refine CallX.all ?_); refine CallW.of_ok (kG _ _ (by first | exact SlC.own rfl | exact iNil (by omega))) ?_; conv => whnf) | ((with_reducible refine And.intro ?hh ?_); (case hh => (unfold InR; (try dsimp only); omega)); conv => whnf) | ((with_reducible refine And.intro ?hh ?_); (case hh => ((try dsimp only); omega)); conv => whnf) | ((with_reducible refine And.intro ?hh ?_); (case hh => ((conv => whnf); (repeat' (first | exact True.intro | rfl | refine And.intro ?_ ?_)); done)); conv => whnf) | fail))
      (refine ⟨[], ?_, rfl, rfl, trivial, (by (repeat' (first | exact True.intro | rfl | refine And.intro ?_ ?_)))⟩; simp only [renV, renL]; (first | done | rfl | simp | grind))
  · rw [decide_eq_false hg] at kG
    rw [decide_eq_true (show D.length ≤ 80 by omega), Bool.true_and]
    generalize ckP n D = e at *
    cases q1
    all_goals
      (conv => whnf); (repeat' (first | ((with_reducible refine ifb_mk (fun hc => ?_) (fun hc => ?_)) <;> ((try simp only [decide_eq_true_eq, decide_eq_false_iff_not, Bool.not_eq_true', Bool.not_eq_false', Int.not_lt, Int.not_le, ne_eq, Decidable.not_not, beq_iff_eq, List.cons.injEq, and_true] at hc); (first | (exfalso; omega) | conv => whnf))) | ((with_reducible refine And.intro True.intro ?_); conv => whnf) | ((with_reducible refine CallX.all ?_); refine CallW.of_ok (kG _ _ (by first | exact SlC.own rfl | exact iNil (by omega))) ?_; conv => whnf) | ((with_reducible refine CallX.all ?_); refine CallW.of_ok (kC _ _ (by first | exact SlC.own rfl | exact iNil (by omega))) ?_; conv => whnf) | ((with_reducible refine And.intro ?hh ?_); (case hh => (unfold InR; (try dsimp only); omega)); conv => whnf) | ((with_reducible refine And.intro ?hh ?_); (case hh => ((try dsimp only); omega)); conv => whnf) | ((with_reducible refine And.intro ?hh ?_); (case hh => ((conv => whnf); (repeat' (first | exact True.intro | rfl | refine And.intro ?_ ?_)); done)); conv => whnf) | fail))
      (refine ⟨[], ?_, rfl, rfl, trivial, (by (repeat' (first | exact True.intro | rfl | refine And.intro ?_ ?_)))⟩; simp only [renV, renL]; (first | done | rfl | simp | grind))
theorem fine_ck {n : Int} {D : List Int} (h : fineB n D = true) : ckP n D = 0 := by
  unfold fineB at h
  rw [Bool.and_eq_true, decide_eq_true_eq, decide_eq_true_eq] at h
  exact h.2
end Go.Proofs.P

namespace Go.Proofs.P
open Go.As
set_option maxRecDepth 20000
set_option linter.unusedVariables false
set_option linter.unusedSimpArgs false

/-! ### Motions, one after another, on plates -/

def aftAll : Bool := (List.range 8).all fun a => Nat.blt (invN a) 8 && Nat.beq (aftN a (invN a)) 0 && Nat.beq (aftN (invN a) a) 0 && (List.range 8).all fun b => Nat.blt (aftN a b) 8 && (List.range 8).all fun c => Nat.beq (aftN (aftN a b) c) (aftN a (aftN b c))
theorem aftAll_ok : aftAll = true := by kernel_rfl
theorem aft_lt {a b : Nat} (ha : a < 8) (hb : b < 8) : aftN a b < 8 := by
  have h1 := all_range aftAll_ok ha
  simp only [Bool.and_eq_true, Nat.blt_eq] at h1
  have h2 := all_range h1.2 hb
  simp only [Bool.and_eq_true, Nat.blt_eq] at h2
  exact h2.1
theorem aft_assoc {a b c : Nat} (ha : a < 8) (hb : b < 8) (hc : c < 8) : aftN (aftN a b) c = aftN a (aftN b c) := by
  have h1 := all_range aftAll_ok ha
  simp only [Bool.and_eq_true] at h1
  have h2 := all_range h1.2 hb
  simp only [Bool.and_eq_true] at h2
  exact Nat.eq_of_beq_eq_true (all_range h2.2 hc)
theorem aft_inv {a : Nat} (ha : a < 8) : aftN a (invN a) = 0 ∧ aftN (invN a) a = 0 := by
  have h1 := all_range aftAll_ok ha
  simp only [Bool.and_eq_true] at h1
  exact ⟨Nat.eq_of_beq_eq_true h1.1.1.2, Nat.eq_of_beq_eq_true h1.1.2⟩

def sg2All : Bool := (List.range 9).all fun n => (List.range 8).all fun a => (List.range 8).all fun b => (List.range (n * n)).all fun j => Nat.beq (sgN n (invN a) (sgN n (invN b) j)) (sgN n (invN (aftN a b)) j)
theorem sg2All_ok : sg2All = true := by kernel_rfl
theorem mov_mov {n a b : Nat} {D : List Int} (hn : n ≤ 8) (ha : a < 8) (hb : b < 8) (hD : D.length = n * n) : movL n b (movL n a D) = movL n (aftN a b) D := by
  refine getD_ext (by rw [movL_len, movL_len, movL_len]) fun j hj => ?_
  rw [movL_len, movL_len] at hj
  have hf := sg_facts hn (inv_lt hb) (show j < n * n by omega)
  rw [movL_at (by rw [movL_len]; exact hj), movL_at (by omega), movL_at hj]
  have := all_range (all_range (all_range (all_range sg2All_ok (show n < 9 by omega)) ha) hb) (show j < n * n by omega)
  rw [Nat.eq_of_beq_eq_true this]
theorem mov_zero {n : Nat} {D : List Int} : movL n 0 D = D := by
  refine getD_ext (by rw [movL_len]) fun j hj => ?_
  rw [movL_len] at hj
  rw [movL_at hj]
  have e : sgN n (invN 0) j = j := by
    show (j / n) * n + j % n = j
    rw [Nat.mul_comm]; exact Nat.div_add_mod j n
  rw [e]
theorem wi_mem {D : List Int} (h : wi 0 3 D = true) (k : Nat) : 0 ≤ D.getD k 0 ∧ D.getD k 0 ≤ 3 := by
  by_cases hk : k < D.length
  · have := List.all_eq_true.1 h (D.getD k 0) (by rw [List.getD_eq_getElem?_getD, List.getElem?_eq_getElem hk]; exact List.getElem_mem hk)
    exact of_decide_eq_true this
  · rw [List.getD_eq_getElem?_getD, List.getElem?_eq_none (by omega)]; decide
theorem wi_mov {n m : Nat} {D : List Int} (h : wi 0 3 D = true) : wi 0 3 (movL n m D) = true := by
  unfold wi movL
  rw [List.all_eq_true]
  intro x hx
  obtain ⟨j, _, rfl⟩ := List.mem_map.1 hx
  exact decide_eq_true (wi_mem h _)

theorem x8 {a : Int} (ha : 0 ≤ a ∧ a ≤ 255) : ∃ x : Nat, x < 8 ∧ IntKind.i64.wrap (a.tmod 8) = (x : Int) := by
  refine ⟨a.toNat % 8, Nat.mod_lt _ (by decide), ?_⟩
  obtain ⟨k, rfl⟩ : ∃ k : Nat, a = k := ⟨a.toNat, by omega⟩
  have e : ((k : Int).tmod 8) = ((k % 8 : Nat) : Int) := rfl
  rw [e, Int.toNat_natCast]
  have : k % 8 < 8 := Nat.mod_lt _ (by decide)
  generalize k % 8 = x at *
  unfold IntKind.wrap
  simp [IntKind.signed, IntKind.bits]
  omega
theorem aftP_ok (h : H) (a b : Nat) (ha : a < 8) (hb : b < 8) : CallOk Try.prog 27 [.int .i64 a, .int .i64 b] h (.tup [.int .i64 (aftN a b : Nat), .int .i64 0]) h := by
  have kM := fun h' sv hs => areMotions2_ok h' a b sv hs
  rw [decide_eq_true (by omega), decide_eq_true (by omega)] at kM
  have kA := fun h' => after_ok h' a b ha hb
  refine CallOk.run0 Try.func27 rfl rfl rfl rfl rfl (WpR.of_vc ?_)
  (conv => whnf); (repeat' (first | ((with_reducible refine ifb_mk (fun hc => ?_) (fun hc => ?_)) <;> ((try simp only [decide_eq_true_eq, decide_eq_false_iff_not, Bool.not_eq_true', Bool.not_eq_false', Int.not_lt, Int.not_le, ne_eq, Decidable.not_not, beq_iff_eq, List.cons.injEq, and_true] at hc); (first | (exfalso; omega) | conv => whnf))) | ((with_reducible refine And.intro True.intro ?_); conv => whnf) | ((with_reducible refine CallX.all ?_); refine CallW.of_ok (kM _ _ (SlC.own rfl)) ?_; conv => whnf) | ((with_reducible refine CallX.all ?_); refine CallW.of_ok (kA _) ?_; conv => whnf) | ((with_reducible refine And.intro ?hh ?_); (case hh => (unfold InR; (try dsimp only); omega)); conv => whnf) | ((with_reducible refine And.intro ?hh ?_); (case hh => ((try dsimp only); omega)); conv => whnf) | ((with_reducible refine And.intro ?hh ?_); (case hh => ((conv => whnf); (repeat' (first | exact True.intro | rfl | refine And.intro ?_ ?_)); done)); conv => whnf) | fail))
  (refine ⟨[], ?_, rfl, rfl, trivial, (by (repeat' (first | exact True.intro | rfl | refine And.intro ?_ ?_)))⟩; simp only [renV, renL]; (first | done | rfl | simp | grind))
theorem invP_ok (h : H) (a : Nat) (ha : a < 8) : CallOk Try.prog 29 [.int .i64 a] h (.tup [.int .i64 (invN a : Nat), .int .i64 0]) h := by
  have kM := fun h' sv hs => areMotions1_ok h' a sv hs
  rw [decide_eq_true (by omega)] at kM
  have kI := fun h' => inverse_ok h' a ha
  refine CallOk.run0 Try.func29 rfl rfl rfl rfl rfl (WpR.of_vc ?_)
  (conv => whnf); (repeat' (first | ((with_reducible refine ifb_mk (fun hc => ?_) (fun hc => ?_)) <;> ((try simp only [decide_eq_true_eq, decide_eq_false_iff_not, Bool.not_eq_true', Bool.not_eq_false', Int.not_lt, Int.not_le, ne_eq, Decidable.not_not, beq_iff_eq, List.cons.injEq, and_true] at hc); (first | (exfalso; omega) | conv => whnf))) | ((with_reducible refine And.intro True.intro ?_); conv => whnf) | ((with_reducible refine CallX.all ?_); refine CallW.of_ok (kM _ _ (SlC.own rfl)) ?_; conv => whnf) | ((with_reducible refine CallX.all ?_); refine CallW.of_ok (kI _) ?_; conv => whnf) | ((with_reducible refine And.intro ?hh ?_); (case hh => (unfold InR; (try dsimp only); omega)); conv => whnf) | ((with_reducible refine And.intro ?hh ?_); (case hh => ((try dsimp only); omega)); conv => whnf) | ((with_reducible refine And.intro ?hh ?_); (case hh => ((conv => whnf); (repeat' (first | exact True.intro | rfl | refine And.intro ?_ ?_)); done)); conv => whnf) | fail))
  (refine ⟨[], ?_, rfl, rfl, trivial, (by (repeat' (first | exact True.intro | rfl | refine And.intro ?_ ?_)))⟩; simp only [renV, renL]; (first | done | rfl | simp | grind))
theorem isM_ok (h : H) (a : Nat) (ha : a < 8) : CallOk Try.prog 53 [.int .i64 a] h (.bool true) h := by
  have := isMotion_ok h a
  rwa [decide_eq_true (by omega)] at this
end Go.Proofs.P
