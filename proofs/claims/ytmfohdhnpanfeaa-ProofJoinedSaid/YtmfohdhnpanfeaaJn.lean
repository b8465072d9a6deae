/- What the functions answer that the laws call, one after another (Jn). -/
import Derived.Test.YtmfohdhnpanfeaaAs6
import Derived.Test.YtmfohdhnpanfeaaLn

set_option linter.unusedVariables false
namespace Go.Proofs.Q
open Go.As
set_option maxRecDepth 20000
set_option linter.unusedVariables false
set_option linter.unusedSimpArgs false
theorem lcs_pre {K N : Nat → Nat → Bool} (n : Nat) (h : ∀ i k, K (n + i) (n + k) = N i k) : ∀ i k, lcs K (n + i) (n + k) ≤ n + lcs N i k
  | 0, k => by have := lcs_le1 K (n + 0) (n + k); omega
  | i + 1, 0 => by have := lcs_le2 K (n + (i + 1)) (n + 0); omega
  | i + 1, k + 1 => by
    have h1 := lcs_up1 N i (k + 1)
    have h2 := lcs_up2 N (i + 1) k
    rcases lcs_cases K (n + i) (n + k) with e | e | ⟨hm, e⟩
    · have ih := lcs_pre n h i (k + 1)
      show lcs K (n + i + 1) (n + k + 1) ≤ _
      rw [e]
      exact Nat.le_trans ih (by omega)
    · have ih := lcs_pre n h (i + 1) k
      show lcs K (n + i + 1) (n + k + 1) ≤ _
      rw [e]
      exact Nat.le_trans ih (by omega)
    · have ih := lcs_pre n h i k
      have h3 := lcs_pair (M := N) (i := i) (k := k) (by rw [← h]; exact hm)
      show lcs K (n + i + 1) (n + k + 1) ≤ _
      rw [e]
      omega
theorem lcs_end (K : Nat → Nat → Bool) (i k : Nat) : ∀ n, lcs K (i + n) (k + n) ≤ lcs K i k + n
  | 0 => Nat.le_refl _
  | n + 1 => by
    have ih := lcs_end K i k n
    have h1 := lcs_lip1 K (i + n) (k + n)
    have h2 := lcs_lip2 K (i + n) (k + n)
    show lcs K (i + n + 1) (k + n + 1) ≤ _
    rcases lcs_cases K (i + n) (k + n) with e | e | ⟨_, e⟩ <;> omega
theorem byteAt_l {a b : List UInt8} {i : Nat} (h : i < a.length) : byteAt (a ++ b) i = byteAt a i := by
  unfold byteAt
  rw [List.getD_eq_getElem?_getD, List.getElem?_append_left h, List.getD_eq_getElem?_getD]
theorem byteAt_r (a b : List UInt8) (i : Nat) : byteAt (a ++ b) (a.length + i) = byteAt b i := by
  unfold byteAt
  rw [List.getD_eq_getElem?_getD, List.getElem?_append_right (by omega), Nat.add_sub_cancel_left, List.getD_eq_getElem?_getD]
theorem mq_l (a b c d : List UInt8) (i k : Nat) (hi : i < a.length) (hk : k < b.length) : mq (a ++ c) (b ++ d) i k = mq a b i k := by
  unfold mq
  rw [byteAt_l hi, byteAt_l hk]
  exact decide_eq_decide.2 ⟨fun h => ⟨hi, hk, h.2.2⟩, fun h => ⟨by rw [List.length_append]; omega, by rw [List.length_append]; omega, h.2.2⟩⟩
theorem mq_r (a b c d : List UInt8) (i k : Nat) : mq (a ++ c) (b ++ d) (a.length + i) (b.length + k) = mq c d i k := by
  unfold mq
  rw [byteAt_r, byteAt_r, List.length_append, List.length_append]
  exact decide_eq_decide.2 ⟨fun h => ⟨by omega, by omega, h.2.2⟩, fun h => ⟨by omega, by omega, h.2.2⟩⟩
theorem lcs_self (a : List UInt8) : lcs (mq a a) a.length a.length = a.length := lcs_diag fun i hi => decide_eq_true ⟨hi, hi, rfl⟩
theorem few_two (a b c d : List UInt8) : fewI (a ++ c) (b ++ d) ≤ fewI a b + fewI c d := by
  unfold fewI
  have h := lcs_add (M := mq a b) (N := mq c d) (K := mq (a ++ c) (b ++ d)) a.length b.length (fun i k hi hk => mq_l a b c d i k hi hk) (fun i k => mq_r a b c d i k) c.length d.length
  rw [List.length_append, List.length_append]
  omega
theorem few_pre (a b d : List UInt8) : fewI (a ++ b) (a ++ d) = fewI b d := by
  have h1 := few_two a a b d
  rw [(few_eq a a).2 rfl] at h1
  have h2 := lcs_pre (K := mq (a ++ b) (a ++ d)) (N := mq b d) a.length (fun i k => mq_r a a b d i k) b.length d.length
  unfold fewI at h1 ⊢
  rw [List.length_append, List.length_append] at h1 ⊢
  omega
theorem few_end (b c d : List UInt8) : fewI (b ++ c) (d ++ c) = fewI b d := by
  have h1 := few_two b d c c
  rw [(few_eq c c).2 rfl] at h1
  have h2 := lcs_end (mq (b ++ c) (d ++ c)) b.length d.length c.length
  rw [lcs_congr (M := mq (b ++ c) (d ++ c)) (N := mq b d) (i := b.length) (k := d.length) (fun i k hi hk => mq_l b d c c i k hi hk)] at h2
  unfold fewI at h1 ⊢
  rw [List.length_append, List.length_append] at h1 ⊢
  omega
set_option maxHeartbeats 4000000 in
theorem proofJoined_ok (hW : ∀ h, CallOk Try.prog 19 [] h (.bool true) h) (h : H) (a b c d : List UInt8) : CallOk Try.prog 14 [tx a, tx b, tx c, tx d] h (.bool true) h := by
  have k1 := fun h' => textsL_ok h' a b
  have k2 := fun h' => textsL_ok h' c d
  have k3 := fun h' => textsL_ok h' (a ++ c) (b ++ d)
  have k4 := fun h' => textsL_ok h' (a ++ b) (a ++ d)
  have k5 := fun h' => textsL_ok h' (b ++ c) (d ++ c)
  by_cases h1 : ok2 a b
  · rw [decide_eq_true h1] at k1
    have z1 : _ ∧ _ := h1
    by_cases h2 : ok2 c d
    · rw [decide_eq_true h2] at k2
      have z2 : _ ∧ _ := h2
      by_cases h3 : ok2 (a ++ c) (b ++ d)
      · rw [decide_eq_true h3] at k3
        have z3 : _ ∧ _ := h3
        rw [List.length_append, List.length_append] at z3
        by_cases h4 : ok2 (a ++ b) (a ++ d)
        · rw [decide_eq_true h4] at k4
          have z4 : _ ∧ _ := h4
          rw [List.length_append, List.length_append] at z4
          by_cases h5 : ok2 (b ++ c) (d ++ c)
          · rw [decide_eq_true h5] at k5
            have z5 : _ ∧ _ := h5
            rw [List.length_append, List.length_append] at z5
            have f1 := fun h' => fewest_ok h' (a ++ c) (b ++ d) h3.1 h3.2
            have f2 := fun h' => fewest_ok h' a b h1.1 h1.2
            have f3 := fun h' => fewest_ok h' c d h2.1 h2.2
            have f4 := fun h' => fewest_ok h' (a ++ b) (a ++ d) h4.1 h4.2
            have f5 := fun h' => fewest_ok h' (b ++ c) (d ++ c) h5.1 h5.2
            have f6 := fun h' => fewest_ok h' b d h1.2 h2.2
            have g1 := few_bd a b
            have g2 := few_bd c d
            have g3 := few_two a b c d
            rw [few_pre] at f4
            rw [few_end] at f5
            generalize fewI a b = x at *
            generalize fewI c d = y at *
            generalize fewI b d = w at *
            generalize fewI (a ++ c) (b ++ d) = z at *
            refine CallOk.run0 Try.func14 rfl rfl rfl rfl rfl (WpR.of_vc ?_)
            (conv => whnf); (repeat' (first | ((with_reducible refine ifb_mk (fun hc => ?_) (fun hc => ?_)) <;> ((try simp only [decide_eq_true_eq, decide_eq_false_iff_not, Bool.not_eq_true', Bool.not_eq_false', Int.not_lt, Int.not_le, ne_eq, Decidable.not_not, beq_iff_eq, List.cons.injEq, and_true] at hc); (first | (exfalso; omega) | exact absurd True.intro hc | conv => whnf))) | ((with_reducible refine And.intro True.intro ?_); conv => whnf) | ((with_reducible refine CallX.all ?_); refine CallW.of_ok (k1 _) ?_; conv => whnf) | ((with_reducible refine CallX.all ?_); refine CallW.of_ok (k2 _) ?_; conv => whnf) | ((with_reducible refine CallX.all ?_); refine CallW.of_ok (k3 _) ?_; conv => whnf) | ((with_reducible refine CallX.all ?_); refine CallW.of_ok (k4 _) ?_; conv => whnf) | ((with_reducible refine CallX.all ?_); refine CallW.of_ok (k5 _) ?_; conv => whnf) | ((with_reducible refine CallX.all ?_); refine CallW.of_ok (hW _) ?_; conv => whnf) | ((with_reducible refine CallX.all ?_); refine CallW.of_ok (f1 _) ?_; conv => whnf) | ((with_reducible refine CallX.all ?_); refine CallW.of_ok (f2 _) ?_; conv => whnf) | ((with_reducible refine CallX.all ?_); refine CallW.of_ok (f3 _) ?_; conv => whnf) | ((with_reducible refine CallX.all ?_); refine CallW.of_ok (f4 _) ?_; conv => whnf) | ((with_reducible refine CallX.all ?_); refine CallW.of_ok (f5 _) ?_; conv => whnf) | ((with_reducible refine CallX.all ?_); refine CallW.of_ok (f6 _) ?_; conv => whnf) | ((with_reducible refine And.intro ?hh ?_); (case hh => exact condA); conv => whnf) | fail))
            (refine ⟨[], ?_, rfl, rfl, trivial, trivs⟩; simp only [renV, renL]; (first | done | rfl | (simp; done) | (simp; omega) | grind))
          · rw [decide_eq_false h5] at k5
            refine CallOk.run0 Try.func14 rfl rfl rfl rfl rfl (WpR.of_vc ?_)
            (conv => whnf); (repeat' (first | ((with_reducible refine ifb_mk (fun hc => ?_) (fun hc => ?_)) <;> ((try simp only [decide_eq_true_eq, decide_eq_false_iff_not, Bool.not_eq_true', Bool.not_eq_false', Int.not_lt, Int.not_le, ne_eq, Decidable.not_not, beq_iff_eq, List.cons.injEq, and_true] at hc); (first | (exfalso; omega) | exact absurd True.intro hc | conv => whnf))) | ((with_reducible refine And.intro True.intro ?_); conv => whnf) | ((with_reducible refine CallX.all ?_); refine CallW.of_ok (k1 _) ?_; conv => whnf) | ((with_reducible refine CallX.all ?_); refine CallW.of_ok (k2 _) ?_; conv => whnf) | ((with_reducible refine CallX.all ?_); refine CallW.of_ok (k3 _) ?_; conv => whnf) | ((with_reducible refine CallX.all ?_); refine CallW.of_ok (k4 _) ?_; conv => whnf) | ((with_reducible refine CallX.all ?_); refine CallW.of_ok (k5 _) ?_; conv => whnf) | ((with_reducible refine CallX.all ?_); refine CallW.of_ok (hW _) ?_; conv => whnf) | ((with_reducible refine And.intro ?hh ?_); (case hh => exact condA); conv => whnf) | fail))
            (refine ⟨[], ?_, rfl, rfl, trivial, trivs⟩; simp only [renV, renL]; (first | done | rfl | (simp; done) | (simp; omega) | grind))
        · rw [decide_eq_false h4] at k4
          refine CallOk.run0 Try.func14 rfl rfl rfl rfl rfl (WpR.of_vc ?_)
          (conv => whnf); (repeat' (first | ((with_reducible refine ifb_mk (fun hc => ?_) (fun hc => ?_)) <;> ((try simp only [decide_eq_true_eq, decide_eq_false_iff_not, Bool.not_eq_true', Bool.not_eq_false', Int.not_lt, Int.not_le, ne_eq, Decidable.not_not, beq_iff_eq, List.cons.injEq, and_true] at hc); (first | (exfalso; omega) | exact absurd True.intro hc | conv => whnf))) | ((with_reducible refine And.intro True.intro ?_); conv => whnf) | ((with_reducible refine CallX.all ?_); refine CallW.of_ok (k1 _) ?_; conv => whnf) | ((with_reducible refine CallX.all ?_); refine CallW.of_ok (k2 _) ?_; conv => whnf) | ((with_reducible refine CallX.all ?_); refine CallW.of_ok (k3 _) ?_; conv => whnf) | ((with_reducible refine CallX.all ?_); refine CallW.of_ok (k4 _) ?_; conv => whnf) | ((with_reducible refine CallX.all ?_); refine CallW.of_ok (k5 _) ?_; conv => whnf) | ((with_reducible refine CallX.all ?_); refine CallW.of_ok (hW _) ?_; conv => whnf) | ((with_reducible refine And.intro ?hh ?_); (case hh => exact condA); conv => whnf) | fail))
          (refine ⟨[], ?_, rfl, rfl, trivial, trivs⟩; simp only [renV, renL]; (first | done | rfl | (simp; done) | (simp; omega) | grind))
      · rw [decide_eq_false h3] at k3
        refine CallOk.run0 Try.func14 rfl rfl rfl rfl rfl (WpR.of_vc ?_)
        (conv => whnf); (repeat' (first | ((with_reducible refine ifb_mk (fun hc => ?_) (fun hc => ?_)) <;> ((try simp only [decide_eq_true_eq, decide_eq_false_iff_not, Bool.not_eq_true', Bool.not_eq_false', Int.not_lt, Int.not_le, ne_eq, Decidable.not_not, beq_iff_eq, List.cons.injEq, and_true] at hc); (first | (exfalso; omega) | exact absurd True.intro hc | conv => whnf))) | ((with_reducible refine And.intro True.intro ?_); conv => whnf) | ((with_reducible refine CallX.all ?_); refine CallW.of_ok (k1 _) ?_; conv => whnf) | ((with_reducible refine CallX.all ?_); refine CallW.of_ok (k2 _) ?_; conv => whnf) | ((with_reducible refine CallX.all ?_); refine CallW.of_ok (k3 _) ?_; conv => whnf) | ((with_reducible refine CallX.all ?_); refine CallW.of_ok (k4 _) ?_; conv => whnf) | ((with_reducible refine CallX.all ?_); refine CallW.of_ok (k5 _) ?_; conv => whnf) | ((with_reducible refine CallX.all ?_); refine CallW.of_ok (hW _) ?_; conv => whnf) | ((with_reducible refine And.intro ?hh ?_); (case hh => exact condA); conv => whnf) | fail))
        (refine ⟨[], ?_, rfl, rfl, trivial, trivs⟩; simp only [renV, renL]; (first | done | rfl | (simp; done) | (simp; omega) | grind))
    · rw [decide_eq_false h2] at k2
      refine CallOk.run0 Try.func14 rfl rfl rfl rfl rfl (WpR.of_vc ?_)
      (conv => whnf); (repeat' (first | ((with_reducible refine ifb_mk (fun hc => ?_) (fun hc => ?_)) <;> ((try simp only [decide_eq_true_eq, decide_eq_false_iff_not, Bool.not_eq_true', Bool.not_eq_false', Int.not_lt, Int.not_le, ne_eq, Decidable.not_not, beq_iff_eq, List.cons.injEq, and_true] at hc); (first | (exfalso; omega) | exact absurd True.intro hc | conv => whnf))) | ((with_reducible refine And.intro True.intro ?_); conv => whnf) | ((with_reducible refine CallX.all ?_); refine CallW.of_ok (k1 _) ?_; conv => whnf) | ((with_reducible refine CallX.all ?_); refine CallW.of_ok (k2 _) ?_; conv => whnf) | ((with_reducible refine CallX.all ?_); refine CallW.of_ok (k3 _) ?_; conv => whnf) | ((with_reducible refine CallX.all ?_); refine CallW.of_ok (k4 _) ?_; conv => whnf) | ((with_reducible refine CallX.all ?_); refine CallW.of_ok (k5 _) ?_; conv => whnf) | ((with_reducible refine CallX.all ?_); refine CallW.of_ok (hW _) ?_; conv => whnf) | ((with_reducible refine And.intro ?hh ?_); (case hh => exact condA); conv => whnf) | fail))
      (refine ⟨[], ?_, rfl, rfl, trivial, trivs⟩; simp only [renV, renL]; (first | done | rfl | (simp; done) | (simp; omega) | grind))
  · rw [decide_eq_false h1] at k1
    refine CallOk.run0 Try.func14 rfl rfl rfl rfl rfl (WpR.of_vc ?_)
    (conv => whnf); (repeat' (first | ((with_reducible refine ifb_mk (fun hc => ?_) (fun hc => ?_)) <;> ((try simp only [decide_eq_true_eq, decide_eq_false_iff_not, Bool.not_eq_true', Bool.not_eq_false', Int.not_lt, Int.not_le, ne_eq, Decidable.not_not, beq_iff_eq, List.cons.injEq, and_true] at hc); (first | (exfalso; omega) | exact absurd True.intro hc | conv => whnf))) | ((with_reducible refine And.intro True.intro ?_); conv => whnf) | ((with_reducible refine CallX.all ?_); refine CallW.of_ok (k1 _) ?_; conv => whnf) | ((with_reducible refine CallX.all ?_); refine CallW.of_ok (k2 _) ?_; conv => whnf) | ((with_reducible refine CallX.all ?_); refine CallW.of_ok (k3 _) ?_; conv => whnf) | ((with_reducible refine CallX.all ?_); refine CallW.of_ok (k4 _) ?_; conv => whnf) | ((with_reducible refine CallX.all ?_); refine CallW.of_ok (k5 _) ?_; conv => whnf) | ((with_reducible refine CallX.all ?_); refine CallW.of_ok (hW _) ?_; conv => whnf) | ((with_reducible refine And.intro ?hh ?_); (case hh => exact condA); conv => whnf) | fail))
    (refine ⟨[], ?_, rfl, rfl, trivial, trivs⟩; simp only [renV, renL]; (first | done | rfl | (simp; done) | (simp; omega) | grind))
end Go.Proofs.Q
