/- What the functions answer that the laws call, one after another (B11). -/
import Derived.Test.YtppfddfmcnlioaaAs6
import Derived.Test.YtppfddfmcnlioaaB7

set_option linter.unusedVariables false
namespace Go.Proofs.J
open Go.As
set_option maxRecDepth 20000
set_option linter.unusedVariables false
set_option linter.unusedSimpArgs false

/-! ### Orders by looks, and by all that follows -/

theorem php : ∀ (n : Nat) (f : Nat → Nat), (∀ i, i < n → f i < n) → (∀ i j, i < n → j < n → f i = f j → i = j) → ∀ v, v < n → ∃ i, i < n ∧ f i = v
  | 0, _, _, _, v, hv => by omega
  | n + 1, f, hf, hi, v, hv => by
    have h1 : ∀ i, i < n → f i ≠ f n := fun i hin he => by have := hi i n (by omega) (by omega) he; omega
    have hn := hf n (by omega)
    have ih := php n (fun i => if f n < f i then f i - 1 else f i) (fun i hin => by
      have := hf i (by omega)
      have := h1 i hin
      (try dsimp only)
      split <;> omega) (fun i j hin hjn he => by
      have a1 := h1 i hin
      have a2 := h1 j hjn
      (try dsimp only at he)
      refine hi i j (by omega) (by omega) ?_
      split at he <;> split at he <;> omega)
    by_cases e : v = f n
    · exact ⟨n, by omega, e.symm⟩
    · by_cases hg : f n < v
      · obtain ⟨i, hin, hiv⟩ := ih (v - 1) (by omega)
        have a1 := h1 i hin
        (try dsimp only at hiv)
        refine ⟨i, by omega, ?_⟩
        split at hiv <;> omega
      · obtain ⟨i, hin, hiv⟩ := ih v (by omega)
        have a1 := h1 i hin
        (try dsimp only at hiv)
        refine ⟨i, by omega, ?_⟩
        split at hiv <;> omega
theorem lkB_iff {n : Nat} {a b : Nat → Int} {x y : Int} : lkB n a b x y = true ↔ ∃ i, i < n ∧ a i = x ∧ b i = y := by
  unfold lkB
  rw [anyF_iff]
  refine exists_congr fun i => and_congr_right fun _ => ?_
  rw [decide_eq_true_eq]
  simp
theorem loT_bit {S : Nat} {a b : Nat → Int} {x y : Nat} : ∀ {n : Nat}, (∀ i, i < n → okL S a b i = true) → ((loT a b n y).testBit x = true ↔ ∃ i, i < n ∧ a i = x ∧ b i = y)
  | 0, _ => by
    show (0 : Nat).testBit x = true ↔ _
    rw [Nat.zero_testBit]
    exact ⟨fun h => (by cases h), fun ⟨i, hi, _⟩ => (by omega)⟩
  | n + 1, h => by
    have ih := loT_bit (x := x) (y := y) (n := n) fun i hi => h i (by omega)
    have h1 := of_decide_eq_true (h n (by omega))
    show (seT (loT a b n) (a n).toNat (b n).toNat y).testBit x = true ↔ _
    unfold seT
    constructor
    · intro hb
      split at hb
      · rename_i e
        rw [testBit_with, Bool.or_eq_true] at hb
        rcases hb with hb | hb
        · obtain ⟨i, hi, h2⟩ := ih.1 hb; exact ⟨i, by omega, h2⟩
        · have := of_decide_eq_true hb; exact ⟨n, by omega, by omega, by omega⟩
      · obtain ⟨i, hi, h2⟩ := ih.1 hb; exact ⟨i, by omega, h2⟩
    · rintro ⟨i, hi, h2, h3⟩
      by_cases e : i = n
      · subst e
        rw [if_pos (by omega), testBit_with, decide_eq_true (by omega), Bool.or_true]
      · have hb := ih.2 ⟨i, by omega, h2, h3⟩
        split
        · rw [testBit_with, hb, Bool.true_or]
        · exact hb
section
variable {S n k : Nat} {a b l : Nat → Int}
/-- Looks of the definitions, and of the program. -/
theorem lk_bit (hok : ∀ i, i < n → okL S a b i = true) {x y : Int} (hx : 0 ≤ x) (hy : 0 ≤ y) : (loT a b n y.toNat).testBit x.toNat = lkB n a b x y := by
  rw [Bool.eq_iff_iff, loT_bit hok, lkB_iff]
  refine exists_congr fun i => and_congr_right fun _ => ?_
  rw [Int.toNat_of_nonneg hx, Int.toNat_of_nonneg hy]
/-- Are no two equal? -/
def dsB (l : Nat → Int) (k : Nat) : Bool := allF k fun i => allF i fun j => !decide (l j = l i)
/-- Is each one a star? -/
def stB (S : Nat) (l : Nat → Int) (k : Nat) : Bool := allF k fun i => decide (0 ≤ l i ∧ l i < (S : Int))
/-- Does none come behind one that it was seen to be brighter than? -/
def rlB (n : Nat) (a b l : Nat → Int) (k : Nat) : Bool := allF k fun i => allF i fun j => !lkB n a b (l i) (l j)
theorem dsB_iff : dsB l k = true ↔ ∀ i j, i < k → j < i → l j ≠ l i := by
  unfold dsB
  rw [allF_iff]
  constructor
  · intro h i j hi hj
    have := allF_iff.1 (h i hi) j hj
    rw [Bool.not_eq_true', decide_eq_false_iff_not] at this
    exact this
  · intro h i hi
    refine allF_iff.2 fun j hj => ?_
    rw [Bool.not_eq_true', decide_eq_false_iff_not]
    exact h i j hi hj
theorem gd_iff : gdN S l k = k ↔ stB S l k = true ∧ dsB l k = true := by
  rw [gdN_all, dsB_iff]
  unfold stB
  rw [allF_iff]
  have hm : ∀ i, (∀ j, j ≤ i → 0 ≤ l j) → (mkF l i (l i).toNat = false ↔ ∀ j, j < i → l j ≠ l i) := fun i hn => by
    unfold mkF
    rw [← Bool.not_eq_true, anyF_iff]
    constructor
    · intro h j hj he
      exact h ⟨j, hj, decide_eq_true (by have := hn i (Nat.le_refl _); omega)⟩
    · rintro h ⟨j, hj, he⟩
      have := of_decide_eq_true he
      exact h j hj (by have := hn i (Nat.le_refl _); omega)
  constructor
  · intro h
    have h1 : ∀ i, i < k → (0 ≤ l i ∧ l i ≤ (S : Int) - 1) ∧ mkF l i (l i).toNat = false := fun i hi => by
      have := h i hi
      unfold gdP at this
      rw [Bool.and_eq_true, Bool.not_eq_true'] at this
      exact ⟨of_decide_eq_true this.1, this.2⟩
    exact ⟨fun i hi => decide_eq_true (by have := (h1 i hi).1; omega), fun i j hi hj => (hm i fun j hj => (h1 j (by omega)).1.1).1 (h1 i hi).2 j hj⟩
  · rintro ⟨h1, h2⟩ i hi
    unfold gdP
    rw [decide_eq_true (by have := of_decide_eq_true (h1 i hi); omega), Bool.true_and, (hm i fun j hj => (of_decide_eq_true (h1 j (by omega))).1).2 fun j hj => h2 i j hi hj]
    rfl
/-- All that are brighter come before just if no look is broken. -/
theorem or_iff (hok : ∀ i, i < n → okL S a b i = true) (hS : 1 ≤ S ∧ S ≤ 10) (hk : k = S) (hg : gdN S l k = k) : orB (clo (loT a b n)) l k = rlB n a b l k := by
  obtain ⟨hst, hds⟩ := gd_iff.1 hg
  rw [dsB_iff] at hds
  have hst : ∀ i, i < k → 0 ≤ l i ∧ l i < (S : Int) := fun i hi => of_decide_eq_true (allF_iff.1 hst i hi)
  have hTb := loT_tb hS.2 hok
  have hlkS : ∀ x y, (loT a b n y).testBit x = true → x < S ∧ x ≠ y := fun x y h => by
    obtain ⟨i, hi, h1, h2⟩ := (loT_bit hok).1 h
    have := of_decide_eq_true (hok i hi)
    omega
  have hsur : ∀ x, x < S → ∃ q, q < k ∧ (l q).toNat = x := fun x hx => by
    subst hk
    refine php k (fun i => (l i).toNat) (fun i hi => by have := hst i hi; (try dsimp only); omega) (fun i j hi hj he => ?_) x hx
    (try dsimp only at he)
    have h1 := hst i hi
    have h2 := hst j hj
    apply Classical.byContradiction
    intro hne
    rcases Nat.lt_or_gt_of_ne hne with hlt | hlt
    · exact hds j i hj hlt (by omega)
    · exact hds i j hi hlt (by omega)
  rw [Bool.eq_iff_iff]
  constructor
  · intro h
    refine allF_iff.2 fun i hi => allF_iff.2 fun j hj => ?_
    rw [Bool.not_eq_true']
    cases hlk : lkB n a b (l i) (l j) with
    | false => rfl
    | true =>
      rw [← lk_bit hok (hst i hi).1 (hst j (by omega)).1] at hlk
      have h1 := allF_iff.1 h j (by omega)
      have h2 := (subB_iff (by have := clo_lt (loT a b n) (l j).toNat; omega)).1 h1 _ (clo_bit.2 ⟨by have := (hlkS _ _ hlk).1; omega, .one hlk⟩)
      rw [gF_bit, anyF_iff] at h2
      obtain ⟨m, hm, he⟩ := h2
      have he := of_decide_eq_true he
      have a1 := hst i hi
      have a2 := hst m (by omega)
      exact absurd (by omega) (hds i m hi (by omega))
  · intro h
    have hno : ∀ i j, i < k → j < i → lkB n a b (l i) (l j) = false := fun i j hi hj => by
      have := allF_iff.1 (allF_iff.1 h i hi) j hj
      rwa [Bool.not_eq_true'] at this
    have hq : ∀ x p, p < k → (loT a b n (l p).toNat).testBit x = true → ∃ q, q < p ∧ (l q).toNat = x := fun x p hp hb => by
      obtain ⟨h1, h2⟩ := hlkS _ _ hb
      obtain ⟨q, hqk, hqx⟩ := hsur x h1
      have h3 : lkB n a b (l q) (l p) = true := by rw [← lk_bit hok (hst q hqk).1 (hst p hp).1, hqx]; exact hb
      refine ⟨q, ?_, hqx⟩
      rcases Nat.lt_trichotomy q p with hlt | heq | hgt
      · exact hlt
      · subst heq; exact absurd hqx.symm h2
      · rw [hno q p hqk hgt] at h3; cases h3
    have hall : ∀ x y, Rch (loT a b n) x y → ∀ p, p < k → (l p).toNat = y → ∃ q, q < p ∧ (l q).toNat = x := fun x y r => by
      induction r with
      | one hb => intro p hp he; subst he; exact hq _ p hp hb
      | step hb r ih =>
        intro p hp he
        subst he
        obtain ⟨m, hm, hmx⟩ := hq _ p hp hb
        obtain ⟨q, hq1, hq2⟩ := ih m (by omega) hmx
        exact ⟨q, by omega, hq2⟩
    refine allF_iff.2 fun p hp => (subB_iff (by have := clo_lt (loT a b n) (l p).toNat; omega)).2 fun x hx => ?_
    obtain ⟨_, r⟩ := clo_bit.1 hx
    obtain ⟨q, hq1, hq2⟩ := hall x _ r p hp rfl
    rw [gF_bit, anyF_iff]
    exact ⟨q, hq1, decide_eq_true hq2⟩
/-- CheckOrder as the definitions say. -/
theorem coE_eq (hok : ∀ i, i < n → okL S a b i = true) (hS : 1 ≤ S ∧ S ≤ 10) : coE S n a b k l = if k = S then (if stB S l k = true then (if dsB l k = true then (if rlB n a b l k = true then 0 else 16) else 2) else 2) else 15 := by
  unfold coE
  by_cases hk : k = S
  · rw [if_pos hk, if_pos hk]
    by_cases hg : gdN S l k = k
    · obtain ⟨h1, h2⟩ := gd_iff.1 hg
      rw [if_pos hg, if_pos h1, if_pos h2, or_iff hok hS hk hg]
    · rw [if_neg hg]
      by_cases h1 : stB S l k = true
      · rw [if_pos h1, if_neg fun h2 => hg (gd_iff.2 ⟨h1, h2⟩)]
      · rw [if_neg h1]
  · rw [if_neg hk, if_neg hk]
/-- Is each one and the next a look, as the definitions say? -/
def cjB (n : Nat) (a b l : Nat → Int) (k : Nat) : Bool := allF k fun i => lkB n a b (l i) (l ((i + 1) % k))
theorem ci_eq (hok : ∀ i, i < n → okL S a b i = true) (hst : stB S l k = true) : ciB (loT a b n) l k = cjB n a b l k := by
  have hst : ∀ i, i < k → 0 ≤ l i ∧ l i < (S : Int) := fun i hi => of_decide_eq_true (allF_iff.1 hst i hi)
  rw [Bool.eq_iff_iff]
  unfold ciB cjB
  rw [allF_iff, allF_iff]
  refine forall_congr' fun i => forall_congr' fun hi => ?_
  have h1 := hst i hi
  have h2 := hst ((i + 1) % k) (Nat.mod_lt _ (by omega))
  rw [lk_bit hok h1.1 h2.1]
theorem wi_st : wiR 0 ((S : Int) - 1) k l = stB S l k := by
  rw [Bool.eq_iff_iff]
  unfold wiR stB
  rw [allF_iff, allF_iff]
  refine forall_congr' fun i => forall_congr' fun hi => ?_
  rw [decide_eq_true_eq, decide_eq_true_eq]
  omega
theorem ciE_eq (hok : ∀ i, i < n → okL S a b i = true) : ciE S n a b k l = if 2 ≤ k ∧ k ≤ 10 then (if stB S l k = true then (if cjB n a b l k = true then 0 else 14) else 2) else 6 := by
  unfold ciE
  rw [wi_st]
  by_cases hk : 2 ≤ k ∧ k ≤ 10
  · rw [if_pos hk, if_pos hk]
    by_cases hs : stB S l k = true
    · rw [if_pos hs, if_pos hs, ci_eq hok hs]
    · rw [if_neg hs, if_neg hs]
  · rw [if_neg hk, if_neg hk]
end
end Go.Proofs.J

namespace Go.Proofs.J
open Go.As
set_option maxRecDepth 20000
set_option linter.unusedVariables false
set_option linter.unusedSimpArgs false

/-! ### The definitions: CheckOrder, CheckCircle -/

set_option maxHeartbeats 8000000 in
theorem checkOrderR_ok (h : As.H) (S : Nat) (ex : Bool) (n : Nat) (a b : Nat → Int) (hv : ckB S n a b = 0) (ex2 : Bool) (k : Nat) (hk : k ≤ 9223372036854775807) (l : Nat → Int) :
    CallOk Try.prog 23 [bkV S ex n a b, .rsl ex2 1 k (iG l)] h (.int .i64 (coE S n a b k l)) h := by
  obtain ⟨hS, hn, hok⟩ := ckB_fine hv
  rw [coE_eq hok hS]
  have k1 := fun h' => checkBookR_ok h' S ex n a b (by omega)
  rw [hv] at k1
  have kS := fun i h' => isStar_ok h' S ex n a b (l i)
  have kL := fun i j h' => look_ok h' S ex n a b (l i) (l j) (by omega)
  by_cases h1 : k = S
  rotate_left
  · rw [if_neg h1]
    refine CallOk.run0 Try.func23 rfl rfl rfl rfl rfl (WpR.of_vc ?_)
    (conv => whnf); (repeat' (first | ((with_reducible refine ifb_mk (fun hc => ?_) (fun hc => ?_)) <;> ((try simp only [decide_eq_true_eq, decide_eq_false_iff_not, Bool.not_eq_true', Bool.not_eq_false', Int.not_lt, Int.not_le, ne_eq, Decidable.not_not, beq_iff_eq, List.cons.injEq, and_true] at hc); (first | (exfalso; omega) | exact absurd True.intro hc | conv => whnf))) | ((with_reducible refine And.intro True.intro ?_); conv => whnf) | ((with_reducible refine CallX.all ?_); refine CallW.of_ok (k1 _) ?_; conv => whnf) | ((with_reducible refine And.intro ?hh ?_); (case hh => exact condA); conv => whnf) | fail))
    all_goals first | (refine ⟨[], ?_, rfl, rfl, trivial, trivs⟩; simp only [renV, renL]; (first | done | rfl | (simp; done) | (simp; omega) | grind)) | (exfalso; omega)
  rw [if_pos h1]
  have s1 := fun i => @allF_f k i fun i => decide (0 ≤ l i ∧ l i < (S : Int))
  have s2 := @allF_t k fun i => decide (0 ≤ l i ∧ l i < (S : Int))
  have d1 := fun i => @allF_f k i fun i => allF i fun j => !decide (l j = l i)
  have d2 := @allF_t k fun i => allF i fun j => !decide (l j = l i)
  have d3 := fun i j => @allF_f i j fun j => !decide (l j = l i)
  have d4 := fun i => @allF_t i fun j => !decide (l j = l i)
  have r1 := fun i => @allF_f k i fun i => allF i fun j => !lkB n a b (l i) (l j)
  have r2 := @allF_t k fun i => allF i fun j => !lkB n a b (l i) (l j)
  have r3 := fun i j => @allF_f i j fun j => !lkB n a b (l i) (l j)
  have r4 := fun i => @allF_t i fun j => !lkB n a b (l i) (l j)
  unfold stB dsB rlB
  generalize (allF k fun i => decide (0 ≤ l i ∧ l i < (S : Int))) = zs at *
  generalize (allF k fun i => allF i fun j => !decide (l j = l i)) = zd at *
  generalize (allF k fun i => allF i fun j => !lkB n a b (l i) (l j)) = zr at *
  refine CallOk.run0 Try.func23 rfl rfl rfl rfl rfl (WpR.of_vc ?_)
  (conv => whnf); (repeat' (first | ((with_reducible refine ifb_mk (fun hc => ?_) (fun hc => ?_)) <;> ((try simp only [decide_eq_true_eq, decide_eq_false_iff_not, Bool.not_eq_true', Bool.not_eq_false', Int.not_lt, Int.not_le, ne_eq, Decidable.not_not, beq_iff_eq, List.cons.injEq, and_true] at hc); (first | (exfalso; omega) | exact absurd True.intro hc | conv => whnf))) | ((with_reducible refine And.intro True.intro ?_); conv => whnf) | ((with_reducible refine CallX.all ?_); refine CallW.of_ok (k1 _) ?_; conv => whnf) | ((with_reducible refine And.intro ?hh ?_); (case hh => exact condA); conv => whnf) | fail))
  all_goals first | (exfalso; omega) | skip
  refine WpR.loopA (ι := Nat) [] [1, 2] [] [] 1 (fun i => [(5, .int .i64 i)]) (fun _ => []) (fun i => k - i) (fun i => i ≤ k ∧ ∀ j, j < i → decide (0 ≤ l j ∧ l j < (S : Int)) = true) ?_ (0) (⟨by omega, fun k hk => absurd hk (Nat.not_lt_zero _)⟩) [] Back.auto
  rintro i ⟨j1, j2⟩
  refine WpR.of_vc ?_
  by_cases hi : i < k
  · have kS := kS i
    cases hw : decide (0 ≤ l i ∧ l i < (S : Int)) with
    | true =>
      rw [hw] at kS
      have hnx := below_succ j2 hw
      (conv => whnf); (repeat' (first | ((with_reducible refine ifb_mk (fun hc => ?_) (fun hc => ?_)) <;> ((try simp only [decide_eq_true_eq, decide_eq_false_iff_not, Bool.not_eq_true', Bool.not_eq_false', Int.not_lt, Int.not_le, ne_eq, Decidable.not_not, beq_iff_eq, List.cons.injEq, and_true] at hc); (first | (exfalso; omega) | exact absurd True.intro hc | conv => whnf))) | ((with_reducible refine And.intro True.intro ?_); conv => whnf) | ((with_reducible refine grd_and ?_); refine And.intro (hi) ?_; conv => whnf) | ((with_reducible refine grd_ex ?_); refine ex_ok (kS _) ?_; conv => whnf) | ((with_reducible refine CallX.all ?_); refine CallW.of_ok (kS _) ?_; conv => whnf) | ((with_reducible refine WpR.draw (id := 8) mixed [0, 1, 2, 3, 4, 5, 6] [0, 0, 0, 6, 14, 31, 63] ?hh ?_); (case hh => kernel_rfl); conv => whnf) | ((with_reducible refine WpR.draw (id := 16) mixed [0, 1, 2, 3, 4, 5, 6, 7, 8] [0, 0, 3, 7, 0, 0, 48, 112, 255] ?hh ?_); (case hh => kernel_rfl); conv => whnf) | ((with_reducible refine WpR.draw (id := 24) mixed [0, 1, 2, 3, 4, 5, 6, 7, 8, 9] [0, 0, 0, 6, 14, 0, 0, 96, 224, 511] ?hh ?_); (case hh => kernel_rfl); conv => whnf) | ((with_reducible refine And.intro ?hh ?_); (case hh => exact condA); conv => whnf) | fail))
      all_goals first | (exfalso; omega) | exact ⟨i + 1, [], by omega, ⟨by omega, hnx⟩, Back.auto⟩
    | false =>
      rw [hw] at kS
      have ez : zs = false := s1 i hi hw
      subst ez
      (conv => whnf); (repeat' (first | ((with_reducible refine ifb_mk (fun hc => ?_) (fun hc => ?_)) <;> ((try simp only [decide_eq_true_eq, decide_eq_false_iff_not, Bool.not_eq_true', Bool.not_eq_false', Int.not_lt, Int.not_le, ne_eq, Decidable.not_not, beq_iff_eq, List.cons.injEq, and_true] at hc); (first | (exfalso; omega) | exact absurd True.intro hc | conv => whnf))) | ((with_reducible refine And.intro True.intro ?_); conv => whnf) | ((with_reducible refine grd_and ?_); refine And.intro (hi) ?_; conv => whnf) | ((with_reducible refine grd_ex ?_); refine ex_ok (kS _) ?_; conv => whnf) | ((with_reducible refine CallX.all ?_); refine CallW.of_ok (kS _) ?_; conv => whnf) | ((with_reducible refine WpR.draw (id := 8) mixed [0, 1, 2, 3, 4, 5, 6] [0, 0, 0, 6, 14, 31, 63] ?hh ?_); (case hh => kernel_rfl); conv => whnf) | ((with_reducible refine WpR.draw (id := 16) mixed [0, 1, 2, 3, 4, 5, 6, 7, 8] [0, 0, 3, 7, 0, 0, 48, 112, 255] ?hh ?_); (case hh => kernel_rfl); conv => whnf) | ((with_reducible refine WpR.draw (id := 24) mixed [0, 1, 2, 3, 4, 5, 6, 7, 8, 9] [0, 0, 0, 6, 14, 0, 0, 96, 224, 511] ?hh ?_); (case hh => kernel_rfl); conv => whnf) | ((with_reducible refine And.intro ?hh ?_); (case hh => exact condA); conv => whnf) | fail))
      all_goals first | (refine ⟨[], ?_, rfl, rfl, trivial, trivs⟩; simp only [renV, renL]; (first | done | rfl | (simp; done) | (simp; omega) | grind)) | (exfalso; omega)
  · have ez : zs = true := s2 fun j hj => j2 j (by omega)
    subst ez
    rw [if_pos rfl]
    (conv => whnf); (repeat' (first | ((with_reducible refine ifb_mk (fun hc => ?_) (fun hc => ?_)) <;> ((try simp only [decide_eq_true_eq, decide_eq_false_iff_not, Bool.not_eq_true', Bool.not_eq_false', Int.not_lt, Int.not_le, ne_eq, Decidable.not_not, beq_iff_eq, List.cons.injEq, and_true] at hc); (first | (exfalso; omega) | exact absurd True.intro hc | conv => whnf))) | ((with_reducible refine And.intro True.intro ?_); conv => whnf) | ((with_reducible refine grd_and ?_); refine And.intro (hi) ?_; conv => whnf) | ((with_reducible refine And.intro ?hh ?_); (case hh => exact condA); conv => whnf) | fail))
    all_goals first | (exfalso; omega) | skip
    clear s1 s2 j1 j2 hi
    refine WpR.loopA (ι := Nat) [] [1, 2] [] [] 1 (fun i => [(6, .int .i64 i)]) (fun _ => []) (fun i => k - i) (fun i => i ≤ k ∧ ∀ i', i' < i → (allF i' fun j => !decide (l j = l i')) = true) ?_ (0) (⟨by omega, fun k hk => absurd hk (Nat.not_lt_zero _)⟩) [] Back.auto
    rintro i ⟨j1, j2⟩
    refine WpR.of_vc ?_
    by_cases hi : i < k
    · (conv => whnf); (repeat' (first | ((with_reducible refine ifb_mk (fun hc => ?_) (fun hc => ?_)) <;> ((try simp only [decide_eq_true_eq, decide_eq_false_iff_not, Bool.not_eq_true', Bool.not_eq_false', Int.not_lt, Int.not_le, ne_eq, Decidable.not_not, beq_iff_eq, List.cons.injEq, and_true] at hc); (first | (exfalso; omega) | exact absurd True.intro hc | conv => whnf))) | ((with_reducible refine And.intro True.intro ?_); conv => whnf) | ((with_reducible refine grd_and ?_); refine And.intro (hi) ?_; conv => whnf) | ((with_reducible refine And.intro ?hh ?_); (case hh => exact condA); conv => whnf) | fail))
      refine WpR.loopA (ι := Nat) [] [1, 2, 6] [] [] 1 (fun j => [(7, .int .i64 j)]) (fun _ => []) (fun j => i - j) (fun j => j ≤ i ∧ ∀ j', j' < j → (!decide (l j' = l i)) = true) ?_ (0) (⟨by omega, fun k hk => absurd hk (Nat.not_lt_zero _)⟩) [] Back.auto
      rintro j ⟨i1, i2⟩
      refine WpR.of_vc ?_
      by_cases hj : j < i
      · have hjk : j < k := by omega
        by_cases he : l j = l i
        · have ez : zd = false := d1 i hi (d3 i j hj (by rw [decide_eq_true he]; rfl))
          subst ez
          (conv => whnf); (repeat' (first | ((with_reducible refine ifb_mk (fun hc => ?_) (fun hc => ?_)) <;> ((try simp only [decide_eq_true_eq, decide_eq_false_iff_not, Bool.not_eq_true', Bool.not_eq_false', Int.not_lt, Int.not_le, ne_eq, Decidable.not_not, beq_iff_eq, List.cons.injEq, and_true] at hc); (first | (exfalso; omega) | exact absurd True.intro hc | conv => whnf))) | ((with_reducible refine And.intro True.intro ?_); conv => whnf) | ((with_reducible refine grd_and ?_); refine And.intro (hj) ?_; conv => whnf) | ((with_reducible refine grd_and ?_); refine And.intro (hi) ?_; conv => whnf) | ((with_reducible refine grd_and ?_); refine And.intro (hjk) ?_; conv => whnf) | ((with_reducible refine WpR.draw (id := 8) mixed [0, 1, 2, 3, 4, 5, 6] [0, 0, 0, 6, 14, 31, 63] ?hh ?_); (case hh => kernel_rfl); conv => whnf) | ((with_reducible refine WpR.draw (id := 16) mixed [0, 1, 2, 3, 4, 5, 6, 7, 8] [0, 0, 3, 7, 0, 0, 48, 112, 255] ?hh ?_); (case hh => kernel_rfl); conv => whnf) | ((with_reducible refine WpR.draw (id := 24) mixed [0, 1, 2, 3, 4, 5, 6, 7, 8, 9] [0, 0, 0, 6, 14, 0, 0, 96, 224, 511] ?hh ?_); (case hh => kernel_rfl); conv => whnf) | ((with_reducible refine And.intro ?hh ?_); (case hh => exact condA); conv => whnf) | fail))
          all_goals first | (refine ⟨[], ?_, rfl, rfl, trivial, trivs⟩; simp only [renV, renL]; (first | done | rfl | (simp; done) | (simp; omega) | grind)) | (exfalso; omega)
        · have hnx := below_succ (p := fun j' => !decide (l j' = l i)) i2 (by rw [decide_eq_false he]; rfl)
          (conv => whnf); (repeat' (first | ((with_reducible refine ifb_mk (fun hc => ?_) (fun hc => ?_)) <;> ((try simp only [decide_eq_true_eq, decide_eq_false_iff_not, Bool.not_eq_true', Bool.not_eq_false', Int.not_lt, Int.not_le, ne_eq, Decidable.not_not, beq_iff_eq, List.cons.injEq, and_true] at hc); (first | (exfalso; omega) | exact absurd True.intro hc | conv => whnf))) | ((with_reducible refine And.intro True.intro ?_); conv => whnf) | ((with_reducible refine grd_and ?_); refine And.intro (hj) ?_; conv => whnf) | ((with_reducible refine grd_and ?_); refine And.intro (hi) ?_; conv => whnf) | ((with_reducible refine grd_and ?_); refine And.intro (hjk) ?_; conv => whnf) | ((with_reducible refine WpR.draw (id := 8) mixed [0, 1, 2, 3, 4, 5, 6] [0, 0, 0, 6, 14, 31, 63] ?hh ?_); (case hh => kernel_rfl); conv => whnf) | ((with_reducible refine WpR.draw (id := 16) mixed [0, 1, 2, 3, 4, 5, 6, 7, 8] [0, 0, 3, 7, 0, 0, 48, 112, 255] ?hh ?_); (case hh => kernel_rfl); conv => whnf) | ((with_reducible refine WpR.draw (id := 24) mixed [0, 1, 2, 3, 4, 5, 6, 7, 8, 9] [0, 0, 0, 6, 14, 0, 0, 96, 224, 511] ?hh ?_); (case hh => kernel_rfl); conv => whnf) | ((with_reducible refine And.intro ?hh ?_); (case hh => exact condA); conv => whnf) | fail))
          all_goals first | (exfalso; omega) | exact ⟨j + 1, [], by omega, ⟨by omega, hnx⟩, Back.auto⟩
      · have hnx := below_succ (p := fun i' => allF i' fun j => !decide (l j = l i')) j2 (d4 i fun j' hj' => i2 j' (by omega))
        (conv => whnf); (repeat' (first | ((with_reducible refine ifb_mk (fun hc => ?_) (fun hc => ?_)) <;> ((try simp only [decide_eq_true_eq, decide_eq_false_iff_not, Bool.not_eq_true', Bool.not_eq_false', Int.not_lt, Int.not_le, ne_eq, Decidable.not_not, beq_iff_eq, List.cons.injEq, and_true] at hc); (first | (exfalso; omega) | exact absurd True.intro hc | conv => whnf))) | ((with_reducible refine And.intro True.intro ?_); conv => whnf) | ((with_reducible refine grd_and ?_); refine And.intro (hj) ?_; conv => whnf) | ((with_reducible refine And.intro ?hh ?_); (case hh => exact condA); conv => whnf) | fail))
        all_goals first | (exfalso; omega) | exact ⟨i + 1, [], by omega, ⟨by omega, hnx⟩, Back.auto⟩
    · have ez : zd = true := d2 fun j hj => j2 j (by omega)
      subst ez
      rw [if_pos rfl]
      (conv => whnf); (repeat' (first | ((with_reducible refine ifb_mk (fun hc => ?_) (fun hc => ?_)) <;> ((try simp only [decide_eq_true_eq, decide_eq_false_iff_not, Bool.not_eq_true', Bool.not_eq_false', Int.not_lt, Int.not_le, ne_eq, Decidable.not_not, beq_iff_eq, List.cons.injEq, and_true] at hc); (first | (exfalso; omega) | exact absurd True.intro hc | conv => whnf))) | ((with_reducible refine And.intro True.intro ?_); conv => whnf) | ((with_reducible refine grd_and ?_); refine And.intro (hi) ?_; conv => whnf) | ((with_reducible refine And.intro ?hh ?_); (case hh => exact condA); conv => whnf) | fail))
      all_goals first | (exfalso; omega) | skip
      clear d1 d2 d3 d4 j1 j2 hi
      refine WpR.loopA (ι := Nat) [] [1, 2] [] [] 1 (fun i => [(8, .int .i64 i)]) (fun _ => []) (fun i => k - i) (fun i => i ≤ k ∧ ∀ i', i' < i → (allF i' fun j => !lkB n a b (l i') (l j)) = true) ?_ (0) (⟨by omega, fun k hk => absurd hk (Nat.not_lt_zero _)⟩) [] Back.auto
      rintro i ⟨j1, j2⟩
      refine WpR.of_vc ?_
      by_cases hi : i < k
      · (conv => whnf); (repeat' (first | ((with_reducible refine ifb_mk (fun hc => ?_) (fun hc => ?_)) <;> ((try simp only [decide_eq_true_eq, decide_eq_false_iff_not, Bool.not_eq_true', Bool.not_eq_false', Int.not_lt, Int.not_le, ne_eq, Decidable.not_not, beq_iff_eq, List.cons.injEq, and_true] at hc); (first | (exfalso; omega) | exact absurd True.intro hc | conv => whnf))) | ((with_reducible refine And.intro True.intro ?_); conv => whnf) | ((with_reducible refine grd_and ?_); refine And.intro (hi) ?_; conv => whnf) | ((with_reducible refine And.intro ?hh ?_); (case hh => exact condA); conv => whnf) | fail))
        refine WpR.loopA (ι := Nat) [] [1, 2, 8] [] [] 1 (fun j => [(9, .int .i64 j)]) (fun _ => []) (fun j => i - j) (fun j => j ≤ i ∧ ∀ j', j' < j → (!lkB n a b (l i) (l j')) = true) ?_ (0) (⟨by omega, fun k hk => absurd hk (Nat.not_lt_zero _)⟩) [] Back.auto
        rintro j ⟨i1, i2⟩
        refine WpR.of_vc ?_
        by_cases hj : j < i
        · have hjk : j < k := by omega
          have kL := kL i j
          cases he : lkB n a b (l i) (l j) with
          | true =>
            rw [he] at kL
            have ez : zr = false := r1 i hi (r3 i j hj (by rw [he]; rfl))
            subst ez
            (conv => whnf); (repeat' (first | ((with_reducible refine ifb_mk (fun hc => ?_) (fun hc => ?_)) <;> ((try simp only [decide_eq_true_eq, decide_eq_false_iff_not, Bool.not_eq_true', Bool.not_eq_false', Int.not_lt, Int.not_le, ne_eq, Decidable.not_not, beq_iff_eq, List.cons.injEq, and_true] at hc); (first | (exfalso; omega) | exact absurd True.intro hc | conv => whnf))) | ((with_reducible refine And.intro True.intro ?_); conv => whnf) | ((with_reducible refine grd_and ?_); refine And.intro (hj) ?_; conv => whnf) | ((with_reducible refine grd_and ?_); refine And.intro (hi) ?_; conv => whnf) | ((with_reducible refine grd_and ?_); refine And.intro (hjk) ?_; conv => whnf) | ((with_reducible refine grd_ex ?_); refine ex_ok (kL _) ?_; conv => whnf) | ((with_reducible refine CallX.all ?_); refine CallW.of_ok (kL _) ?_; conv => whnf) | ((with_reducible refine WpR.draw (id := 8) mixed [0, 1, 2, 3, 4, 5, 6] [0, 0, 0, 6, 14, 31, 63] ?hh ?_); (case hh => kernel_rfl); conv => whnf) | ((with_reducible refine WpR.draw (id := 16) mixed [0, 1, 2, 3, 4, 5, 6, 7, 8] [0, 0, 3, 7, 0, 0, 48, 112, 255] ?hh ?_); (case hh => kernel_rfl); conv => whnf) | ((with_reducible refine WpR.draw (id := 24) mixed [0, 1, 2, 3, 4, 5, 6, 7, 8, 9] [0, 0, 0, 6, 14, 0, 0, 96, 224, 511] ?hh ?_); (case hh => kernel_rfl); conv => whnf) | ((with_reducible refine And.intro ?hh ?_); (case hh => exact condA); conv => whnf) | fail))
            all_goals first | (refine ⟨[], ?_, rfl, rfl, trivial, trivs⟩; simp only [renV, renL]; (first | done | rfl | (simp; done) | (simp; omega) | grind)) | (exfalso; omega)
          | false =>
            rw [he] at kL
            have hnx := below_succ (p := fun j' => !lkB n a b (l i) (l j')) i2 (by rw [he]; rfl)
            (conv => whnf); (repeat' (first | ((with_reducible refine ifb_mk (fun hc => ?_) (fun hc => ?_)) <;> ((try simp only [decide_eq_true_eq, decide_eq_false_iff_not, Bool.not_eq_true', Bool.not_eq_false', Int.not_lt, Int.not_le, ne_eq, Decidable.not_not, beq_iff_eq, List.cons.injEq, and_true] at hc); (first | (exfalso; omega) | exact absurd True.intro hc | conv => whnf))) | ((with_reducible refine And.intro True.intro ?_); conv => whnf) | ((with_reducible refine grd_and ?_); refine And.intro (hj) ?_; conv => whnf) | ((with_reducible refine grd_and ?_); refine And.intro (hi) ?_; conv => whnf) | ((with_reducible refine grd_and ?_); refine And.intro (hjk) ?_; conv => whnf) | ((with_reducible refine grd_ex ?_); refine ex_ok (kL _) ?_; conv => whnf) | ((with_reducible refine CallX.all ?_); refine CallW.of_ok (kL _) ?_; conv => whnf) | ((with_reducible refine WpR.draw (id := 8) mixed [0, 1, 2, 3, 4, 5, 6] [0, 0, 0, 6, 14, 31, 63] ?hh ?_); (case hh => kernel_rfl); conv => whnf) | ((with_reducible refine WpR.draw (id := 16) mixed [0, 1, 2, 3, 4, 5, 6, 7, 8] [0, 0, 3, 7, 0, 0, 48, 112, 255] ?hh ?_); (case hh => kernel_rfl); conv => whnf) | ((with_reducible refine WpR.draw (id := 24) mixed [0, 1, 2, 3, 4, 5, 6, 7, 8, 9] [0, 0, 0, 6, 14, 0, 0, 96, 224, 511] ?hh ?_); (case hh => kernel_rfl); conv => whnf) | ((with_reducible refine And.intro ?hh ?_); (case hh => exact condA); conv => whnf) | fail))
            all_goals first | (exfalso; omega) | exact ⟨j + 1, [], by omega, ⟨by omega, hnx⟩, Back.auto⟩
        · have hnx := below_succ (p := fun i' => allF i' fun j => !lkB n a b (l i') (l j)) j2 (r4 i fun j' hj' => i2 j' (by omega))
          (conv => whnf); (repeat' (first | ((with_reducible refine ifb_mk (fun hc => ?_) (fun hc => ?_)) <;> ((try simp only [decide_eq_true_eq, decide_eq_false_iff_not, Bool.not_eq_true', Bool.not_eq_false', Int.not_lt, Int.not_le, ne_eq, Decidable.not_not, beq_iff_eq, List.cons.injEq, and_true] at hc); (first | (exfalso; omega) | exact absurd True.intro hc | conv => whnf))) | ((with_reducible refine And.intro True.intro ?_); conv => whnf) | ((with_reducible refine grd_and ?_); refine And.intro (hj) ?_; conv => whnf) | ((with_reducible refine And.intro ?hh ?_); (case hh => exact condA); conv => whnf) | fail))
          all_goals first | (exfalso; omega) | exact ⟨i + 1, [], by omega, ⟨by omega, hnx⟩, Back.auto⟩
      · have ez : zr = true := r2 fun j hj => j2 j (by omega)
        subst ez
        (conv => whnf); (repeat' (first | ((with_reducible refine ifb_mk (fun hc => ?_) (fun hc => ?_)) <;> ((try simp only [decide_eq_true_eq, decide_eq_false_iff_not, Bool.not_eq_true', Bool.not_eq_false', Int.not_lt, Int.not_le, ne_eq, Decidable.not_not, beq_iff_eq, List.cons.injEq, and_true] at hc); (first | (exfalso; omega) | exact absurd True.intro hc | conv => whnf))) | ((with_reducible refine And.intro True.intro ?_); conv => whnf) | ((with_reducible refine grd_and ?_); refine And.intro (hi) ?_; conv => whnf) | ((with_reducible refine And.intro ?hh ?_); (case hh => exact condA); conv => whnf) | fail))
        all_goals first | (refine ⟨[], ?_, rfl, rfl, trivial, trivs⟩; simp only [renV, renL]; (first | done | rfl | (simp; done) | (simp; omega) | grind)) | (exfalso; omega)
end Go.Proofs.J

