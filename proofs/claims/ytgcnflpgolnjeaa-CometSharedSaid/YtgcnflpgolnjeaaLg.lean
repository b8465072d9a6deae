/- What the functions answer that the laws call, one after another (Lg). -/
import Derived.Test.YtgcnflpgolnjeaaAs6
import Derived.Test.YtgcnflpgolnjeaaB7
import Derived.Test.YtgcnflpgolnjeaaPth
import Derived.Test.YtgcnflpgolnjeaaChk
import Derived.Test.YtgcnflpgolnjeaaExa
import Derived.Test.YtgcnflpgolnjeaaPla
set_option linter.unusedVariables false
set_option linter.unusedSimpArgs false
namespace Go.Proofs.K
open Go.As
set_option maxRecDepth 20000
def sgn (i a b : Nat) : Int := if i < a ∧ b ≤ i then -1 else 1
theorem sgn_skip {i a : Nat} (h : i < a) (z : Int) : sgn i a (i + 1) * (z * -1) = sgn i a i * z := by
  unfold sgn
  rw [if_neg (by omega), if_pos ⟨h, Nat.le_refl _⟩]
  omega
theorem sgn_step {i a b : Nat} (h : b ≠ i) : sgn i a (b + 1) = sgn i a b := by
  unfold sgn
  (repeat' split) <;> first | rfl | (exfalso; omega)
theorem sgn_end {i a : Nat} : sgn i a a = 1 := by
  unfold sgn
  rw [if_neg (by omega)]
theorem sgn_zero {i a : Nat} (h : ¬ i < a) : sgn i a 0 = 1 := by
  unfold sgn
  rw [if_neg (by omega)]
theorem sgn_neg {i a : Nat} (h : i < a) : sgn i a 0 = -1 := by
  unfold sgn
  rw [if_pos (by omega)]
theorem sgn_bd {i a b : Nat} {z : Int} (h : -4665600000000000 ≤ z ∧ z ≤ 4665600000000000) : -4665600000000000 ≤ sgn i a b * z ∧ sgn i a b * z ≤ 4665600000000000 := by
  unfold sgn
  split <;> omega
set_option maxHeartbeats 16000000 in
theorem placeR_ok (h : As.H) (ex : Bool) (n : Nat) (x y : Nat → Int) (d : Nat) (hD : Dy n x) (hy : Pl n y) (hd : d ≤ 60) :
    CallOk Try.prog 82 [.rsl ex 2 n (lkG x y), .int .i64 d] h (.tup [.int .i64 (qP n x y d), .bool (whP n x y d)]) h := by
  have hn := hD.le
  have hd' : 0 ≤ (d : Int) ∧ (d : Int) ≤ 60 := by omega
  have hdb := fun i j hi hj => den_bd hD (i := i) (j := j) hi hj
  have hrg := hD.rg
  have hP0 : trP (df x) 0 = 1 := rfl
  have hPs : ∀ i, trP (df x) (i + 1) = trP (df x) i * rwP (df x) i i := fun i => rfl
  have hR0 : ∀ i, rwP (df x) i 0 = 1 := fun i => rfl
  have hRs : ∀ i j, rwP (df x) i (j + 1) = rwP (df x) i j * (x i - x j) := fun i j => rfl
  have hdp := den_pos hD
  have hdl := den_le hD
  have hqb := qP_bd hD hy hd
  unfold qP at hqb ⊢
  unfold whP
  refine CallOk.run0 Try.func82 rfl rfl rfl rfl rfl (WpR.of_vc ?_)
  (conv => whnf); (repeat' (first | ((with_reducible refine ifb_mk (fun hc => ?_) (fun hc => ?_)) <;> ((try simp only [decide_eq_true_eq, decide_eq_false_iff_not, Bool.not_eq_true', Bool.not_eq_false', Int.not_lt, Int.not_le, ne_eq, Decidable.not_not, beq_iff_eq, List.cons.injEq, and_true] at hc); (first | (exfalso; omega) | exact absurd True.intro hc | conv => whnf))) | ((with_reducible refine And.intro True.intro ?_); conv => whnf) | ((with_reducible refine And.intro ?hh ?_); (case hh => exact condA); conv => whnf) | fail))
  refine WpR.loopA (ι := Nat × Int) [] [0, 1, 7] [] [] 0 (fun p => [(8, .int .i64 p.1), (6, .int .i64 p.2)]) (fun _ => []) (fun p => n - p.1) (fun p => p.1 ≤ n ∧ p.2 = trP (df x) p.1) ?_ ((0, 1)) (⟨Nat.zero_le _, hP0.symm⟩) [] Back.auto
  rintro ⟨i, dn⟩ ⟨j1, j2⟩
  dsimp only at j1 j2
  refine WpR.of_vc ?_
  by_cases hi : i < n
  · have hri := hrg i hi
    (conv => whnf); (repeat' (first | ((with_reducible refine ifb_mk (fun hc => ?_) (fun hc => ?_)) <;> ((try simp only [decide_eq_true_eq, decide_eq_false_iff_not, Bool.not_eq_true', Bool.not_eq_false', Int.not_lt, Int.not_le, ne_eq, Decidable.not_not, beq_iff_eq, List.cons.injEq, and_true] at hc); (first | (exfalso; omega) | exact absurd True.intro hc | conv => whnf))) | ((with_reducible refine And.intro True.intro ?_); conv => whnf) | ((with_reducible refine grd_and ?_); refine And.intro (hi) ?_; conv => whnf) | ((with_reducible refine And.intro ?hh ?_); (case hh => exact condA); conv => whnf) | fail))
    refine WpR.loopA (ι := Nat × Int) [] [0, 1, 7, 8] [] [] 0 (fun p => [(9, .int .i64 p.1), (6, .int .i64 p.2)]) (fun _ => []) (fun p => i - p.1) (fun p => p.1 ≤ i ∧ p.2 = trP (df x) i * rwP (df x) i p.1) ?_ ((0, dn)) (⟨Nat.zero_le _, by rw [hR0, j2]; omega⟩) [] Back.auto
    rintro ⟨j, dm⟩ ⟨k1, k2⟩
    dsimp only at k1 k2
    refine WpR.of_vc ?_
    by_cases hj : j < i
    · have hrj := hrg j (by omega)
      have hjn : j < n := by omega
      have b1 := hdb i (j + 1) hi (by omega)
      have e1 : dm * (x i - x j) = trP (df x) i * rwP (df x) i (j + 1) := by rw [k2, hRs, Int.mul_assoc]
      have y1 : InR (dm * (x i - x j)) := by rw [e1]; unfold InR; omega
      have y0 : InR (x i - x j) := by unfold InR; omega
      (conv => whnf); (repeat' (first | ((with_reducible refine ifb_mk (fun hc => ?_) (fun hc => ?_)) <;> ((try simp only [decide_eq_true_eq, decide_eq_false_iff_not, Bool.not_eq_true', Bool.not_eq_false', Int.not_lt, Int.not_le, ne_eq, Decidable.not_not, beq_iff_eq, List.cons.injEq, and_true] at hc); (first | (exfalso; omega) | exact absurd True.intro hc | conv => whnf))) | ((with_reducible refine And.intro True.intro ?_); conv => whnf) | ((with_reducible refine grd_and ?_); refine And.intro (hj) ?_; conv => whnf) | ((with_reducible refine grd_and ?_); refine And.intro (hi) ?_; conv => whnf) | ((with_reducible refine grd_and ?_); refine And.intro (hjn) ?_; conv => whnf) | ((with_reducible refine grd_and ?_); refine And.intro (y0) ?_; conv => whnf) | ((with_reducible refine grd_and ?_); refine And.intro (y1) ?_; conv => whnf) | ((with_reducible refine WpR.draw (id := 8) mixed [0, 1, 2, 3, 4, 5, 6, 7, 8, 9, 10, 11, 12, 13] [0, 0, 0, 6, 14, 30, 0, 0, 192, 448, 960, 2046, 4095, 8191] ?hh ?_); (case hh => kernel_rfl); conv => whnf) | ((with_reducible refine WpR.draw (id := 24) mixed [0, 1, 2, 3, 4, 5, 6, 7, 8, 9, 10, 11, 12, 13] [0, 0, 0, 6, 14, 30, 0, 0, 192, 448, 960, 2046, 4095, 8191] ?hh ?_); (case hh => kernel_rfl); conv => whnf) | ((with_reducible refine WpR.draw (id := 26) mixed [0, 1, 2, 3, 4, 5, 6, 7, 8] [0, 0, 3, 0, 0, 24, 56, 7, 255] ?hh ?_); (case hh => kernel_rfl); conv => whnf) | ((with_reducible refine And.intro ?hh ?_); (case hh => exact condA); conv => whnf) | fail))
      all_goals first | (exfalso; omega) | exact ⟨(j + 1, dm * (x i - x j)), [], by dsimp only; omega, ⟨by dsimp only; omega, e1⟩, Back.auto⟩
    · have e : j = i := by omega
      subst e
      (conv => whnf); (repeat' (first | ((with_reducible refine ifb_mk (fun hc => ?_) (fun hc => ?_)) <;> ((try simp only [decide_eq_true_eq, decide_eq_false_iff_not, Bool.not_eq_true', Bool.not_eq_false', Int.not_lt, Int.not_le, ne_eq, Decidable.not_not, beq_iff_eq, List.cons.injEq, and_true] at hc); (first | (exfalso; omega) | exact absurd True.intro hc | conv => whnf))) | ((with_reducible refine And.intro True.intro ?_); conv => whnf) | ((with_reducible refine grd_and ?_); refine And.intro (hj) ?_; conv => whnf) | ((with_reducible refine And.intro ?hh ?_); (case hh => exact condA); conv => whnf) | fail))
      all_goals first | (exfalso; omega) | exact ⟨(j + 1, dm), [], by dsimp only; omega, ⟨by dsimp only; omega, by dsimp only; rw [hPs, k2]⟩, Back.auto⟩
  · have e : i = n := by omega
    rw [e] at j2
    rw [← j2] at hdp hdl hqb ⊢
    (conv => whnf); (repeat' (first | ((with_reducible refine ifb_mk (fun hc => ?_) (fun hc => ?_)) <;> ((try simp only [decide_eq_true_eq, decide_eq_false_iff_not, Bool.not_eq_true', Bool.not_eq_false', Int.not_lt, Int.not_le, ne_eq, Decidable.not_not, beq_iff_eq, List.cons.injEq, and_true] at hc); (first | (exfalso; omega) | exact absurd True.intro hc | conv => whnf))) | ((with_reducible refine And.intro True.intro ?_); conv => whnf) | ((with_reducible refine grd_and ?_); refine And.intro (hi) ?_; conv => whnf) | ((with_reducible refine And.intro ?hh ?_); (case hh => exact condA); conv => whnf) | fail))
    clear hdb hP0 hPs hR0 hRs e hi j1
    refine WpR.loopA (ι := Nat × Int) [] [0, 1, 6] [] [] 0 (fun p => [(10, .int .i64 p.1), (7, .int .i64 p.2)]) (fun _ => []) (fun p => n - p.1) (fun p => p.1 ≤ n ∧ p.2 = nuP n x y d p.1) ?_ ((0, 0)) (⟨Nat.zero_le _, rfl⟩) [] Back.auto
    rintro ⟨k, nm⟩ ⟨k1, k2⟩
    dsimp only at k1 k2
    refine WpR.of_vc ?_
    by_cases hk : k < n
    · have hyk := hy k hk
      (conv => whnf); (repeat' (first | ((with_reducible refine ifb_mk (fun hc => ?_) (fun hc => ?_)) <;> ((try simp only [decide_eq_true_eq, decide_eq_false_iff_not, Bool.not_eq_true', Bool.not_eq_false', Int.not_lt, Int.not_le, ne_eq, Decidable.not_not, beq_iff_eq, List.cons.injEq, and_true] at hc); (first | (exfalso; omega) | exact absurd True.intro hc | conv => whnf))) | ((with_reducible refine And.intro True.intro ?_); conv => whnf) | ((with_reducible refine grd_and ?_); refine And.intro (hk) ?_; conv => whnf) | ((with_reducible refine And.intro ?hh ?_); (case hh => exact condA); conv => whnf) | fail))
      refine WpR.loopA (ι := Nat × Int) [] [0, 1, 6, 7, 10] [] [] 0 (fun p => [(12, .int .i64 p.1), (11, .int .i64 p.2)]) (fun _ => []) (fun p => n - p.1) (fun p => p.1 ≤ n ∧ p.2 = y k * tmP x d k p.1 * trP (gq x k n) p.1) ?_ ((0, y k)) (⟨Nat.zero_le _, by show y k = y k * 1 * 1; omega⟩) [] Back.auto
      rintro ⟨m, te⟩ ⟨l1, l2⟩
      dsimp only at l1 l2
      refine WpR.of_vc ?_
      by_cases hm : m < n
      · have hts : tmP x d k (m + 1) = tmP x d k m * (if m = k then 1 else (d : Int) - x m) := rfl
        have htp : trP (gq x k n) (m + 1) = trP (gq x k n) m * rwP (gq x k n) m m := rfl
        have hrm := hrg m hm
        by_cases hmk : m = k
        · have e1 : te = y k * tmP x d k (m + 1) * trP (gq x k n) (m + 1) := by
            rw [l2, hts, if_pos hmk, htp, hmk, rw_self x k k (by omega)]
            simp
          have hmk2 : ¬ (m : Int) ≠ k := by omega
          (conv => whnf); (repeat' (first | ((with_reducible refine ifb_mk (fun hc => ?_) (fun hc => ?_)) <;> ((try simp only [decide_eq_true_eq, decide_eq_false_iff_not, Bool.not_eq_true', Bool.not_eq_false', Int.not_lt, Int.not_le, ne_eq, Decidable.not_not, beq_iff_eq, List.cons.injEq, and_true] at hc); (first | (exfalso; omega) | exact absurd True.intro hc | conv => whnf))) | ((with_reducible refine And.intro True.intro ?_); conv => whnf) | ((with_reducible refine grd_and ?_); refine And.intro (hm) ?_; conv => whnf) | ((with_reducible refine And.intro ?hh ?_); (case hh => exact condA); conv => whnf) | fail))
          all_goals first | (exfalso; omega) | exact ⟨(m + 1, te), [], by dsimp only; omega, ⟨by dsimp only; omega, e1⟩, Back.auto⟩
        · have b0 := tr_bd hD hy hd' (j := m + 1) hk (by omega) hm (Nat.zero_le m)
          have hr0 : rwP (gq x k n) m 0 = 1 := rfl
          have e1 : te * ((d : Int) - x m) = y k * tmP x d k (m + 1) * (trP (gq x k n) m * rwP (gq x k n) m 0) := by
            rw [l2, hts, if_neg hmk, hr0, Int.mul_one]
            grind
          have y1 : InR (te * ((d : Int) - x m)) := by rw [e1]; unfold InR; omega
          have y2 : InR ((d : Int) - x m) := by unfold InR; omega
          have y3 : InR (-(te * ((d : Int) - x m))) := by rw [e1]; unfold InR; omega
          have hfin : ∀ tf, tf = sgn k m m * (y k * tmP x d k (m + 1) * (trP (gq x k n) m * rwP (gq x k n) m m)) → tf = y k * tmP x d k (m + 1) * trP (gq x k n) (m + 1) := fun tf h => by rw [h, sgn_end, Int.one_mul, htp]
          have hbd := fun b (hb : b ≤ m) => sgn_bd (i := k) (a := m) (b := b) (tr_bd hD hy hd' (j := m + 1) (i := k) (a := m) (b := b) hk (by omega) hm hb)
          have hst : ∀ b, b < m → b ≠ k → ∀ tf, tf = sgn k m b * (y k * tmP x d k (m + 1) * (trP (gq x k n) m * rwP (gq x k n) m b)) → tf * (x m - x b) = sgn k m (b + 1) * (y k * tmP x d k (m + 1) * (trP (gq x k n) m * rwP (gq x k n) m (b + 1))) := fun b hb hbk tf h => by
            have hg : gq x k n m b = x m - x b := by unfold gq; rw [if_neg (by omega), if_neg (by omega)]
            have hrs : rwP (gq x k n) m (b + 1) = rwP (gq x k n) m b * gq x k n m b := rfl
            rw [h, sgn_step hbk, hrs, hg]
            grind
          have hsk : ∀ b, b < m → b = k → ∀ tf, tf = sgn k m b * (y k * tmP x d k (m + 1) * (trP (gq x k n) m * rwP (gq x k n) m b)) → tf = sgn k m (b + 1) * (y k * tmP x d k (m + 1) * (trP (gq x k n) m * rwP (gq x k n) m (b + 1))) := fun b hb hbk tf h => by
            subst hbk
            have hg : gq x b n m b = -1 := by unfold gq; rw [if_neg (by omega), if_pos (by omega)]
            have hrs : rwP (gq x b n) m (b + 1) = rwP (gq x b n) m b * gq x b n m b := rfl
            rw [h, hrs, hg, ← sgn_skip hb]
            congr 1
            grind
          have hin : ∀ t0 : Int, t0 = sgn k m 0 * (y k * tmP x d k (m + 1) * (trP (gq x k n) m * rwP (gq x k n) m 0)) → True := fun _ _ => trivial
          have hz0 : ¬ k < m → te * ((d : Int) - x m) = sgn k m 0 * (y k * tmP x d k (m + 1) * (trP (gq x k n) m * rwP (gq x k n) m 0)) := fun h => by rw [sgn_zero h, e1, Int.one_mul]
          have hz1 : k < m → -(te * ((d : Int) - x m)) = sgn k m 0 * (y k * tmP x d k (m + 1) * (trP (gq x k n) m * rwP (gq x k n) m 0)) := fun h => by rw [sgn_neg h, e1]; omega
          clear e1 hin hts htp hr0 b0
          generalize (fun b => sgn k m b * (y k * tmP x d k (m + 1) * (trP (gq x k n) m * rwP (gq x k n) m b))) = G at *
          by_cases hkm : k < m
          · have hz := hz1 hkm
            (conv => whnf); (repeat' (first | ((with_reducible refine ifb_mk (fun hc => ?_) (fun hc => ?_)) <;> ((try simp only [decide_eq_true_eq, decide_eq_false_iff_not, Bool.not_eq_true', Bool.not_eq_false', Int.not_lt, Int.not_le, ne_eq, Decidable.not_not, beq_iff_eq, List.cons.injEq, and_true] at hc); (first | (exfalso; omega) | exact absurd True.intro hc | conv => whnf))) | ((with_reducible refine And.intro True.intro ?_); conv => whnf) | ((with_reducible refine grd_and ?_); refine And.intro (hm) ?_; conv => whnf) | ((with_reducible refine grd_and ?_); refine And.intro (y2) ?_; conv => whnf) | ((with_reducible refine grd_and ?_); refine And.intro (y1) ?_; conv => whnf) | ((with_reducible refine grd_and ?_); refine And.intro (y3) ?_; conv => whnf) | ((with_reducible refine And.intro ?hh ?_); (case hh => exact condA); conv => whnf) | fail))
            all_goals first | (exfalso; omega) | skip
            refine WpR.loopA (ι := Nat × Int) [] [0, 1, 6, 7, 10, 12] [] [] 0 (fun p => [(13, .int .i64 p.1), (11, .int .i64 p.2)]) (fun _ => []) (fun p => m - p.1) (fun p => p.1 ≤ m ∧ p.2 = sgn k m p.1 * (y k * tmP x d k (m + 1) * (trP (gq x k n) m * rwP (gq x k n) m p.1))) ?_ ((0, -(te * ((d : Int) - x m)))) (⟨Nat.zero_le _, hz⟩) [] Back.auto
            rintro ⟨b, tf⟩ ⟨i1, i2⟩
            dsimp only at i1 i2
            refine WpR.of_vc ?_
            by_cases hb : b < m
            · have hbn : b < n := by omega
              have hrb := hrg b hbn
              by_cases hbk : b = k
              · have q1 := hsk b hb hbk tf i2
                have hbk2 : (b : Int) = k := by omega
                (conv => whnf); (repeat' (first | ((with_reducible refine ifb_mk (fun hc => ?_) (fun hc => ?_)) <;> ((try simp only [decide_eq_true_eq, decide_eq_false_iff_not, Bool.not_eq_true', Bool.not_eq_false', Int.not_lt, Int.not_le, ne_eq, Decidable.not_not, beq_iff_eq, List.cons.injEq, and_true] at hc); (first | (exfalso; omega) | exact absurd True.intro hc | conv => whnf))) | ((with_reducible refine And.intro True.intro ?_); conv => whnf) | ((with_reducible refine grd_and ?_); refine And.intro (hb) ?_; conv => whnf) | ((with_reducible refine And.intro ?hh ?_); (case hh => exact condA); conv => whnf) | fail))
                all_goals first | (exfalso; omega) | exact ⟨(b + 1, tf), [], by dsimp only; omega, ⟨by dsimp only; omega, q1⟩, Back.auto⟩
              · have q1 := hst b hb hbk tf i2
                have q2 := hbd (b + 1) (by omega)
                have z1 : InR (tf * (x m - x b)) := by rw [q1]; unfold InR; omega
                have z2 : InR (x m - x b) := by unfold InR; omega
                have hbk2 : (b : Int) ≠ k := by omega
                (conv => whnf); (repeat' (first | ((with_reducible refine ifb_mk (fun hc => ?_) (fun hc => ?_)) <;> ((try simp only [decide_eq_true_eq, decide_eq_false_iff_not, Bool.not_eq_true', Bool.not_eq_false', Int.not_lt, Int.not_le, ne_eq, Decidable.not_not, beq_iff_eq, List.cons.injEq, and_true] at hc); (first | (exfalso; omega) | exact absurd True.intro hc | conv => whnf))) | ((with_reducible refine And.intro True.intro ?_); conv => whnf) | ((with_reducible refine grd_and ?_); refine And.intro (hb) ?_; conv => whnf) | ((with_reducible refine grd_and ?_); refine And.intro (hm) ?_; conv => whnf) | ((with_reducible refine grd_and ?_); refine And.intro (hbn) ?_; conv => whnf) | ((with_reducible refine grd_and ?_); refine And.intro (z2) ?_; conv => whnf) | ((with_reducible refine grd_and ?_); refine And.intro (z1) ?_; conv => whnf) | ((with_reducible refine WpR.draw (id := 8) mixed [0, 1, 2, 3, 4, 5, 6, 7, 8, 9, 10, 11, 12, 13] [0, 0, 0, 6, 14, 30, 0, 0, 192, 448, 960, 2046, 4095, 8191] ?hh ?_); (case hh => kernel_rfl); conv => whnf) | ((with_reducible refine WpR.draw (id := 24) mixed [0, 1, 2, 3, 4, 5, 6, 7, 8, 9, 10, 11, 12, 13] [0, 0, 0, 6, 14, 30, 0, 0, 192, 448, 960, 2046, 4095, 8191] ?hh ?_); (case hh => kernel_rfl); conv => whnf) | ((with_reducible refine WpR.draw (id := 26) mixed [0, 1, 2, 3, 4, 5, 6, 7, 8] [0, 0, 3, 0, 0, 24, 56, 7, 255] ?hh ?_); (case hh => kernel_rfl); conv => whnf) | ((with_reducible refine And.intro ?hh ?_); (case hh => exact condA); conv => whnf) | fail))
                all_goals first | (exfalso; omega) | exact ⟨(b + 1, tf * (x m - x b)), [], by dsimp only; omega, ⟨by dsimp only; omega, q1⟩, Back.auto⟩
            · have e : b = m := by omega
              subst e
              have q1 := hfin tf i2
              (conv => whnf); (repeat' (first | ((with_reducible refine ifb_mk (fun hc => ?_) (fun hc => ?_)) <;> ((try simp only [decide_eq_true_eq, decide_eq_false_iff_not, Bool.not_eq_true', Bool.not_eq_false', Int.not_lt, Int.not_le, ne_eq, Decidable.not_not, beq_iff_eq, List.cons.injEq, and_true] at hc); (first | (exfalso; omega) | exact absurd True.intro hc | conv => whnf))) | ((with_reducible refine And.intro True.intro ?_); conv => whnf) | ((with_reducible refine grd_and ?_); refine And.intro (hb) ?_; conv => whnf) | ((with_reducible refine And.intro ?hh ?_); (case hh => exact condA); conv => whnf) | fail))
              all_goals first | (exfalso; omega) | exact ⟨(b + 1, tf), [], by dsimp only; omega, ⟨by dsimp only; omega, q1⟩, Back.auto⟩
          · have hz := hz0 hkm
            (conv => whnf); (repeat' (first | ((with_reducible refine ifb_mk (fun hc => ?_) (fun hc => ?_)) <;> ((try simp only [decide_eq_true_eq, decide_eq_false_iff_not, Bool.not_eq_true', Bool.not_eq_false', Int.not_lt, Int.not_le, ne_eq, Decidable.not_not, beq_iff_eq, List.cons.injEq, and_true] at hc); (first | (exfalso; omega) | exact absurd True.intro hc | conv => whnf))) | ((with_reducible refine And.intro True.intro ?_); conv => whnf) | ((with_reducible refine grd_and ?_); refine And.intro (hm) ?_; conv => whnf) | ((with_reducible refine grd_and ?_); refine And.intro (y2) ?_; conv => whnf) | ((with_reducible refine grd_and ?_); refine And.intro (y1) ?_; conv => whnf) | ((with_reducible refine grd_and ?_); refine And.intro (y3) ?_; conv => whnf) | ((with_reducible refine And.intro ?hh ?_); (case hh => exact condA); conv => whnf) | fail))
            all_goals first | (exfalso; omega) | skip
            refine WpR.loopA (ι := Nat × Int) [] [0, 1, 6, 7, 10, 12] [] [] 0 (fun p => [(13, .int .i64 p.1), (11, .int .i64 p.2)]) (fun _ => []) (fun p => m - p.1) (fun p => p.1 ≤ m ∧ p.2 = sgn k m p.1 * (y k * tmP x d k (m + 1) * (trP (gq x k n) m * rwP (gq x k n) m p.1))) ?_ ((0, te * ((d : Int) - x m))) (⟨Nat.zero_le _, hz⟩) [] Back.auto
            rintro ⟨b, tf⟩ ⟨i1, i2⟩
            dsimp only at i1 i2
            refine WpR.of_vc ?_
            by_cases hb : b < m
            · have hbn : b < n := by omega
              have hrb := hrg b hbn
              by_cases hbk : b = k
              · have q1 := hsk b hb hbk tf i2
                have hbk2 : (b : Int) = k := by omega
                (conv => whnf); (repeat' (first | ((with_reducible refine ifb_mk (fun hc => ?_) (fun hc => ?_)) <;> ((try simp only [decide_eq_true_eq, decide_eq_false_iff_not, Bool.not_eq_true', Bool.not_eq_false', Int.not_lt, Int.not_le, ne_eq, Decidable.not_not, beq_iff_eq, List.cons.injEq, and_true] at hc); (first | (exfalso; omega) | exact absurd True.intro hc | conv => whnf))) | ((with_reducible refine And.intro True.intro ?_); conv => whnf) | ((with_reducible refine grd_and ?_); refine And.intro (hb) ?_; conv => whnf) | ((with_reducible refine And.intro ?hh ?_); (case hh => exact condA); conv => whnf) | fail))
                all_goals first | (exfalso; omega) | exact ⟨(b + 1, tf), [], by dsimp only; omega, ⟨by dsimp only; omega, q1⟩, Back.auto⟩
              · have q1 := hst b hb hbk tf i2
                have q2 := hbd (b + 1) (by omega)
                have z1 : InR (tf * (x m - x b)) := by rw [q1]; unfold InR; omega
                have z2 : InR (x m - x b) := by unfold InR; omega
                have hbk2 : (b : Int) ≠ k := by omega
                (conv => whnf); (repeat' (first | ((with_reducible refine ifb_mk (fun hc => ?_) (fun hc => ?_)) <;> ((try simp only [decide_eq_true_eq, decide_eq_false_iff_not, Bool.not_eq_true', Bool.not_eq_false', Int.not_lt, Int.not_le, ne_eq, Decidable.not_not, beq_iff_eq, List.cons.injEq, and_true] at hc); (first | (exfalso; omega) | exact absurd True.intro hc | conv => whnf))) | ((with_reducible refine And.intro True.intro ?_); conv => whnf) | ((with_reducible refine grd_and ?_); refine And.intro (hb) ?_; conv => whnf) | ((with_reducible refine grd_and ?_); refine And.intro (hm) ?_; conv => whnf) | ((with_reducible refine grd_and ?_); refine And.intro (hbn) ?_; conv => whnf) | ((with_reducible refine grd_and ?_); refine And.intro (z2) ?_; conv => whnf) | ((with_reducible refine grd_and ?_); refine And.intro (z1) ?_; conv => whnf) | ((with_reducible refine WpR.draw (id := 8) mixed [0, 1, 2, 3, 4, 5, 6, 7, 8, 9, 10, 11, 12, 13] [0, 0, 0, 6, 14, 30, 0, 0, 192, 448, 960, 2046, 4095, 8191] ?hh ?_); (case hh => kernel_rfl); conv => whnf) | ((with_reducible refine WpR.draw (id := 24) mixed [0, 1, 2, 3, 4, 5, 6, 7, 8, 9, 10, 11, 12, 13] [0, 0, 0, 6, 14, 30, 0, 0, 192, 448, 960, 2046, 4095, 8191] ?hh ?_); (case hh => kernel_rfl); conv => whnf) | ((with_reducible refine WpR.draw (id := 26) mixed [0, 1, 2, 3, 4, 5, 6, 7, 8] [0, 0, 3, 0, 0, 24, 56, 7, 255] ?hh ?_); (case hh => kernel_rfl); conv => whnf) | ((with_reducible refine And.intro ?hh ?_); (case hh => exact condA); conv => whnf) | fail))
                all_goals first | (exfalso; omega) | exact ⟨(b + 1, tf * (x m - x b)), [], by dsimp only; omega, ⟨by dsimp only; omega, q1⟩, Back.auto⟩
            · have e : b = m := by omega
              subst e
              have q1 := hfin tf i2
              (conv => whnf); (repeat' (first | ((with_reducible refine ifb_mk (fun hc => ?_) (fun hc => ?_)) <;> ((try simp only [decide_eq_true_eq, decide_eq_false_iff_not, Bool.not_eq_true', Bool.not_eq_false', Int.not_lt, Int.not_le, ne_eq, Decidable.not_not, beq_iff_eq, List.cons.injEq, and_true] at hc); (first | (exfalso; omega) | exact absurd True.intro hc | conv => whnf))) | ((with_reducible refine And.intro True.intro ?_); conv => whnf) | ((with_reducible refine grd_and ?_); refine And.intro (hb) ?_; conv => whnf) | ((with_reducible refine And.intro ?hh ?_); (case hh => exact condA); conv => whnf) | fail))
              all_goals first | (exfalso; omega) | exact ⟨(b + 1, tf), [], by dsimp only; omega, ⟨by dsimp only; omega, q1⟩, Back.auto⟩
      · have e : m = n := by omega
        subst e
        have b1 := te_bd hD hy hd' hk
        have b2 := nu_bd hD hy hd' k (by omega)
        have e1 : nm + te = nuP m x y d (k + 1) := by rw [k2, l2]; rfl
        have y2 : InR (nm + te) := by rw [l2, k2]; unfold InR; omega
        (conv => whnf); (repeat' (first | ((with_reducible refine ifb_mk (fun hc => ?_) (fun hc => ?_)) <;> ((try simp only [decide_eq_true_eq, decide_eq_false_iff_not, Bool.not_eq_true', Bool.not_eq_false', Int.not_lt, Int.not_le, ne_eq, Decidable.not_not, beq_iff_eq, List.cons.injEq, and_true] at hc); (first | (exfalso; omega) | exact absurd True.intro hc | conv => whnf))) | ((with_reducible refine And.intro True.intro ?_); conv => whnf) | ((with_reducible refine grd_and ?_); refine And.intro (hm) ?_; conv => whnf) | ((with_reducible refine grd_and ?_); refine And.intro (y2) ?_; conv => whnf) | ((with_reducible refine And.intro ?hh ?_); (case hh => exact condA); conv => whnf) | fail))
        all_goals first | (exfalso; omega) | exact ⟨(k + 1, nm + te), [], by dsimp only; omega, ⟨by dsimp only; omega, e1⟩, Back.auto⟩
    · have e : k = n := by omega
      rw [e] at k2
      rw [← k2] at hqb ⊢
      have z0 : dn ≠ 0 := by omega
      have z1 := tmod_bd (a := nm) ⟨hdp, hdl⟩
      have z2 : InR (nm.tdiv dn) := by unfold InR; omega
      (conv => whnf); (repeat' (first | ((with_reducible refine ifb_mk (fun hc => ?_) (fun hc => ?_)) <;> ((try simp only [decide_eq_true_eq, decide_eq_false_iff_not, Bool.not_eq_true', Bool.not_eq_false', Int.not_lt, Int.not_le, ne_eq, Decidable.not_not, beq_iff_eq, List.cons.injEq, and_true] at hc); (first | (exfalso; omega) | exact absurd True.intro hc | conv => whnf))) | ((with_reducible refine And.intro True.intro ?_); conv => whnf) | ((with_reducible refine grd_and ?_); refine And.intro (hk) ?_; conv => whnf) | ((with_reducible refine grd_and ?_); refine And.intro (z0) ?_; conv => whnf) | ((with_reducible refine grd_and ?_); refine And.intro (z1) ?_; conv => whnf) | ((with_reducible refine grd_and ?_); refine And.intro (z2) ?_; conv => whnf) | ((with_reducible refine WpR.draw (id := 8) mixed [0, 1, 2, 3, 4, 5, 6, 7, 8, 9, 10, 11, 12, 13] [0, 0, 0, 6, 14, 30, 0, 0, 192, 448, 960, 2046, 4095, 8191] ?hh ?_); (case hh => kernel_rfl); conv => whnf) | ((with_reducible refine WpR.draw (id := 24) mixed [0, 1, 2, 3, 4, 5, 6, 7, 8, 9, 10, 11, 12, 13] [0, 0, 0, 6, 14, 30, 0, 0, 192, 448, 960, 2046, 4095, 8191] ?hh ?_); (case hh => kernel_rfl); conv => whnf) | ((with_reducible refine WpR.draw (id := 26) mixed [0, 1, 2, 3, 4, 5, 6, 7, 8] [0, 0, 3, 0, 0, 24, 56, 7, 255] ?hh ?_); (case hh => kernel_rfl); conv => whnf) | ((with_reducible refine And.intro ?hh ?_); (case hh => exact condA); conv => whnf) | fail))
      all_goals first | (exfalso; omega) | (refine ⟨[], ?_, rfl, rfl, trivial, trivs⟩; simp only [renV, renL]; (first | done | rfl | (simp; done) | (simp; omega) | grind))
end Go.Proofs.K
namespace Go.Proofs.K
open Go.As
set_option maxRecDepth 20000
set_option maxHeartbeats 16000000 in
theorem passY1 (h : As.H) (ex : Bool) (x y : Nat → Int) (hD : Dy 1 x) (hy : Pl 1 y) (hw : alW 1 x y = true) :
    CallOk Try.prog 64 [.rsl ex 2 1 (lkG x y)] h (.tup [.sl (h.n + 0) 0 1 1 false, .bool true]) (addBs h [paB 1 fun k => dif (qP 1 x y) k 0]) := by
  have k0 : ∀ h' : As.H, CallOk Try.prog 82 [.rsl ex 2 1 (lkG x y), .int .i64 0] h' (.tup [.int .i64 (qP 1 x y 0), .bool (whP 1 x y 0)]) h' := fun h' => placeR_ok h' ex 1 x y 0 hD hy (by omega)
  have b0 := qP_bd hD hy (d := 0) (by omega)
  rw [allF_iff.1 hw 0 (by omega)] at k0
  generalize qP 1 x y = Q at *
  clear hw
  refine CallOk.runN Try.func64 rfl rfl (argsC := [.rsl ex 2 1 (lkG x y)]) (fun N => .tup [.sl (N + 0) 0 1 1 false, .bool true]) (fun _ => [paB 1 fun k => dif Q k 0]) (Nat.le_of_ble_eq_true rfl) [] (.cons (.lt0 rfl) .nil) (viewM0 h) (ShV.tup (.cons (.sl (i := 0) (Nat.le_of_ble_eq_true rfl) rfl rfl) (.cons (.bare rfl) .nil))) rfl (fun i b hi => ?_) (WpR.of_vc ?_)
  · match i, hi with
    | 0, hi => cases hi; exact ⟨_, rfl, rfl, .bare (ofL_bare (arrV_bare fun _ => rfl))⟩
    | i + 1, hi => simp at hi
  · (conv => whnf); (repeat' (first | ((with_reducible refine ifb_mk (fun hc => ?_) (fun hc => ?_)) <;> ((try simp only [decide_eq_true_eq, decide_eq_false_iff_not, Bool.not_eq_true', Bool.not_eq_false', Int.not_lt, Int.not_le, ne_eq, Decidable.not_not, beq_iff_eq, List.cons.injEq, and_true] at hc); (first | (exfalso; omega) | exact absurd True.intro hc | conv => whnf))) | ((with_reducible refine And.intro True.intro ?_); conv => whnf) | ((with_reducible refine CallX.all ?_); refine CallW.of_ok (k0 _) ?_; conv => whnf) | ((with_reducible refine WpR.loopU 5 ?_); conv => whnf) | ((with_reducible refine CallX.all (f := 78) ?_); refine CallW.inline Try.func78 rfl rfl (Nat.le_of_ble_eq_true rfl) (WpR.of_vc ?_); conv => whnf) | (refine AppX.nil (n := 1) Nat.zero_lt_one (Nat.le_of_ble_eq_true rfl) ?_; conv => whnf) | (refine AppX.own (n := 1) rfl rfl rfl Nat.zero_lt_one (Nat.le_of_ble_eq_true rfl) ?_; conv => whnf) | ((with_reducible refine WpR.draw (id := 8) mixed [0, 1, 2, 3, 4, 5, 6, 7, 8, 9, 10, 11, 12, 13] [0, 0, 0, 6, 14, 0, 0, 64, 224, 480, 1022, 2046, 4095, 8191] ?hh ?_); (case hh => kernel_rfl); conv => whnf) | ((with_reducible refine And.intro ?hh ?_); (case hh => exact condA); conv => whnf) | fail))
    all_goals first | (exfalso; omega) | exact ⟨[_], rfl, rfl, rfl, ⟨⟨_, rfl, rfl, SubQ.fin (by (conv => whnf); (repeat' (first | exact True.intro | rfl | refine And.intro ?_ ?_)); done) (fun h => h) (.inl rfl)⟩, paB_lt, rfl, trivial⟩, trivs⟩
set_option maxHeartbeats 16000000 in
theorem passN1 (h : As.H) (ex : Bool) (x y : Nat → Int) (hD : Dy 1 x) (hy : Pl 1 y) (hw : alW 1 x y = false) :
    CallOk Try.prog 64 [.rsl ex 2 1 (lkG x y)] h (.tup [.nils, .bool false]) h := by
  have k0 : ∀ h' : As.H, CallOk Try.prog 82 [.rsl ex 2 1 (lkG x y), .int .i64 0] h' (.tup [.int .i64 (qP 1 x y 0), .bool (whP 1 x y 0)]) h' := fun h' => placeR_ok h' ex 1 x y 0 hD hy (by omega)
  have b0 := qP_bd hD hy (d := 0) (by omega)
  have hw2 : ∃ d, d < 1 ∧ whP 1 x y d = false := by
    apply Classical.byContradiction
    intro hc
    have : alW 1 x y = true := allF_t fun i hi => by
      cases e : whP 1 x y i with
      | true => rfl
      | false => exact absurd ⟨i, hi, e⟩ hc
    rw [hw] at this; cases this
  generalize qP 1 x y = Q at *
  generalize whP 1 x y = W at *
  clear hw
  cases e0 : W 0 with
  | false =>
    rw [e0] at k0
    refine CallOk.run0 Try.func64 rfl rfl rfl rfl rfl (WpR.of_vc ?_)
    (conv => whnf); (repeat' (first | ((with_reducible refine ifb_mk (fun hc => ?_) (fun hc => ?_)) <;> ((try simp only [decide_eq_true_eq, decide_eq_false_iff_not, Bool.not_eq_true', Bool.not_eq_false', Int.not_lt, Int.not_le, ne_eq, Decidable.not_not, beq_iff_eq, List.cons.injEq, and_true] at hc); (first | (exfalso; omega) | exact absurd True.intro hc | conv => whnf))) | ((with_reducible refine And.intro True.intro ?_); conv => whnf) | ((with_reducible refine CallX.all ?_); refine CallW.of_ok (k0 _) ?_; conv => whnf) | ((with_reducible refine WpR.loopU 5 ?_); conv => whnf) | (refine AppX.nil (n := 1) Nat.zero_lt_one (Nat.le_of_ble_eq_true rfl) ?_; conv => whnf) | (refine AppX.own (n := 1) rfl rfl rfl Nat.zero_lt_one (Nat.le_of_ble_eq_true rfl) ?_; conv => whnf) | ((with_reducible refine And.intro ?hh ?_); (case hh => exact condA); conv => whnf) | fail))
    all_goals first | (exfalso; omega) | (refine ⟨[], ?_, rfl, rfl, trivial, trivs⟩; simp only [renV, renL]; (first | done | rfl | (simp; done) | (simp; omega) | grind))
  | true =>
  rw [e0] at k0
  exfalso
  obtain ⟨d, h1, h2⟩ := hw2
  match d, h1 with
  | 0, _ => rw [e0] at h2; cases h2
set_option maxHeartbeats 16000000 in
theorem passY2 (h : As.H) (ex : Bool) (x y : Nat → Int) (hD : Dy 2 x) (hy : Pl 2 y) (hw : alW 2 x y = true) :
    CallOk Try.prog 64 [.rsl ex 2 2 (lkG x y)] h (.tup [.sl (h.n + 0) 0 2 2 false, .bool true]) (addBs h [paB 2 fun k => dif (qP 2 x y) k 0]) := by
  have k0 : ∀ h' : As.H, CallOk Try.prog 82 [.rsl ex 2 2 (lkG x y), .int .i64 0] h' (.tup [.int .i64 (qP 2 x y 0), .bool (whP 2 x y 0)]) h' := fun h' => placeR_ok h' ex 2 x y 0 hD hy (by omega)
  have b0 := qP_bd hD hy (d := 0) (by omega)
  have k1 : ∀ h' : As.H, CallOk Try.prog 82 [.rsl ex 2 2 (lkG x y), .int .i64 1] h' (.tup [.int .i64 (qP 2 x y 1), .bool (whP 2 x y 1)]) h' := fun h' => placeR_ok h' ex 2 x y 1 hD hy (by omega)
  have b1 := qP_bd hD hy (d := 1) (by omega)
  rw [allF_iff.1 hw 0 (by omega)] at k0
  rw [allF_iff.1 hw 1 (by omega)] at k1
  generalize qP 2 x y = Q at *
  clear hw
  refine CallOk.runN Try.func64 rfl rfl (argsC := [.rsl ex 2 2 (lkG x y)]) (fun N => .tup [.sl (N + 0) 0 2 2 false, .bool true]) (fun _ => [paB 2 fun k => dif Q k 0]) (Nat.le_of_ble_eq_true rfl) [] (.cons (.lt0 rfl) .nil) (viewM0 h) (ShV.tup (.cons (.sl (i := 0) (Nat.le_of_ble_eq_true rfl) rfl rfl) (.cons (.bare rfl) .nil))) rfl (fun i b hi => ?_) (WpR.of_vc ?_)
  · match i, hi with
    | 0, hi => cases hi; exact ⟨_, rfl, rfl, .bare (ofL_bare (arrV_bare fun _ => rfl))⟩
    | i + 1, hi => simp at hi
  · (conv => whnf); (repeat' (first | ((with_reducible refine ifb_mk (fun hc => ?_) (fun hc => ?_)) <;> ((try simp only [decide_eq_true_eq, decide_eq_false_iff_not, Bool.not_eq_true', Bool.not_eq_false', Int.not_lt, Int.not_le, ne_eq, Decidable.not_not, beq_iff_eq, List.cons.injEq, and_true] at hc); (first | (exfalso; omega) | exact absurd True.intro hc | conv => whnf))) | ((with_reducible refine And.intro True.intro ?_); conv => whnf) | ((with_reducible refine CallX.all ?_); refine CallW.of_ok (k0 _) ?_; conv => whnf) | ((with_reducible refine CallX.all ?_); refine CallW.of_ok (k1 _) ?_; conv => whnf) | ((with_reducible refine WpR.loopU 5 ?_); conv => whnf) | ((with_reducible refine CallX.all (f := 78) ?_); refine CallW.inline Try.func78 rfl rfl (Nat.le_of_ble_eq_true rfl) (WpR.of_vc ?_); conv => whnf) | (refine AppX.nil (n := 1) Nat.zero_lt_one (Nat.le_of_ble_eq_true rfl) ?_; conv => whnf) | (refine AppX.own (n := 1) rfl rfl rfl Nat.zero_lt_one (Nat.le_of_ble_eq_true rfl) ?_; conv => whnf) | ((with_reducible refine WpR.draw (id := 8) mixed [0, 1, 2, 3, 4, 5, 6, 7, 8, 9, 10, 11, 12, 13] [0, 0, 0, 6, 14, 0, 0, 64, 224, 480, 1022, 2046, 4095, 8191] ?hh ?_); (case hh => kernel_rfl); conv => whnf) | ((with_reducible refine And.intro ?hh ?_); (case hh => exact condA); conv => whnf) | fail))
    all_goals first | (exfalso; omega) | exact ⟨[_], rfl, rfl, rfl, ⟨⟨_, rfl, rfl, SubQ.fin (by (conv => whnf); (repeat' (first | exact True.intro | rfl | refine And.intro ?_ ?_)); done) (fun h => h) (.inl rfl)⟩, paB_lt, rfl, trivial⟩, trivs⟩
set_option maxHeartbeats 16000000 in
theorem passN2 (h : As.H) (ex : Bool) (x y : Nat → Int) (hD : Dy 2 x) (hy : Pl 2 y) (hw : alW 2 x y = false) :
    CallOk Try.prog 64 [.rsl ex 2 2 (lkG x y)] h (.tup [.nils, .bool false]) h := by
  have k0 : ∀ h' : As.H, CallOk Try.prog 82 [.rsl ex 2 2 (lkG x y), .int .i64 0] h' (.tup [.int .i64 (qP 2 x y 0), .bool (whP 2 x y 0)]) h' := fun h' => placeR_ok h' ex 2 x y 0 hD hy (by omega)
  have b0 := qP_bd hD hy (d := 0) (by omega)
  have k1 : ∀ h' : As.H, CallOk Try.prog 82 [.rsl ex 2 2 (lkG x y), .int .i64 1] h' (.tup [.int .i64 (qP 2 x y 1), .bool (whP 2 x y 1)]) h' := fun h' => placeR_ok h' ex 2 x y 1 hD hy (by omega)
  have b1 := qP_bd hD hy (d := 1) (by omega)
  have hw2 : ∃ d, d < 2 ∧ whP 2 x y d = false := by
    apply Classical.byContradiction
    intro hc
    have : alW 2 x y = true := allF_t fun i hi => by
      cases e : whP 2 x y i with
      | true => rfl
      | false => exact absurd ⟨i, hi, e⟩ hc
    rw [hw] at this; cases this
  generalize qP 2 x y = Q at *
  generalize whP 2 x y = W at *
  clear hw
  cases e0 : W 0 with
  | false =>
    rw [e0] at k0
    refine CallOk.run0 Try.func64 rfl rfl rfl rfl rfl (WpR.of_vc ?_)
    (conv => whnf); (repeat' (first | ((with_reducible refine ifb_mk (fun hc => ?_) (fun hc => ?_)) <;> ((try simp only [decide_eq_true_eq, decide_eq_false_iff_not, Bool.not_eq_true', Bool.not_eq_false', Int.not_lt, Int.not_le, ne_eq, Decidable.not_not, beq_iff_eq, List.cons.injEq, and_true] at hc); (first | (exfalso; omega) | exact absurd True.intro hc | conv => whnf))) | ((with_reducible refine And.intro True.intro ?_); conv => whnf) | ((with_reducible refine CallX.all ?_); refine CallW.of_ok (k0 _) ?_; conv => whnf) | ((with_reducible refine WpR.loopU 5 ?_); conv => whnf) | (refine AppX.nil (n := 1) Nat.zero_lt_one (Nat.le_of_ble_eq_true rfl) ?_; conv => whnf) | (refine AppX.own (n := 1) rfl rfl rfl Nat.zero_lt_one (Nat.le_of_ble_eq_true rfl) ?_; conv => whnf) | ((with_reducible refine And.intro ?hh ?_); (case hh => exact condA); conv => whnf) | fail))
    all_goals first | (exfalso; omega) | (refine ⟨[], ?_, rfl, rfl, trivial, trivs⟩; simp only [renV, renL]; (first | done | rfl | (simp; done) | (simp; omega) | grind))
  | true =>
  rw [e0] at k0
  cases e1 : W 1 with
  | false =>
    rw [e1] at k1
    refine CallOk.run0 Try.func64 rfl rfl rfl rfl rfl (WpR.of_vc ?_)
    (conv => whnf); (repeat' (first | ((with_reducible refine ifb_mk (fun hc => ?_) (fun hc => ?_)) <;> ((try simp only [decide_eq_true_eq, decide_eq_false_iff_not, Bool.not_eq_true', Bool.not_eq_false', Int.not_lt, Int.not_le, ne_eq, Decidable.not_not, beq_iff_eq, List.cons.injEq, and_true] at hc); (first | (exfalso; omega) | exact absurd True.intro hc | conv => whnf))) | ((with_reducible refine And.intro True.intro ?_); conv => whnf) | ((with_reducible refine CallX.all ?_); refine CallW.of_ok (k0 _) ?_; conv => whnf) | ((with_reducible refine CallX.all ?_); refine CallW.of_ok (k1 _) ?_; conv => whnf) | ((with_reducible refine WpR.loopU 5 ?_); conv => whnf) | (refine AppX.nil (n := 1) Nat.zero_lt_one (Nat.le_of_ble_eq_true rfl) ?_; conv => whnf) | (refine AppX.own (n := 1) rfl rfl rfl Nat.zero_lt_one (Nat.le_of_ble_eq_true rfl) ?_; conv => whnf) | ((with_reducible refine And.intro ?hh ?_); (case hh => exact condA); conv => whnf) | fail))
    all_goals first | (exfalso; omega) | (refine ⟨[], ?_, rfl, rfl, trivial, trivs⟩; simp only [renV, renL]; (first | done | rfl | (simp; done) | (simp; omega) | grind))
  | true =>
  rw [e1] at k1
  exfalso
  obtain ⟨d, h1, h2⟩ := hw2
  match d, h1 with
  | 0, _ => rw [e0] at h2; cases h2
  | 1, _ => rw [e1] at h2; cases h2
set_option maxHeartbeats 16000000 in
theorem passY3 (h : As.H) (ex : Bool) (x y : Nat → Int) (hD : Dy 3 x) (hy : Pl 3 y) (hw : alW 3 x y = true) :
    CallOk Try.prog 64 [.rsl ex 2 3 (lkG x y)] h (.tup [.sl (h.n + 0) 0 3 3 false, .bool true]) (addBs h [paB 3 fun k => dif (qP 3 x y) k 0]) := by
  have k0 : ∀ h' : As.H, CallOk Try.prog 82 [.rsl ex 2 3 (lkG x y), .int .i64 0] h' (.tup [.int .i64 (qP 3 x y 0), .bool (whP 3 x y 0)]) h' := fun h' => placeR_ok h' ex 3 x y 0 hD hy (by omega)
  have b0 := qP_bd hD hy (d := 0) (by omega)
  have k1 : ∀ h' : As.H, CallOk Try.prog 82 [.rsl ex 2 3 (lkG x y), .int .i64 1] h' (.tup [.int .i64 (qP 3 x y 1), .bool (whP 3 x y 1)]) h' := fun h' => placeR_ok h' ex 3 x y 1 hD hy (by omega)
  have b1 := qP_bd hD hy (d := 1) (by omega)
  have k2 : ∀ h' : As.H, CallOk Try.prog 82 [.rsl ex 2 3 (lkG x y), .int .i64 2] h' (.tup [.int .i64 (qP 3 x y 2), .bool (whP 3 x y 2)]) h' := fun h' => placeR_ok h' ex 3 x y 2 hD hy (by omega)
  have b2 := qP_bd hD hy (d := 2) (by omega)
  rw [allF_iff.1 hw 0 (by omega)] at k0
  rw [allF_iff.1 hw 1 (by omega)] at k1
  rw [allF_iff.1 hw 2 (by omega)] at k2
  generalize qP 3 x y = Q at *
  clear hw
  refine CallOk.runN Try.func64 rfl rfl (argsC := [.rsl ex 2 3 (lkG x y)]) (fun N => .tup [.sl (N + 0) 0 3 3 false, .bool true]) (fun _ => [paB 3 fun k => dif Q k 0]) (Nat.le_of_ble_eq_true rfl) [] (.cons (.lt0 rfl) .nil) (viewM0 h) (ShV.tup (.cons (.sl (i := 0) (Nat.le_of_ble_eq_true rfl) rfl rfl) (.cons (.bare rfl) .nil))) rfl (fun i b hi => ?_) (WpR.of_vc ?_)
  · match i, hi with
    | 0, hi => cases hi; exact ⟨_, rfl, rfl, .bare (ofL_bare (arrV_bare fun _ => rfl))⟩
    | i + 1, hi => simp at hi
  · (conv => whnf); (repeat' (first | ((with_reducible refine ifb_mk (fun hc => ?_) (fun hc => ?_)) <;> ((try simp only [decide_eq_true_eq, decide_eq_false_iff_not, Bool.not_eq_true', Bool.not_eq_false', Int.not_lt, Int.not_le, ne_eq, Decidable.not_not, beq_iff_eq, List.cons.injEq, and_true] at hc); (first | (exfalso; omega) | exact absurd True.intro hc | conv => whnf))) | ((with_reducible refine And.intro True.intro ?_); conv => whnf) | ((with_reducible refine CallX.all ?_); refine CallW.of_ok (k0 _) ?_; conv => whnf) | ((with_reducible refine CallX.all ?_); refine CallW.of_ok (k1 _) ?_; conv => whnf) | ((with_reducible refine CallX.all ?_); refine CallW.of_ok (k2 _) ?_; conv => whnf) | ((with_reducible refine WpR.loopU 5 ?_); conv => whnf) | ((with_reducible refine CallX.all (f := 78) ?_); refine CallW.inline Try.func78 rfl rfl (Nat.le_of_ble_eq_true rfl) (WpR.of_vc ?_); conv => whnf) | (refine AppX.nil (n := 1) Nat.zero_lt_one (Nat.le_of_ble_eq_true rfl) ?_; conv => whnf) | (refine AppX.own (n := 1) rfl rfl rfl Nat.zero_lt_one (Nat.le_of_ble_eq_true rfl) ?_; conv => whnf) | ((with_reducible refine WpR.draw (id := 8) mixed [0, 1, 2, 3, 4, 5, 6, 7, 8, 9, 10, 11, 12, 13] [0, 0, 0, 6, 14, 0, 0, 64, 224, 480, 1022, 2046, 4095, 8191] ?hh ?_); (case hh => kernel_rfl); conv => whnf) | ((with_reducible refine And.intro ?hh ?_); (case hh => exact condA); conv => whnf) | fail))
    all_goals first | (exfalso; omega) | exact ⟨[_], rfl, rfl, rfl, ⟨⟨_, rfl, rfl, SubQ.fin (by (conv => whnf); (repeat' (first | exact True.intro | rfl | refine And.intro ?_ ?_)); done) (fun h => h) (.inl rfl)⟩, paB_lt, rfl, trivial⟩, trivs⟩
set_option maxHeartbeats 16000000 in
theorem passN3 (h : As.H) (ex : Bool) (x y : Nat → Int) (hD : Dy 3 x) (hy : Pl 3 y) (hw : alW 3 x y = false) :
    CallOk Try.prog 64 [.rsl ex 2 3 (lkG x y)] h (.tup [.nils, .bool false]) h := by
  have k0 : ∀ h' : As.H, CallOk Try.prog 82 [.rsl ex 2 3 (lkG x y), .int .i64 0] h' (.tup [.int .i64 (qP 3 x y 0), .bool (whP 3 x y 0)]) h' := fun h' => placeR_ok h' ex 3 x y 0 hD hy (by omega)
  have b0 := qP_bd hD hy (d := 0) (by omega)
  have k1 : ∀ h' : As.H, CallOk Try.prog 82 [.rsl ex 2 3 (lkG x y), .int .i64 1] h' (.tup [.int .i64 (qP 3 x y 1), .bool (whP 3 x y 1)]) h' := fun h' => placeR_ok h' ex 3 x y 1 hD hy (by omega)
  have b1 := qP_bd hD hy (d := 1) (by omega)
  have k2 : ∀ h' : As.H, CallOk Try.prog 82 [.rsl ex 2 3 (lkG x y), .int .i64 2] h' (.tup [.int .i64 (qP 3 x y 2), .bool (whP 3 x y 2)]) h' := fun h' => placeR_ok h' ex 3 x y 2 hD hy (by omega)
  have b2 := qP_bd hD hy (d := 2) (by omega)
  have hw2 : ∃ d, d < 3 ∧ whP 3 x y d = false := by
    apply Classical.byContradiction
    intro hc
    have : alW 3 x y = true := allF_t fun i hi => by
      cases e : whP 3 x y i with
      | true => rfl
      | false => exact absurd ⟨i, hi, e⟩ hc
    rw [hw] at this; cases this
  generalize qP 3 x y = Q at *
  generalize whP 3 x y = W at *
  clear hw
  cases e0 : W 0 with
  | false =>
    rw [e0] at k0
    refine CallOk.run0 Try.func64 rfl rfl rfl rfl rfl (WpR.of_vc ?_)
    (conv => whnf); (repeat' (first | ((with_reducible refine ifb_mk (fun hc => ?_) (fun hc => ?_)) <;> ((try simp only [decide_eq_true_eq, decide_eq_false_iff_not, Bool.not_eq_true', Bool.not_eq_false', Int.not_lt, Int.not_le, ne_eq, Decidable.not_not, beq_iff_eq, List.cons.injEq, and_true] at hc); (first | (exfalso; omega) | exact absurd True.intro hc | conv => whnf))) | ((with_reducible refine And.intro True.intro ?_); conv => whnf) | ((with_reducible refine CallX.all ?_); refine CallW.of_ok (k0 _) ?_; conv => whnf) | ((with_reducible refine WpR.loopU 5 ?_); conv => whnf) | (refine AppX.nil (n := 1) Nat.zero_lt_one (Nat.le_of_ble_eq_true rfl) ?_; conv => whnf) | (refine AppX.own (n := 1) rfl rfl rfl Nat.zero_lt_one (Nat.le_of_ble_eq_true rfl) ?_; conv => whnf) | ((with_reducible refine And.intro ?hh ?_); (case hh => exact condA); conv => whnf) | fail))
    all_goals first | (exfalso; omega) | (refine ⟨[], ?_, rfl, rfl, trivial, trivs⟩; simp only [renV, renL]; (first | done | rfl | (simp; done) | (simp; omega) | grind))
  | true =>
  rw [e0] at k0
  cases e1 : W 1 with
  | false =>
    rw [e1] at k1
    refine CallOk.run0 Try.func64 rfl rfl rfl rfl rfl (WpR.of_vc ?_)
    (conv => whnf); (repeat' (first | ((with_reducible refine ifb_mk (fun hc => ?_) (fun hc => ?_)) <;> ((try simp only [decide_eq_true_eq, decide_eq_false_iff_not, Bool.not_eq_true', Bool.not_eq_false', Int.not_lt, Int.not_le, ne_eq, Decidable.not_not, beq_iff_eq, List.cons.injEq, and_true] at hc); (first | (exfalso; omega) | exact absurd True.intro hc | conv => whnf))) | ((with_reducible refine And.intro True.intro ?_); conv => whnf) | ((with_reducible refine CallX.all ?_); refine CallW.of_ok (k0 _) ?_; conv => whnf) | ((with_reducible refine CallX.all ?_); refine CallW.of_ok (k1 _) ?_; conv => whnf) | ((with_reducible refine WpR.loopU 5 ?_); conv => whnf) | (refine AppX.nil (n := 1) Nat.zero_lt_one (Nat.le_of_ble_eq_true rfl) ?_; conv => whnf) | (refine AppX.own (n := 1) rfl rfl rfl Nat.zero_lt_one (Nat.le_of_ble_eq_true rfl) ?_; conv => whnf) | ((with_reducible refine And.intro ?hh ?_); (case hh => exact condA); conv => whnf) | fail))
    all_goals first | (exfalso; omega) | (refine ⟨[], ?_, rfl, rfl, trivial, trivs⟩; simp only [renV, renL]; (first | done | rfl | (simp; done) | (simp; omega) | grind))
  | true =>
  rw [e1] at k1
  cases e2 : W 2 with
  | false =>
    rw [e2] at k2
    refine CallOk.run0 Try.func64 rfl rfl rfl rfl rfl (WpR.of_vc ?_)
    (conv => whnf); (repeat' (first | ((with_reducible refine ifb_mk (fun hc => ?_) (fun hc => ?_)) <;> ((try simp only [decide_eq_true_eq, decide_eq_false_iff_not, Bool.not_eq_true', Bool.not_eq_false', Int.not_lt, Int.not_le, ne_eq, Decidable.not_not, beq_iff_eq, List.cons.injEq, and_true] at hc); (first | (exfalso; omega) | exact absurd True.intro hc | conv => whnf))) | ((with_reducible refine And.intro True.intro ?_); conv => whnf) | ((with_reducible refine CallX.all ?_); refine CallW.of_ok (k0 _) ?_; conv => whnf) | ((with_reducible refine CallX.all ?_); refine CallW.of_ok (k1 _) ?_; conv => whnf) | ((with_reducible refine CallX.all ?_); refine CallW.of_ok (k2 _) ?_; conv => whnf) | ((with_reducible refine WpR.loopU 5 ?_); conv => whnf) | (refine AppX.nil (n := 1) Nat.zero_lt_one (Nat.le_of_ble_eq_true rfl) ?_; conv => whnf) | (refine AppX.own (n := 1) rfl rfl rfl Nat.zero_lt_one (Nat.le_of_ble_eq_true rfl) ?_; conv => whnf) | ((with_reducible refine And.intro ?hh ?_); (case hh => exact condA); conv => whnf) | fail))
    all_goals first | (exfalso; omega) | (refine ⟨[], ?_, rfl, rfl, trivial, trivs⟩; simp only [renV, renL]; (first | done | rfl | (simp; done) | (simp; omega) | grind))
  | true =>
  rw [e2] at k2
  exfalso
  obtain ⟨d, h1, h2⟩ := hw2
  match d, h1 with
  | 0, _ => rw [e0] at h2; cases h2
  | 1, _ => rw [e1] at h2; cases h2
  | 2, _ => rw [e2] at h2; cases h2
set_option maxHeartbeats 16000000 in
theorem passY4 (h : As.H) (ex : Bool) (x y : Nat → Int) (hD : Dy 4 x) (hy : Pl 4 y) (hw : alW 4 x y = true) :
    CallOk Try.prog 64 [.rsl ex 2 4 (lkG x y)] h (.tup [.sl (h.n + 0) 0 4 4 false, .bool true]) (addBs h [paB 4 fun k => dif (qP 4 x y) k 0]) := by
  have k0 : ∀ h' : As.H, CallOk Try.prog 82 [.rsl ex 2 4 (lkG x y), .int .i64 0] h' (.tup [.int .i64 (qP 4 x y 0), .bool (whP 4 x y 0)]) h' := fun h' => placeR_ok h' ex 4 x y 0 hD hy (by omega)
  have b0 := qP_bd hD hy (d := 0) (by omega)
  have k1 : ∀ h' : As.H, CallOk Try.prog 82 [.rsl ex 2 4 (lkG x y), .int .i64 1] h' (.tup [.int .i64 (qP 4 x y 1), .bool (whP 4 x y 1)]) h' := fun h' => placeR_ok h' ex 4 x y 1 hD hy (by omega)
  have b1 := qP_bd hD hy (d := 1) (by omega)
  have k2 : ∀ h' : As.H, CallOk Try.prog 82 [.rsl ex 2 4 (lkG x y), .int .i64 2] h' (.tup [.int .i64 (qP 4 x y 2), .bool (whP 4 x y 2)]) h' := fun h' => placeR_ok h' ex 4 x y 2 hD hy (by omega)
  have b2 := qP_bd hD hy (d := 2) (by omega)
  have k3 : ∀ h' : As.H, CallOk Try.prog 82 [.rsl ex 2 4 (lkG x y), .int .i64 3] h' (.tup [.int .i64 (qP 4 x y 3), .bool (whP 4 x y 3)]) h' := fun h' => placeR_ok h' ex 4 x y 3 hD hy (by omega)
  have b3 := qP_bd hD hy (d := 3) (by omega)
  rw [allF_iff.1 hw 0 (by omega)] at k0
  rw [allF_iff.1 hw 1 (by omega)] at k1
  rw [allF_iff.1 hw 2 (by omega)] at k2
  rw [allF_iff.1 hw 3 (by omega)] at k3
  generalize qP 4 x y = Q at *
  clear hw
  refine CallOk.runN Try.func64 rfl rfl (argsC := [.rsl ex 2 4 (lkG x y)]) (fun N => .tup [.sl (N + 0) 0 4 4 false, .bool true]) (fun _ => [paB 4 fun k => dif Q k 0]) (Nat.le_of_ble_eq_true rfl) [] (.cons (.lt0 rfl) .nil) (viewM0 h) (ShV.tup (.cons (.sl (i := 0) (Nat.le_of_ble_eq_true rfl) rfl rfl) (.cons (.bare rfl) .nil))) rfl (fun i b hi => ?_) (WpR.of_vc ?_)
  · match i, hi with
    | 0, hi => cases hi; exact ⟨_, rfl, rfl, .bare (ofL_bare (arrV_bare fun _ => rfl))⟩
    | i + 1, hi => simp at hi
  · (conv => whnf); (repeat' (first | ((with_reducible refine ifb_mk (fun hc => ?_) (fun hc => ?_)) <;> ((try simp only [decide_eq_true_eq, decide_eq_false_iff_not, Bool.not_eq_true', Bool.not_eq_false', Int.not_lt, Int.not_le, ne_eq, Decidable.not_not, beq_iff_eq, List.cons.injEq, and_true] at hc); (first | (exfalso; omega) | exact absurd True.intro hc | conv => whnf))) | ((with_reducible refine And.intro True.intro ?_); conv => whnf) | ((with_reducible refine CallX.all ?_); refine CallW.of_ok (k0 _) ?_; conv => whnf) | ((with_reducible refine CallX.all ?_); refine CallW.of_ok (k1 _) ?_; conv => whnf) | ((with_reducible refine CallX.all ?_); refine CallW.of_ok (k2 _) ?_; conv => whnf) | ((with_reducible refine CallX.all ?_); refine CallW.of_ok (k3 _) ?_; conv => whnf) | ((with_reducible refine WpR.loopU 5 ?_); conv => whnf) | ((with_reducible refine CallX.all (f := 78) ?_); refine CallW.inline Try.func78 rfl rfl (Nat.le_of_ble_eq_true rfl) (WpR.of_vc ?_); conv => whnf) | (refine AppX.nil (n := 1) Nat.zero_lt_one (Nat.le_of_ble_eq_true rfl) ?_; conv => whnf) | (refine AppX.own (n := 1) rfl rfl rfl Nat.zero_lt_one (Nat.le_of_ble_eq_true rfl) ?_; conv => whnf) | ((with_reducible refine WpR.draw (id := 8) mixed [0, 1, 2, 3, 4, 5, 6, 7, 8, 9, 10, 11, 12, 13] [0, 0, 0, 6, 14, 0, 0, 64, 224, 480, 1022, 2046, 4095, 8191] ?hh ?_); (case hh => kernel_rfl); conv => whnf) | ((with_reducible refine And.intro ?hh ?_); (case hh => exact condA); conv => whnf) | fail))
    all_goals first | (exfalso; omega) | exact ⟨[_], rfl, rfl, rfl, ⟨⟨_, rfl, rfl, SubQ.fin (by (conv => whnf); (repeat' (first | exact True.intro | rfl | refine And.intro ?_ ?_)); done) (fun h => h) (.inl rfl)⟩, paB_lt, rfl, trivial⟩, trivs⟩
set_option maxHeartbeats 16000000 in
theorem passN4 (h : As.H) (ex : Bool) (x y : Nat → Int) (hD : Dy 4 x) (hy : Pl 4 y) (hw : alW 4 x y = false) :
    CallOk Try.prog 64 [.rsl ex 2 4 (lkG x y)] h (.tup [.nils, .bool false]) h := by
  have k0 : ∀ h' : As.H, CallOk Try.prog 82 [.rsl ex 2 4 (lkG x y), .int .i64 0] h' (.tup [.int .i64 (qP 4 x y 0), .bool (whP 4 x y 0)]) h' := fun h' => placeR_ok h' ex 4 x y 0 hD hy (by omega)
  have b0 := qP_bd hD hy (d := 0) (by omega)
  have k1 : ∀ h' : As.H, CallOk Try.prog 82 [.rsl ex 2 4 (lkG x y), .int .i64 1] h' (.tup [.int .i64 (qP 4 x y 1), .bool (whP 4 x y 1)]) h' := fun h' => placeR_ok h' ex 4 x y 1 hD hy (by omega)
  have b1 := qP_bd hD hy (d := 1) (by omega)
  have k2 : ∀ h' : As.H, CallOk Try.prog 82 [.rsl ex 2 4 (lkG x y), .int .i64 2] h' (.tup [.int .i64 (qP 4 x y 2), .bool (whP 4 x y 2)]) h' := fun h' => placeR_ok h' ex 4 x y 2 hD hy (by omega)
  have b2 := qP_bd hD hy (d := 2) (by omega)
  have k3 : ∀ h' : As.H, CallOk Try.prog 82 [.rsl ex 2 4 (lkG x y), .int .i64 3] h' (.tup [.int .i64 (qP 4 x y 3), .bool (whP 4 x y 3)]) h' := fun h' => placeR_ok h' ex 4 x y 3 hD hy (by omega)
  have b3 := qP_bd hD hy (d := 3) (by omega)
  have hw2 : ∃ d, d < 4 ∧ whP 4 x y d = false := by
    apply Classical.byContradiction
    intro hc
    have : alW 4 x y = true := allF_t fun i hi => by
      cases e : whP 4 x y i with
      | true => rfl
      | false => exact absurd ⟨i, hi, e⟩ hc
    rw [hw] at this; cases this
  generalize qP 4 x y = Q at *
  generalize whP 4 x y = W at *
  clear hw
  cases e0 : W 0 with
  | false =>
    rw [e0] at k0
    refine CallOk.run0 Try.func64 rfl rfl rfl rfl rfl (WpR.of_vc ?_)
    (conv => whnf); (repeat' (first | ((with_reducible refine ifb_mk (fun hc => ?_) (fun hc => ?_)) <;> ((try simp only [decide_eq_true_eq, decide_eq_false_iff_not, Bool.not_eq_true', Bool.not_eq_false', Int.not_lt, Int.not_le, ne_eq, Decidable.not_not, beq_iff_eq, List.cons.injEq, and_true] at hc); (first | (exfalso; omega) | exact absurd True.intro hc | conv => whnf))) | ((with_reducible refine And.intro True.intro ?_); conv => whnf) | ((with_reducible refine CallX.all ?_); refine CallW.of_ok (k0 _) ?_; conv => whnf) | ((with_reducible refine WpR.loopU 5 ?_); conv => whnf) | (refine AppX.nil (n := 1) Nat.zero_lt_one (Nat.le_of_ble_eq_true rfl) ?_; conv => whnf) | (refine AppX.own (n := 1) rfl rfl rfl Nat.zero_lt_one (Nat.le_of_ble_eq_true rfl) ?_; conv => whnf) | ((with_reducible refine And.intro ?hh ?_); (case hh => exact condA); conv => whnf) | fail))
    all_goals first | (exfalso; omega) | (refine ⟨[], ?_, rfl, rfl, trivial, trivs⟩; simp only [renV, renL]; (first | done | rfl | (simp; done) | (simp; omega) | grind))
  | true =>
  rw [e0] at k0
  cases e1 : W 1 with
  | false =>
    rw [e1] at k1
    refine CallOk.run0 Try.func64 rfl rfl rfl rfl rfl (WpR.of_vc ?_)
    (conv => whnf); (repeat' (first | ((with_reducible refine ifb_mk (fun hc => ?_) (fun hc => ?_)) <;> ((try simp only [decide_eq_true_eq, decide_eq_false_iff_not, Bool.not_eq_true', Bool.not_eq_false', Int.not_lt, Int.not_le, ne_eq, Decidable.not_not, beq_iff_eq, List.cons.injEq, and_true] at hc); (first | (exfalso; omega) | exact absurd True.intro hc | conv => whnf))) | ((with_reducible refine And.intro True.intro ?_); conv => whnf) | ((with_reducible refine CallX.all ?_); refine CallW.of_ok (k0 _) ?_; conv => whnf) | ((with_reducible refine CallX.all ?_); refine CallW.of_ok (k1 _) ?_; conv => whnf) | ((with_reducible refine WpR.loopU 5 ?_); conv => whnf) | (refine AppX.nil (n := 1) Nat.zero_lt_one (Nat.le_of_ble_eq_true rfl) ?_; conv => whnf) | (refine AppX.own (n := 1) rfl rfl rfl Nat.zero_lt_one (Nat.le_of_ble_eq_true rfl) ?_; conv => whnf) | ((with_reducible refine And.intro ?hh ?_); (case hh => exact condA); conv => whnf) | fail))
    all_goals first | (exfalso; omega) | (refine ⟨[], ?_, rfl, rfl, trivial, trivs⟩; simp only [renV, renL]; (first | done | rfl | (simp; done) | (simp; omega) | grind))
  | true =>
  rw [e1] at k1
  cases e2 : W 2 with
  | false =>
    rw [e2] at k2
    refine CallOk.run0 Try.func64 rfl rfl rfl rfl rfl (WpR.of_vc ?_)
    (conv => whnf); (repeat' (first | ((with_reducible refine ifb_mk (fun hc => ?_) (fun hc => ?_)) <;> ((try simp only [decide_eq_true_eq, decide_eq_false_iff_not, Bool.not_eq_true', Bool.not_eq_false', Int.not_lt, Int.not_le, ne_eq, Decidable.not_not, beq_iff_eq, List.cons.injEq, and_true] at hc); (first | (exfalso; omega) | exact absurd True.intro hc | conv => whnf))) | ((with_reducible refine And.intro True.intro ?_); conv => whnf) | ((with_reducible refine CallX.all ?_); refine CallW.of_ok (k0 _) ?_; conv => whnf) | ((with_reducible refine CallX.all ?_); refine CallW.of_ok (k1 _) ?_; conv => whnf) | ((with_reducible refine CallX.all ?_); refine CallW.of_ok (k2 _) ?_; conv => whnf) | ((with_reducible refine WpR.loopU 5 ?_); conv => whnf) | (refine AppX.nil (n := 1) Nat.zero_lt_one (Nat.le_of_ble_eq_true rfl) ?_; conv => whnf) | (refine AppX.own (n := 1) rfl rfl rfl Nat.zero_lt_one (Nat.le_of_ble_eq_true rfl) ?_; conv => whnf) | ((with_reducible refine And.intro ?hh ?_); (case hh => exact condA); conv => whnf) | fail))
    all_goals first | (exfalso; omega) | (refine ⟨[], ?_, rfl, rfl, trivial, trivs⟩; simp only [renV, renL]; (first | done | rfl | (simp; done) | (simp; omega) | grind))
  | true =>
  rw [e2] at k2
  cases e3 : W 3 with
  | false =>
    rw [e3] at k3
    refine CallOk.run0 Try.func64 rfl rfl rfl rfl rfl (WpR.of_vc ?_)
    (conv => whnf); (repeat' (first | ((with_reducible refine ifb_mk (fun hc => ?_) (fun hc => ?_)) <;> ((try simp only [decide_eq_true_eq, decide_eq_false_iff_not, Bool.not_eq_true', Bool.not_eq_false', Int.not_lt, Int.not_le, ne_eq, Decidable.not_not, beq_iff_eq, List.cons.injEq, and_true] at hc); (first | (exfalso; omega) | exact absurd True.intro hc | conv => whnf))) | ((with_reducible refine And.intro True.intro ?_); conv => whnf) | ((with_reducible refine CallX.all ?_); refine CallW.of_ok (k0 _) ?_; conv => whnf) | ((with_reducible refine CallX.all ?_); refine CallW.of_ok (k1 _) ?_; conv => whnf) | ((with_reducible refine CallX.all ?_); refine CallW.of_ok (k2 _) ?_; conv => whnf) | ((with_reducible refine CallX.all ?_); refine CallW.of_ok (k3 _) ?_; conv => whnf) | ((with_reducible refine WpR.loopU 5 ?_); conv => whnf) | (refine AppX.nil (n := 1) Nat.zero_lt_one (Nat.le_of_ble_eq_true rfl) ?_; conv => whnf) | (refine AppX.own (n := 1) rfl rfl rfl Nat.zero_lt_one (Nat.le_of_ble_eq_true rfl) ?_; conv => whnf) | ((with_reducible refine And.intro ?hh ?_); (case hh => exact condA); conv => whnf) | fail))
    all_goals first | (exfalso; omega) | (refine ⟨[], ?_, rfl, rfl, trivial, trivs⟩; simp only [renV, renL]; (first | done | rfl | (simp; done) | (simp; omega) | grind))
  | true =>
  rw [e3] at k3
  exfalso
  obtain ⟨d, h1, h2⟩ := hw2
  match d, h1 with
  | 0, _ => rw [e0] at h2; cases h2
  | 1, _ => rw [e1] at h2; cases h2
  | 2, _ => rw [e2] at h2; cases h2
  | 3, _ => rw [e3] at h2; cases h2
theorem pass_ok (h : As.H) (ex : Bool) (n : Nat) (hn : 1 ≤ n) (x y : Nat → Int) (hD : Dy n x) (hy : Pl n y) :
    CallOk Try.prog 64 [.rsl ex 2 n (lkG x y)] h (match alW n x y with | true => .tup [.rsl false 1 n (iG fun k => dif (qP n x y) k 0), .bool true] | false => .tup [.nils, .bool false]) h := by
  have hl := hD.le
  cases hw : alW n x y with
  | true =>
    have hf := FzL.tup (.cons (pa_fz (n0 := h.n) (i := 0) (m := n) (p := fun k => dif (qP n x y) k 0) (ex := false) (news := [paB n fun k => dif (qP n x y) k 0]) rfl (h.n + 0) rfl) (.cons (.same (v := .bool true) rfl) .nil))
    match n, hn, hl with
    | 1, _, _ => exact CallOk.freeze (passY1 h ex x y hD hy hw) hf (fun b hb => by rw [List.mem_singleton.1 hb]; rfl)
    | 2, _, _ => exact CallOk.freeze (passY2 h ex x y hD hy hw) hf (fun b hb => by rw [List.mem_singleton.1 hb]; rfl)
    | 3, _, _ => exact CallOk.freeze (passY3 h ex x y hD hy hw) hf (fun b hb => by rw [List.mem_singleton.1 hb]; rfl)
    | 4, _, _ => exact CallOk.freeze (passY4 h ex x y hD hy hw) hf (fun b hb => by rw [List.mem_singleton.1 hb]; rfl)
  | false =>
    match n, hn, hl with
    | 1, _, _ => exact passN1 h ex x y hD hy hw
    | 2, _, _ => exact passN2 h ex x y hD hy hw
    | 3, _, _ => exact passN3 h ex x y hD hy hw
    | 4, _, _ => exact passN4 h ex x y hD hy hw
end Go.Proofs.K
namespace Go.Proofs.K
open Go.As
set_option maxRecDepth 20000
theorem wrap64n {r : Int} (h : 0 ≤ r ∧ r < 65536) : IntKind.i64.wrap r = r := wrap_in (inR_of (by unfold InR; omega))
theorem and64 {a b : Nat} (ha : a < 65536) (hb : b < 65536) : IntKind.i64.wrap (((BitVec.ofInt IntKind.i64.bits (a : Int) &&& BitVec.ofInt IntKind.i64.bits (b : Int)).toNat : Nat) : Int) = ((a &&& b : Nat) : Int) := by
  have e : (BitVec.ofInt IntKind.i64.bits (a : Int) &&& BitVec.ofInt IntKind.i64.bits (b : Int)).toNat = a &&& b := by
    show (BitVec.ofInt 64 (a : Int) &&& BitVec.ofInt 64 (b : Int)).toNat = _
    rw [BitVec.toNat_and, BitVec.ofInt_natCast, BitVec.ofInt_natCast, BitVec.toNat_ofNat, BitVec.toNat_ofNat, Nat.mod_eq_of_lt (by omega), Nat.mod_eq_of_lt (by omega)]
  have hlt : a &&& b < 65536 := Nat.lt_of_le_of_lt Nat.and_le_left ha
  rw [e]
  exact wrap64n ⟨by omega, by omega⟩
theorem or64 {a b : Nat} (ha : a < 65536) (hb : b < 65536) : IntKind.i64.wrap (((BitVec.ofInt IntKind.i64.bits (a : Int) ||| BitVec.ofInt IntKind.i64.bits (b : Int)).toNat : Nat) : Int) = ((a ||| b : Nat) : Int) := by
  have e : (BitVec.ofInt IntKind.i64.bits (a : Int) ||| BitVec.ofInt IntKind.i64.bits (b : Int)).toNat = a ||| b := by
    show (BitVec.ofInt 64 (a : Int) ||| BitVec.ofInt 64 (b : Int)).toNat = _
    rw [BitVec.toNat_or, BitVec.ofInt_natCast, BitVec.ofInt_natCast, BitVec.toNat_ofNat, BitVec.toNat_ofNat, Nat.mod_eq_of_lt (by omega), Nat.mod_eq_of_lt (by omega)]
  have hlt : a ||| b < 65536 := Nat.or_lt_two_pow (n := 16) ha hb
  rw [e]
  exact wrap64n ⟨by omega, by omega⟩
theorem shr64 {a s : Nat} (hs : s < 16) : (a : Int).fdiv (2 ^ min (s : Int).toNat IntKind.i64.bits) = ((a >>> s : Nat) : Int) := by
  have hm : min (s : Int).toNat (IntKind.i64).bits = s := by show min (s : Int).toNat 64 = s; omega
  rw [hm, Int.fdiv_eq_ediv_of_nonneg _ (show (0 : Int) ≤ 2 ^ s from by have : (0 : Int) < 2 ^ s := Int.pow_pos (by decide); omega), Nat.shiftRight_eq_div_pow]
  simp
theorem shl64 {s : Nat} (hs : s < 16) : IntKind.i64.wrap (1 * 2 ^ min (s : Int).toNat IntKind.i64.bits) = ((2 ^ s : Nat) : Int) := by
  have hp : 2 ^ s < 65536 := Nat.pow_lt_pow_right (a := 2) (by omega) hs
  have hm : min (s : Int).toNat (IntKind.i64).bits = s := by show min (s : Int).toNat 64 = s; omega
  rw [hm, Int.one_mul, show ((2 : Int) ^ s) = ((2 ^ s : Nat) : Int) from by simp]
  generalize 2 ^ s = z at *
  exact wrap64n ⟨by omega, by omega⟩
def onN (ps : Nat → Bool) : Nat → Nat
  | 0 => 0
  | i + 1 => if ps i = true then onN ps i ||| 2 ^ i else onN ps i
theorem onN_bit {ps : Nat → Bool} : ∀ n k, (onN ps n).testBit k = (decide (k < n) && ps k)
  | 0, k => by unfold onN; rw [Nat.zero_testBit, decide_eq_false (Nat.not_lt_zero k)]; rfl
  | n + 1, k => by
    have ih := onN_bit (ps := ps) n k
    unfold onN
    cases hp : ps n with
    | true =>
      rw [if_pos rfl, Nat.testBit_or, Nat.testBit_two_pow, ih]
      by_cases e : k = n
      · subst e; simp [hp]
      · have h1 : decide (n = k) = false := decide_eq_false (fun h => e h.symm)
        have h2 : decide (k < n + 1) = decide (k < n) := by rw [Bool.eq_iff_iff, decide_eq_true_eq, decide_eq_true_eq]; omega
        rw [h1, h2, Bool.or_false]
    | false =>
      rw [if_neg (by decide), ih]
      by_cases e : k = n
      · subst e; simp [hp]
      · have h2 : decide (k < n + 1) = decide (k < n) := by rw [Bool.eq_iff_iff, decide_eq_true_eq, decide_eq_true_eq]; omega
        rw [h2]
theorem onN_lt {ps : Nat → Bool} : ∀ n, onN ps n < 2 ^ n
  | 0 => Nat.one_pos
  | n + 1 => by
    have ih := onN_lt (ps := ps) n
    have h2 : 2 ^ n < 2 ^ (n + 1) := Nat.pow_lt_pow_right (a := 2) (by omega) (by omega)
    unfold onN
    split
    · exact Nat.or_lt_two_pow (by omega) h2
    · omega
def pmF (m : Nat) (p : Nat → Int) (x y : Nat → Int) (i : Nat) : Bool := decide (plc p (x i).toNat m = y i)
theorem pmF_eq {m : Nat} {p : Nat → Int} {x y : Nat → Int} (hm : m ≤ 4) (i : Nat) : pmF m p x y i = psF (cut m p) x y i := by unfold pmF psF; rw [plc_cut 4 hm]
set_option maxHeartbeats 4000000 in
theorem on_ok (h : As.H) (ex ex2 : Bool) (n : Nat) (hn : n ≤ 12) (x y : Nat → Int) (hx : ∀ i, i < n → 0 ≤ x i ∧ x i ≤ 60) (m : Nat) (hm : m ≤ 4) (p : Nat → Int) (hp : Sm 8796093022208 m p) : CallOk Try.prog 43 [.rsl ex 2 n (lkG x y), .rsl ex2 1 m (iG p)] h (.int .i64 (onN (pmF m p x y) n)) h := by
  have kA := fun (d : Nat) (hd : d < 100) h' => atOf_ok h' ex2 m p d hd hm hp
  have hps : ∀ i, pmF m p x y i = decide (plc p (x i).toNat m = y i) := fun i => rfl
  have h0 : onN (pmF m p x y) 0 = 0 := rfl
  have hs : ∀ i, onN (pmF m p x y) (i + 1) = if pmF m p x y i = true then onN (pmF m p x y) i ||| 2 ^ i else onN (pmF m p x y) i := fun i => rfl
  have hl := fun i => onN_lt (ps := pmF m p x y) i
  generalize onN (pmF m p x y) = o at *
  generalize pmF m p x y = ps at *
  refine CallOk.run0 Try.func43 rfl rfl rfl rfl rfl (WpR.of_vc ?_)
  (conv => whnf); (repeat' (first | ((with_reducible refine ifb_mk (fun hc => ?_) (fun hc => ?_)) <;> ((try simp only [decide_eq_true_eq, decide_eq_false_iff_not, Bool.not_eq_true', Bool.not_eq_false', Int.not_lt, Int.not_le, ne_eq, Decidable.not_not, beq_iff_eq, List.cons.injEq, and_true] at hc); (first | (exfalso; omega) | exact absurd True.intro hc | conv => whnf))) | ((with_reducible refine And.intro True.intro ?_); conv => whnf) | ((with_reducible refine And.intro ?hh ?_); (case hh => exact condA); conv => whnf) | fail))
  refine WpR.loopA (ι := Nat × Int) [] [0, 1] [] [] 0 (fun q => [(6, .int .i64 q.1), (5, .int .i64 q.2)]) (fun _ => []) (fun q => n - q.1) (fun q => q.1 ≤ n ∧ q.2 = o q.1) ?_ ((0, 0)) (⟨Nat.zero_le _, by rw [h0]; rfl⟩) [] Back.auto
  rintro ⟨i, s⟩ ⟨j1, j2⟩
  dsimp only at j1 j2
  subst j2
  refine WpR.of_vc ?_
  by_cases hi : i < n
  · obtain ⟨d, hd⟩ : ∃ d : Nat, x i = d := ⟨(x i).toNat, by have := hx i hi; omega⟩
    have kA := fun h' => kA d (by have := hx i hi; omega) h'
    have hpi := hps i
    have hsi := hs i
    rw [hd, show (d : Int).toNat = d from rfl] at hpi
    rw [← hd] at kA
    have hoi : o i < 65536 := Nat.lt_of_lt_of_le (hl i) (Nat.pow_le_pow_right (n := 2) (by omega) (by omega : i ≤ 16))
    have h2i : 2 ^ i < 65536 := Nat.pow_lt_pow_right (a := 2) (by omega) (by omega : i < 16)
    have eor : IntKind.i64.wrap (((BitVec.ofInt IntKind.i64.bits (o i : Int) ||| BitVec.ofInt IntKind.i64.bits (IntKind.i64.wrap (1 * 2 ^ min (i : Int).toNat IntKind.i64.bits))).toNat : Nat) : Int) = ((o i ||| 2 ^ i : Nat) : Int) := by rw [shl64 (by omega), or64 hoi h2i]
    generalize plc p d m = z at *
    by_cases hz : z = y i
    · rw [hpi, if_pos (decide_eq_true hz)] at hsi
      rw [← hsi] at eor
      (conv => whnf); (repeat' (first | ((with_reducible refine ifb_mk (fun hc => ?_) (fun hc => ?_)) <;> ((try simp only [decide_eq_true_eq, decide_eq_false_iff_not, Bool.not_eq_true', Bool.not_eq_false', Int.not_lt, Int.not_le, ne_eq, Decidable.not_not, beq_iff_eq, List.cons.injEq, and_true] at hc); (first | (exfalso; omega) | exact absurd True.intro hc | conv => whnf))) | ((with_reducible refine And.intro True.intro ?_); conv => whnf) | ((with_reducible refine grd_and ?_); refine And.intro (hi) ?_; conv => whnf) | ((with_reducible refine CallX.all ?_); refine CallW.of_ok (kA _) ?_; conv => whnf) | ((with_reducible refine grd_ex ?_); refine ex_ok (kA _) ?_; conv => whnf) | ((with_reducible refine WpR.draw (id := 5) mixed [0, 1, 2, 3, 4, 5, 7, 8, 9, 10, 11, 6, 12] [0, 0, 0, 6, 14, 30, 63, 0, 0, 384, 896, 1920, 4095] ?hh ?_); (case hh => kernel_rfl); conv => whnf) | ((with_reducible refine And.intro ?hh ?_); (case hh => exact condA); conv => whnf) | fail))
      all_goals first | (exfalso; omega) | exact ⟨(i + 1, _), [], by dsimp only; omega, ⟨by dsimp only; omega, eor⟩, Back.auto⟩
    · rw [hpi, decide_eq_false hz, if_neg (by decide)] at hsi
      (conv => whnf); (repeat' (first | ((with_reducible refine ifb_mk (fun hc => ?_) (fun hc => ?_)) <;> ((try simp only [decide_eq_true_eq, decide_eq_false_iff_not, Bool.not_eq_true', Bool.not_eq_false', Int.not_lt, Int.not_le, ne_eq, Decidable.not_not, beq_iff_eq, List.cons.injEq, and_true] at hc); (first | (exfalso; omega) | exact absurd True.intro hc | conv => whnf))) | ((with_reducible refine And.intro True.intro ?_); conv => whnf) | ((with_reducible refine grd_and ?_); refine And.intro (hi) ?_; conv => whnf) | ((with_reducible refine CallX.all ?_); refine CallW.of_ok (kA _) ?_; conv => whnf) | ((with_reducible refine grd_ex ?_); refine ex_ok (kA _) ?_; conv => whnf) | ((with_reducible refine WpR.draw (id := 5) mixed [0, 1, 2, 3, 4, 5, 7, 8, 9, 10, 11, 6, 12] [0, 0, 0, 6, 14, 30, 63, 0, 0, 384, 896, 1920, 4095] ?hh ?_); (case hh => kernel_rfl); conv => whnf) | ((with_reducible refine And.intro ?hh ?_); (case hh => exact condA); conv => whnf) | fail))
      all_goals first | (exfalso; omega) | exact ⟨(i + 1, (o i : Int)), [], by dsimp only; omega, ⟨by dsimp only; omega, by dsimp only; rw [hsi]⟩, Back.auto⟩
  · have e : i = n := by omega
    subst e
    (conv => whnf); (repeat' (first | ((with_reducible refine ifb_mk (fun hc => ?_) (fun hc => ?_)) <;> ((try simp only [decide_eq_true_eq, decide_eq_false_iff_not, Bool.not_eq_true', Bool.not_eq_false', Int.not_lt, Int.not_le, ne_eq, Decidable.not_not, beq_iff_eq, List.cons.injEq, and_true] at hc); (first | (exfalso; omega) | exact absurd True.intro hc | conv => whnf))) | ((with_reducible refine And.intro True.intro ?_); conv => whnf) | ((with_reducible refine grd_and ?_); refine And.intro (hi) ?_; conv => whnf) | ((with_reducible refine And.intro ?hh ?_); (case hh => exact condA); conv => whnf) | fail))
    all_goals first | (exfalso; omega) | (refine ⟨[], ?_, rfl, rfl, trivial, trivs⟩; simp only [renV, renL]; (first | done | rfl | (simp; done) | (simp; omega) | grind))
theorem shr_zero {g i : Nat} (h : g >>> i = 0) : g < 2 ^ i := by
  rw [Nat.shiftRight_eq_div_pow] at h
  exact (Nat.div_eq_zero_iff_lt (Nat.two_pow_pos i)).1 h
theorem and_one (g i : Nat) : g >>> i &&& 1 = if g.testBit i = true then 1 else 0 := by
  unfold Nat.testBit
  rw [Nat.and_comm 1, Nat.and_one_is_mod]
  rcases Nat.mod_two_eq_zero_or_one (g >>> i) with e | e <;> rw [e] <;> rfl
set_option maxHeartbeats 4000000 in
theorem sizeR_ok (h : As.H) (g : Nat) (hg : g < 4096) : CallOk Try.prog 42 [.int .i64 g] h (.int .i64 (pcN g 16)) h := by
  have hcs : ∀ i, cnF g.testBit (i + 1) = cnF g.testBit i + (if g.testBit i = true then 1 else 0) := fun i => rfl
  have hc0 : cnF g.testBit 0 = 0 := rfl
  have hend : ∀ i, i ≤ 16 → g >>> i = 0 → pcN g 16 = cnF g.testBit i := fun i hi h => cnF_low (shr_zero h) hi
  have h12 : ∀ i, 12 ≤ i → g >>> i = 0 := fun i hi => by
    rw [Nat.shiftRight_eq_div_pow]
    exact Nat.div_eq_of_lt (Nat.lt_of_lt_of_le hg (Nat.pow_le_pow_right (n := 2) (by omega) hi))
  have hb := and_one g
  have hcl := fun i => cnF_le g.testBit i
  have hsl : ∀ i, g >>> i < 65536 := fun i => Nat.lt_of_le_of_lt (by rw [Nat.shiftRight_eq_div_pow]; exact Nat.div_le_self _ _) (by omega : g < 65536)
  generalize cnF g.testBit = c at *
  generalize pcN g 16 = R at *
  refine CallOk.run0 Try.func42 rfl rfl rfl rfl rfl (WpR.of_vc ?_)
  (conv => whnf); (repeat' (first | ((with_reducible refine ifb_mk (fun hc => ?_) (fun hc => ?_)) <;> ((try simp only [decide_eq_true_eq, decide_eq_false_iff_not, Bool.not_eq_true', Bool.not_eq_false', Int.not_lt, Int.not_le, ne_eq, Decidable.not_not, beq_iff_eq, List.cons.injEq, and_true] at hc); (first | (exfalso; omega) | exact absurd True.intro hc | conv => whnf))) | ((with_reducible refine And.intro True.intro ?_); conv => whnf) | ((with_reducible refine And.intro ?hh ?_); (case hh => exact condA); conv => whnf) | fail))
  refine WpR.loopA (ι := Nat × Int) [] [0] [] [] 0 (fun q => [(4, .int .i64 q.1), (3, .int .i64 q.2)]) (fun _ => []) (fun q => 13 - q.1) (fun q => q.1 ≤ 12 ∧ q.2 = c q.1) ?_ ((0, 0)) (⟨Nat.zero_le _, by rw [hc0]; rfl⟩) [] Back.auto
  rintro ⟨i, s⟩ ⟨j1, j2⟩
  dsimp only at j1 j2
  subst j2
  refine WpR.of_vc ?_
  have e1 := shr64 (a := g) (s := i) (by omega)
  have hcli := hcl i
  have hcsi := hcs i
  by_cases hz : g >>> i = 0
  · have e := hend i (by omega) hz
    subst e
    have hgd : ¬ (0 < (g : Int).fdiv (2 ^ min (i : Int).toNat IntKind.i64.bits)) := by rw [e1]; omega
    (conv => whnf); (repeat' (first | ((with_reducible refine ifb_mk (fun hc => ?_) (fun hc => ?_)) <;> ((try simp only [decide_eq_true_eq, decide_eq_false_iff_not, Bool.not_eq_true', Bool.not_eq_false', Int.not_lt, Int.not_le, ne_eq, Decidable.not_not, beq_iff_eq, List.cons.injEq, and_true] at hc); (first | (exfalso; omega) | exact absurd True.intro hc | conv => whnf))) | ((with_reducible refine And.intro True.intro ?_); conv => whnf) | ((with_reducible refine And.intro ?hh ?_); (case hh => exact condA); conv => whnf) | fail))
    all_goals first | (exact absurd (by assumption) hgd) | (exfalso; omega) | (refine ⟨[], ?_, rfl, rfl, trivial, trivs⟩; simp only [renV, renL]; (first | done | rfl | (simp; done) | (simp; omega) | grind))
  · have hi12 : i < 12 := by
      apply Classical.byContradiction
      intro hc
      exact hz (h12 i (by omega))
    have hgd : 0 < (g : Int).fdiv (2 ^ min (i : Int).toNat IntKind.i64.bits) := by rw [e1]; exact Int.ofNat_lt.2 (Nat.pos_of_ne_zero hz)
    have eand : IntKind.i64.wrap (((BitVec.ofInt IntKind.i64.bits ((g : Int).fdiv (2 ^ min (i : Int).toNat IntKind.i64.bits)) &&& BitVec.ofInt IntKind.i64.bits (1 : Int)).toNat : Nat) : Int) = ((c (i + 1) : Nat) : Int) - c i := by
      rw [e1]
      have := and64 (a := g >>> i) (b := 1) (hsl i) (by decide)
      rw [show ((1 : Nat) : Int) = 1 from rfl] at this
      have hd : ((if g.testBit i = true then 1 else 0 : Nat) : Int) = ((c (i + 1) : Nat) : Int) - c i := by rw [hcsi]; omega
      rw [this, hb i]
      exact hd
    have hle : c (i + 1) ≤ c i + 1 := by rw [hcsi]; split <;> omega
    have hge : c i ≤ c (i + 1) := by rw [hcsi]; omega
    have y1 : InR ((c i : Int) + IntKind.i64.wrap (((BitVec.ofInt IntKind.i64.bits ((g : Int).fdiv (2 ^ min (i : Int).toNat IntKind.i64.bits)) &&& BitVec.ofInt IntKind.i64.bits (1 : Int)).toNat : Nat) : Int)) := by rw [eand]; unfold InR; omega
    have y2 : (c i : Int) + IntKind.i64.wrap (((BitVec.ofInt IntKind.i64.bits ((g : Int).fdiv (2 ^ min (i : Int).toNat IntKind.i64.bits)) &&& BitVec.ofInt IntKind.i64.bits (1 : Int)).toNat : Nat) : Int) = c (i + 1) := by rw [eand]; omega
    (conv => whnf); (repeat' (first | ((with_reducible refine ifb_mk (fun hc => ?_) (fun hc => ?_)) <;> ((try simp only [decide_eq_true_eq, decide_eq_false_iff_not, Bool.not_eq_true', Bool.not_eq_false', Int.not_lt, Int.not_le, ne_eq, Decidable.not_not, beq_iff_eq, List.cons.injEq, and_true] at hc); (first | (exfalso; omega) | exact absurd True.intro hc | conv => whnf))) | ((with_reducible refine And.intro True.intro ?_); conv => whnf) | ((with_reducible refine grd_and ?_); refine And.intro (y1) ?_; conv => whnf) | ((with_reducible refine And.intro ?hh ?_); (case hh => exact condA); conv => whnf) | fail))
    all_goals first | (exact absurd hgd (by assumption)) | (exfalso; omega) | exact ⟨(i + 1, _), [], by dsimp only; omega, ⟨by dsimp only; omega, y2⟩, Back.auto⟩
end Go.Proofs.K
namespace Go.Proofs.K
open Go.As
set_option maxRecDepth 20000
theorem incB_of {n k : Nat} {sx : Nat → Int} (h : incB n k sx = true) : (∀ i, i < k → 0 ≤ sx i ∧ sx i ≤ (n : Int) - 1) ∧ ∀ i j, i < k → j < i → sx j < sx i := by
  unfold incB at h
  rw [Bool.and_eq_true] at h
  refine ⟨fun i hi => wiR_at h.2 hi, fun i j hi hj => ?_⟩
  have hs : ∀ i, 0 < i → i < k → sx (i - 1) < sx i := fun i h0 hi => of_decide_eq_true (allF_iff.1 h.1 i hi) h0
  have hc : ∀ d, j + d < k → 0 < d → sx j < sx (j + d) := fun d => by
    induction d with
    | zero => intro _ h; omega
    | succ d ih =>
      intro hd _
      have e := hs (j + (d + 1)) (by omega) hd
      rw [show j + (d + 1) - 1 = j + d from by omega] at e
      by_cases e0 : d = 0
      · subst e0; exact e
      · have := ih (by omega) (by omega); omega
  have := hc (i - j) (by omega) (by omega)
  rwa [show j + (i - j) = i from by omega] at this
theorem sel_count {n k : Nat} {sx : Nat → Int} (h : incB n k sx = true) : ∀ i, i ≤ n → cnF (selB k sx) i ≤ k ∧ (∀ j, j < cnF (selB k sx) i → sx j < i) ∧ (∀ j, cnF (selB k sx) i ≤ j → j < k → (i : Int) ≤ sx j) ∧ ∀ (a : Nat → Int) j, j < cnF (selB k sx) i → slF (selB k sx) a i j = a (sx j).toNat
  | 0, _ => by
    obtain ⟨h1, _⟩ := incB_of h
    exact ⟨Nat.zero_le _, fun j hj => absurd hj (Nat.not_lt_zero _), fun j _ hj => by have := h1 j hj; omega, fun a j hj => absurd hj (Nat.not_lt_zero _)⟩
  | i + 1, hi => by
    obtain ⟨h1, h2⟩ := incB_of h
    obtain ⟨g1, g2, g3, g4⟩ := sel_count h i (by omega)
    cases hs : selB k sx i with
    | true =>
      obtain ⟨e1, e2⟩ := slF_yes (a := fun _ => 0) hs
      obtain ⟨d, hd, hdx⟩ := anyF_iff.1 hs
      have hdx := of_decide_eq_true hdx
      have hdc : d = cnF (selB k sx) i := by
        rcases Nat.lt_trichotomy d (cnF (selB k sx) i) with hl | hl | hl
        · have := g2 d hl; omega
        · exact hl
        · have h5 := g3 (cnF (selB k sx) i) (Nat.le_refl _) (by omega)
          have h6 := h2 d _ hd hl
          omega
      rw [e1]
      refine ⟨by omega, fun j hj => ?_, fun j hj hjk => ?_, fun a j hj => ?_⟩
      · by_cases e : j = d
        · subst e; omega
        · have := g2 j (by omega); omega
      · have := h2 j d hjk (by omega); omega
      · rw [(slF_yes (a := a) hs).2]
        by_cases e : j = cnF (selB k sx) i
        · rw [if_pos e, e, ← hdc, hdx]; rfl
        · rw [if_neg e]; exact g4 a j (by omega)
    | false =>
      obtain ⟨e1, e2⟩ := slF_no (a := fun _ => 0) hs
      rw [e1]
      refine ⟨g1, fun j hj => by have := g2 j hj; omega, fun j hj hjk => ?_, fun a j hj => by rw [(slF_no (a := a) hs).2]; exact g4 a j hj⟩
      have h5 := g3 j hj hjk
      have h6 : sx j ≠ i := fun hc => by
        have : selB k sx i = true := anyF_t hjk (decide_eq_true hc)
        rw [hs] at this; cases this
      omega
theorem sel_all {n k : Nat} {sx : Nat → Int} (h : incB n k sx = true) : cnF (selB k sx) n = k ∧ ∀ (a : Nat → Int) j, j < k → slF (selB k sx) a n j = a (sx j).toNat := by
  obtain ⟨h1, _⟩ := incB_of h
  obtain ⟨g1, g2, g3, g4⟩ := sel_count h n (Nat.le_refl _)
  have e : cnF (selB k sx) n = k := by
    apply Classical.byContradiction
    intro hc
    have h5 := g3 (cnF (selB k sx) n) (Nat.le_refl _) (by omega)
    have h6 := h1 (cnF (selB k sx) n) (by omega)
    omega
  rw [e] at g4
  exact ⟨e, g4⟩
end Go.Proofs.K
namespace Go.Proofs.K
open Go.As
set_option maxRecDepth 20000
theorem on_size {n m : Nat} {p a b : Nat → Int} (hn : n ≤ 12) (hm : m ≤ 4) : pcN (onN (pmF m p a b) n) 16 = cnF (psF (cut m p) a b) n := by
  rw [cnF_low (onN_lt n) (by omega)]
  exact cnF_congr n fun i hi => by rw [onN_bit, decide_eq_true hi, Bool.true_and, pmF_eq hm]
theorem checkPathR_ok (h : As.H) (D : Int) (ex ex2 : Bool) (n : Nat) (a b : Nat → Int) (hn9 : n ≤ 9223372036854775807) (m : Nat) (hm : m ≤ 9223372036854775807) (p : Nat → Int) :
    CallOk Try.prog 26 [lgV D ex n a b, .rsl ex2 1 m (iG p)] h (.tup [.int .i64 (cpN D n a b m p), .int .i64 (ckQ D n a b m p)]) h := by
  unfold cpN
  have kC := fun h' => checkLogR_ok h' D ex n a b hn9
  by_cases hv : ckL D n a b = 0
  · obtain ⟨hD, l⟩ := ckL_lg hv
    have hq : ckQ D n a b m p = if (m : Int) = D + 1 then (if wiR (-1099511627776) 1099511627776 m p = true then 0 else 3) else 15 := by unfold ckQ; rw [if_pos hv]
    have kW := fun h' => isNumbers_ok h' m p ex2 hm
    rw [hv] at kC
    by_cases h1 : (m : Int) = D + 1
    · rw [if_pos h1] at hq
      cases h2 : wiR (-1099511627776) 1099511627776 m p with
      | false =>
        rw [h2] at kW hq
        rw [if_neg (by decide)] at hq
        rw [hq, if_neg (by decide)]
        refine CallOk.run0 Try.func26 rfl rfl rfl rfl rfl (WpR.of_vc ?_)
        (conv => whnf); (repeat' (first | ((with_reducible refine ifb_mk (fun hc => ?_) (fun hc => ?_)) <;> ((try simp only [decide_eq_true_eq, decide_eq_false_iff_not, Bool.not_eq_true', Bool.not_eq_false', Int.not_lt, Int.not_le, ne_eq, Decidable.not_not, beq_iff_eq, List.cons.injEq, and_true] at hc); (first | (exfalso; omega) | exact absurd True.intro hc | conv => whnf))) | ((with_reducible refine And.intro True.intro ?_); conv => whnf) | ((with_reducible refine CallX.all ?_); refine CallW.of_ok (kC _) ?_; conv => whnf) | ((with_reducible refine CallX.all ?_); refine CallW.of_ok (kW _) ?_; conv => whnf) | ((with_reducible refine And.intro ?hh ?_); (case hh => exact condA); conv => whnf) | fail))
        all_goals first | (refine ⟨[], ?_, rfl, rfl, trivial, trivs⟩; simp only [renV, renL]; (first | done | rfl | (simp; done) | (simp; omega) | grind)) | (exfalso; omega)
      | true =>
        have hp : Sm 8796093022208 m p := fun k hk => by have := wiR_at h2 hk; omega
        have hle := l.le
        have hm4 : m ≤ 4 := by omega
        have kO := fun h' => on_ok h' ex ex2 n l.le a b l.rg m hm4 p hp
        have kZ := fun h' => sizeR_ok h' (onN (pmF m p a b) n) (Nat.lt_of_lt_of_le (onN_lt n) (Nat.pow_le_pow_right (n := 2) (by omega) hle))
        rw [on_size hle hm4] at kZ
        rw [h2] at kW hq
        rw [if_pos rfl] at hq
        rw [hq, if_pos rfl]
        generalize onN (pmF m p a b) n = g at *
        generalize cnF (psF (cut m p) a b) n = c at *
        refine CallOk.run0 Try.func26 rfl rfl rfl rfl rfl (WpR.of_vc ?_)
        (conv => whnf); (repeat' (first | ((with_reducible refine ifb_mk (fun hc => ?_) (fun hc => ?_)) <;> ((try simp only [decide_eq_true_eq, decide_eq_false_iff_not, Bool.not_eq_true', Bool.not_eq_false', Int.not_lt, Int.not_le, ne_eq, Decidable.not_not, beq_iff_eq, List.cons.injEq, and_true] at hc); (first | (exfalso; omega) | exact absurd True.intro hc | conv => whnf))) | ((with_reducible refine And.intro True.intro ?_); conv => whnf) | ((with_reducible refine CallX.all ?_); refine CallW.of_ok (kC _) ?_; conv => whnf) | ((with_reducible refine CallX.all ?_); refine CallW.of_ok (kW _) ?_; conv => whnf) | ((with_reducible refine CallX.all ?_); refine CallW.of_ok (kO _) ?_; conv => whnf) | ((with_reducible refine CallX.all ?_); refine CallW.of_ok (kZ _) ?_; conv => whnf) | ((with_reducible refine And.intro ?hh ?_); (case hh => exact condA); conv => whnf) | fail))
        all_goals first | (refine ⟨[], ?_, rfl, rfl, trivial, trivs⟩; simp only [renV, renL]; (first | done | rfl | (simp; done) | (simp; omega) | grind)) | (exfalso; omega)
    · rw [if_neg h1] at hq
      rw [hq, if_neg (by decide)]
      refine CallOk.run0 Try.func26 rfl rfl rfl rfl rfl (WpR.of_vc ?_)
      (conv => whnf); (repeat' (first | ((with_reducible refine ifb_mk (fun hc => ?_) (fun hc => ?_)) <;> ((try simp only [decide_eq_true_eq, decide_eq_false_iff_not, Bool.not_eq_true', Bool.not_eq_false', Int.not_lt, Int.not_le, ne_eq, Decidable.not_not, beq_iff_eq, List.cons.injEq, and_true] at hc); (first | (exfalso; omega) | exact absurd True.intro hc | conv => whnf))) | ((with_reducible refine And.intro True.intro ?_); conv => whnf) | ((with_reducible refine CallX.all ?_); refine CallW.of_ok (kC _) ?_; conv => whnf) | ((with_reducible refine And.intro ?hh ?_); (case hh => exact condA); conv => whnf) | fail))
      all_goals first | (refine ⟨[], ?_, rfl, rfl, trivial, trivs⟩; simp only [renV, renL]; (first | done | rfl | (simp; done) | (simp; omega) | grind)) | (exfalso; omega)
  · have hq : ckQ D n a b m p = ckL D n a b := by unfold ckQ; rw [if_neg hv]
    rw [hq, if_neg hv]
    generalize ckL D n a b = e at *
    refine CallOk.run0 Try.func26 rfl rfl rfl rfl rfl (WpR.of_vc ?_)
    (conv => whnf); (repeat' (first | ((with_reducible refine ifb_mk (fun hc => ?_) (fun hc => ?_)) <;> ((try simp only [decide_eq_true_eq, decide_eq_false_iff_not, Bool.not_eq_true', Bool.not_eq_false', Int.not_lt, Int.not_le, ne_eq, Decidable.not_not, beq_iff_eq, List.cons.injEq, and_true] at hc); (first | (exfalso; omega) | exact absurd True.intro hc | conv => whnf))) | ((with_reducible refine And.intro True.intro ?_); conv => whnf) | ((with_reducible refine CallX.all ?_); refine CallW.of_ok (kC _) ?_; conv => whnf) | ((with_reducible refine And.intro ?hh ?_); (case hh => exact condA); conv => whnf) | fail))
    all_goals first | (refine ⟨[], ?_, rfl, rfl, trivial, trivs⟩; simp only [renV, renL]; (first | done | rfl | (simp; done) | (simp; omega) | grind)) | exact absurd (by assumption) hv
end Go.Proofs.K
namespace Go.Proofs.K
open Go.As
set_option maxRecDepth 20000
theorem th_own2 {h : As.H} {q : Nat → Prop} {b n cap : Nat} {ex : Bool} {L : List V} {x y : Nat → Int} {gg : Option (Nat × Nat)} (hq : q b) (hcap : n ≤ cap) (hL : ∀ j, j < n → L[j * 2]? = some (.int .i64 (x j)) ∧ L[j * 2 + 1]? = some (.int .i64 (y j))) (hb : h.get b = some (.cells (ofL L 0) true gg)) : Th h q (.rsl false 2 n (lkG x y)) (.sl b 0 n cap ex) := by
  refine .sl hq hb (fun h => by cases h) hcap (fun j hj => rfl) fun j hj k v hv => ?_
  match k with
  | 0 =>
    have e : V.int .i64 (x j) = v := by simpa [lkG] using hv
    subst e
    refine ⟨?_, rfl⟩
    rw [show 0 + j * 2 + 0 = j * 2 from by omega]
    exact get_ofL0 (hL j hj).1
  | 1 =>
    have e : V.int .i64 (y j) = v := by simpa [lkG] using hv
    subst e
    refine ⟨?_, rfl⟩
    rw [show 0 + j * 2 + 1 = j * 2 + 1 from by omega]
    exact get_ofL0 (hL j hj).2
  | k + 2 => simp [lkG] at hv
theorem passS_ok (h : As.H) {b n : Nat} {ex : Bool} {L : List V} {gg : Option (Nat × Nat)} (hn : 1 ≤ n) (x y : Nat → Int) (hD : Dy n x) (hy : Pl n y) (hL : ∀ j, j < n → L[j * 2]? = some (.int .i64 (x j)) ∧ L[j * 2 + 1]? = some (.int .i64 (y j))) (hb : h.get b = some (.cells (ofL L 0) true gg)) :
    CallOk Try.prog 64 [.sl b 0 n n ex] h (match alW n x y with | true => .tup [.rsl false 1 n (iG fun k => dif (qP n x y) k 0), .bool true] | false => .tup [.nils, .bool false]) (h.put b .dead) := by
  have k := pass_ok As.H.empty false n hn x y hD hy
  have ht : ThL h (fun c => c = b) [.rsl false 2 n (lkG x y)] [.sl b 0 n n ex] := .cons (th_own2 rfl (Nat.le_refl _) hL hb) .nil
  cases hw : alW n x y with
  | true => rw [hw] at k; exact CallOk.thawF k rfl h b hb ht (fun m xs hv => occ0 hv)
  | false => rw [hw] at k; exact CallOk.thawF k rfl h b hb ht (fun m xs hv => occ0 hv)
set_option maxHeartbeats 16000000 in
theorem throughR1_yes (h : As.H) (D : Nat) (ex ex2 : Bool) (n : Nat) (a b : Nat → Int) (hv : ckL D n a b = 0) (hk : 1 = D + 1) (sx : Nat → Int) (hi : incB n 1 sx = true) (x y : Nat → Int) (hx : x = slF (selB 1 sx) a n) (hy : y = slF (selB 1 sx) b n) (hW : alW 1 x y = true) :
    CallOk Try.prog 24 [lgV D ex n a b, .rsl ex2 1 1 (iG sx)] h (.tup [.rsl false 1 1 (iG fun j => dif (qP 1 x y) j 0), .int .i64 0]) h := by
  obtain ⟨hD, l⟩ := ckL_lg hv
  have hn := l.le
  obtain ⟨g1, g2⟩ := incB_of hi
  obtain ⟨s1, s2⟩ := sel_all hi
  have kC := fun h' => checkLogR_ok h' D ex n a b (by omega)
  rw [hv] at kC
  have hDy : Dy 1 x := by
    have := slF_dy (p := selB 1 sx) (a := a) (n := n) (by omega) l.rg l.up
    rw [s1] at this; rw [hx]; exact this
  have hPl : Pl 1 y := by
    have := slF_pl (p := selB 1 sx) (b := b) (n := n) l.at'
    rw [s1] at this; rw [hy]; exact this
  have hsx : ∀ j, j < 1 → x j = a (sx j).toNat := fun j hj => by rw [hx]; exact s2 a j hj
  have hsy : ∀ j, j < 1 → y j = b (sx j).toNat := fun j hj => by rw [hy]; exact s2 b j hj
  have kP : ∀ (h' : As.H) (q : Nat) gg, h'.get q = some (.cells (ofL [.int .i64 (a (sx 0).toNat), .int .i64 (b (sx 0).toNat)] 0) true gg) → CallOk Try.prog 64 [.sl q 0 1 1 false] h' (match alW 1 x y with | true => .tup [.rsl false 1 1 (iG fun j => dif (qP 1 x y) j 0), .bool true] | false => .tup [.nils, .bool false]) (h'.put q .dead) := fun h' q gg hb => passS_ok h' (ex := false) (Nat.le_of_ble_eq_true rfl) x y hDy hPl (fun j hj => by
    rw [hsx j hj, hsy j hj]
    match j, hj with
    | 0, _ => exact ⟨rfl, rfl⟩) hb
  rw [hW] at kP
  generalize qP 1 x y = Q at *
  clear hx hy hW hi hDy hPl s1 s2
  have p0 := g1 0 (by omega)
  have e0 : sx 0 = (((sx 0).toNat : Nat) : Int) := by omega
  refine CallOk.run0 Try.func24 rfl rfl rfl rfl rfl (WpR.of_vc ?_)
  (conv => whnf); (repeat' (first | ((with_reducible refine ifb_mk (fun hc => ?_) (fun hc => ?_)) <;> ((try simp only [decide_eq_true_eq, decide_eq_false_iff_not, Bool.not_eq_true', Bool.not_eq_false', Int.not_lt, Int.not_le, ne_eq, Decidable.not_not, beq_iff_eq, List.cons.injEq, and_true] at hc); (first | (exfalso; omega) | exact absurd True.intro hc | conv => whnf))) | ((with_reducible refine And.intro True.intro ?_); conv => whnf) | ((with_reducible refine CallX.all ?_); refine CallW.of_ok (kC _) ?_; conv => whnf) | (((with_reducible refine idxP_mk (k := (sx 0).toNat) ?hh ?_); (case hh => first | exact e0 | exact e0 (by assumption) | exact e0 (by omega))); conv => whnf) | ((with_reducible refine WpR.loopU 5 ?_); conv => whnf) | (refine AppX.nil (n := 1) Nat.zero_lt_one (Nat.le_of_ble_eq_true rfl) ?_; conv => whnf) | (refine AppX.own (n := 1) rfl rfl rfl Nat.zero_lt_one (Nat.le_of_ble_eq_true rfl) ?_; conv => whnf) | ((with_reducible refine CallX.all ?_); refine CallW.of_ok (kP _ _ _ (by rfl)) ?_; conv => whnf) | ((with_reducible refine WpR.draw (id := 9) mixed [0, 1, 2, 3, 4, 5, 6, 7, 8, 9, 10, 11, 12, 13, 14, 15, 16, 17, 18, 19, 20, 21, 22, 23, 24, 25, 26, 27, 28, 29, 30] [0, 0, 3, 7, 15, 31, 63, 63, 255, 511, 63, 1087, 3135, 8191, 16383, 32767, 65535, 131071, 262143, 524287, 524287, 2097151, 4194303, 524287, 524287, 17301503, 59244543, 126353407, 268435455, 536870911, 1073741823] ?hh ?_); (case hh => kernel_rfl); conv => whnf) | ((with_reducible refine WpR.draw (id := 11) mixed [0, 1, 2, 3, 4, 5, 6, 7, 8, 9, 10, 11] [0, 0, 2, 0, 0, 24, 56, 126, 254, 510, 1023, 2047] ?hh ?_); (case hh => kernel_rfl); conv => whnf) | ((with_reducible refine And.intro ?hh ?_); (case hh => exact condA); conv => whnf) | fail))
  all_goals first | (exfalso; omega) | (refine ⟨[], ?_, rfl, rfl, trivial, trivs⟩; simp only [renV, renL]; (first | done | rfl | (simp; done) | (simp; omega) | grind))
set_option maxHeartbeats 16000000 in
theorem throughR1_no (h : As.H) (D : Nat) (ex ex2 : Bool) (n : Nat) (a b : Nat → Int) (hv : ckL D n a b = 0) (hk : 1 = D + 1) (sx : Nat → Int) (hi : incB n 1 sx = true) (x y : Nat → Int) (hx : x = slF (selB 1 sx) a n) (hy : y = slF (selB 1 sx) b n) (hW : alW 1 x y = false) :
    CallOk Try.prog 24 [lgV D ex n a b, .rsl ex2 1 1 (iG sx)] h (.tup [.nils, .int .i64 23]) h := by
  obtain ⟨hD, l⟩ := ckL_lg hv
  have hn := l.le
  obtain ⟨g1, g2⟩ := incB_of hi
  obtain ⟨s1, s2⟩ := sel_all hi
  have kC := fun h' => checkLogR_ok h' D ex n a b (by omega)
  rw [hv] at kC
  have hDy : Dy 1 x := by
    have := slF_dy (p := selB 1 sx) (a := a) (n := n) (by omega) l.rg l.up
    rw [s1] at this; rw [hx]; exact this
  have hPl : Pl 1 y := by
    have := slF_pl (p := selB 1 sx) (b := b) (n := n) l.at'
    rw [s1] at this; rw [hy]; exact this
  have hsx : ∀ j, j < 1 → x j = a (sx j).toNat := fun j hj => by rw [hx]; exact s2 a j hj
  have hsy : ∀ j, j < 1 → y j = b (sx j).toNat := fun j hj => by rw [hy]; exact s2 b j hj
  have kP : ∀ (h' : As.H) (q : Nat) gg, h'.get q = some (.cells (ofL [.int .i64 (a (sx 0).toNat), .int .i64 (b (sx 0).toNat)] 0) true gg) → CallOk Try.prog 64 [.sl q 0 1 1 false] h' (match alW 1 x y with | true => .tup [.rsl false 1 1 (iG fun j => dif (qP 1 x y) j 0), .bool true] | false => .tup [.nils, .bool false]) (h'.put q .dead) := fun h' q gg hb => passS_ok h' (ex := false) (Nat.le_of_ble_eq_true rfl) x y hDy hPl (fun j hj => by
    rw [hsx j hj, hsy j hj]
    match j, hj with
    | 0, _ => exact ⟨rfl, rfl⟩) hb
  rw [hW] at kP
  generalize qP 1 x y = Q at *
  clear hx hy hW hi hDy hPl s1 s2
  have p0 := g1 0 (by omega)
  have e0 : sx 0 = (((sx 0).toNat : Nat) : Int) := by omega
  refine CallOk.run0 Try.func24 rfl rfl rfl rfl rfl (WpR.of_vc ?_)
  (conv => whnf); (repeat' (first | ((with_reducible refine ifb_mk (fun hc => ?_) (fun hc => ?_)) <;> ((try simp only [decide_eq_true_eq, decide_eq_false_iff_not, Bool.not_eq_true', Bool.not_eq_false', Int.not_lt, Int.not_le, ne_eq, Decidable.not_not, beq_iff_eq, List.cons.injEq, and_true] at hc); (first | (exfalso; omega) | exact absurd True.intro hc | conv => whnf))) | ((with_reducible refine And.intro True.intro ?_); conv => whnf) | ((with_reducible refine CallX.all ?_); refine CallW.of_ok (kC _) ?_; conv => whnf) | (((with_reducible refine idxP_mk (k := (sx 0).toNat) ?hh ?_); (case hh => first | exact e0 | exact e0 (by assumption) | exact e0 (by omega))); conv => whnf) | ((with_reducible refine WpR.loopU 5 ?_); conv => whnf) | (refine AppX.nil (n := 1) Nat.zero_lt_one (Nat.le_of_ble_eq_true rfl) ?_; conv => whnf) | (refine AppX.own (n := 1) rfl rfl rfl Nat.zero_lt_one (Nat.le_of_ble_eq_true rfl) ?_; conv => whnf) | ((with_reducible refine CallX.all ?_); refine CallW.of_ok (kP _ _ _ (by rfl)) ?_; conv => whnf) | ((with_reducible refine WpR.draw (id := 9) mixed [0, 1, 2, 3, 4, 5, 6, 7, 8, 9, 10, 11, 12, 13, 14, 15, 16, 17, 18, 19, 20, 21, 22, 23, 24, 25, 26, 27, 28, 29, 30] [0, 0, 3, 7, 15, 31, 63, 63, 255, 511, 63, 1087, 3135, 8191, 16383, 32767, 65535, 131071, 262143, 524287, 524287, 2097151, 4194303, 524287, 524287, 17301503, 59244543, 126353407, 268435455, 536870911, 1073741823] ?hh ?_); (case hh => kernel_rfl); conv => whnf) | ((with_reducible refine WpR.draw (id := 11) mixed [0, 1, 2, 3, 4, 5, 6, 7, 8, 9, 10, 11] [0, 0, 2, 0, 0, 24, 56, 126, 254, 510, 1023, 2047] ?hh ?_); (case hh => kernel_rfl); conv => whnf) | ((with_reducible refine And.intro ?hh ?_); (case hh => exact condA); conv => whnf) | fail))
  all_goals first | (exfalso; omega) | (refine ⟨[], ?_, rfl, rfl, trivial, trivs⟩; simp only [renV, renL]; (first | done | rfl | (simp; done) | (simp; omega) | grind))
set_option maxHeartbeats 16000000 in
theorem throughR2_yes (h : As.H) (D : Nat) (ex ex2 : Bool) (n : Nat) (a b : Nat → Int) (hv : ckL D n a b = 0) (hk : 2 = D + 1) (sx : Nat → Int) (hi : incB n 2 sx = true) (x y : Nat → Int) (hx : x = slF (selB 2 sx) a n) (hy : y = slF (selB 2 sx) b n) (hW : alW 2 x y = true) :
    CallOk Try.prog 24 [lgV D ex n a b, .rsl ex2 1 2 (iG sx)] h (.tup [.rsl false 1 2 (iG fun j => dif (qP 2 x y) j 0), .int .i64 0]) h := by
  obtain ⟨hD, l⟩ := ckL_lg hv
  have hn := l.le
  obtain ⟨g1, g2⟩ := incB_of hi
  obtain ⟨s1, s2⟩ := sel_all hi
  have kC := fun h' => checkLogR_ok h' D ex n a b (by omega)
  rw [hv] at kC
  have hDy : Dy 2 x := by
    have := slF_dy (p := selB 2 sx) (a := a) (n := n) (by omega) l.rg l.up
    rw [s1] at this; rw [hx]; exact this
  have hPl : Pl 2 y := by
    have := slF_pl (p := selB 2 sx) (b := b) (n := n) l.at'
    rw [s1] at this; rw [hy]; exact this
  have hsx : ∀ j, j < 2 → x j = a (sx j).toNat := fun j hj => by rw [hx]; exact s2 a j hj
  have hsy : ∀ j, j < 2 → y j = b (sx j).toNat := fun j hj => by rw [hy]; exact s2 b j hj
  have kP : ∀ (h' : As.H) (q : Nat) gg, h'.get q = some (.cells (ofL [.int .i64 (a (sx 0).toNat), .int .i64 (b (sx 0).toNat), .int .i64 (a (sx 1).toNat), .int .i64 (b (sx 1).toNat)] 0) true gg) → CallOk Try.prog 64 [.sl q 0 2 2 false] h' (match alW 2 x y with | true => .tup [.rsl false 1 2 (iG fun j => dif (qP 2 x y) j 0), .bool true] | false => .tup [.nils, .bool false]) (h'.put q .dead) := fun h' q gg hb => passS_ok h' (ex := false) (Nat.le_of_ble_eq_true rfl) x y hDy hPl (fun j hj => by
    rw [hsx j hj, hsy j hj]
    match j, hj with
    | 0, _ => exact ⟨rfl, rfl⟩
    | 1, _ => exact ⟨rfl, rfl⟩) hb
  rw [hW] at kP
  generalize qP 2 x y = Q at *
  clear hx hy hW hi hDy hPl s1 s2
  have p0 := g1 0 (by omega)
  have e0 : sx 0 = (((sx 0).toNat : Nat) : Int) := by omega
  have p1 := g1 1 (by omega)
  have e1 : sx 1 = (((sx 1).toNat : Nat) : Int) := by omega
  have q1 := g2 1 0 (by omega) (by omega)
  refine CallOk.run0 Try.func24 rfl rfl rfl rfl rfl (WpR.of_vc ?_)
  (conv => whnf); (repeat' (first | ((with_reducible refine ifb_mk (fun hc => ?_) (fun hc => ?_)) <;> ((try simp only [decide_eq_true_eq, decide_eq_false_iff_not, Bool.not_eq_true', Bool.not_eq_false', Int.not_lt, Int.not_le, ne_eq, Decidable.not_not, beq_iff_eq, List.cons.injEq, and_true] at hc); (first | (exfalso; omega) | exact absurd True.intro hc | conv => whnf))) | ((with_reducible refine And.intro True.intro ?_); conv => whnf) | ((with_reducible refine CallX.all ?_); refine CallW.of_ok (kC _) ?_; conv => whnf) | (((with_reducible refine idxP_mk (k := (sx 0).toNat) ?hh ?_); (case hh => first | exact e0 | exact e0 (by assumption) | exact e0 (by omega))); conv => whnf) | (((with_reducible refine idxP_mk (k := (sx 1).toNat) ?hh ?_); (case hh => first | exact e1 | exact e1 (by assumption) | exact e1 (by omega))); conv => whnf) | ((with_reducible refine WpR.loopU 5 ?_); conv => whnf) | (refine AppX.nil (n := 1) Nat.zero_lt_one (Nat.le_of_ble_eq_true rfl) ?_; conv => whnf) | (refine AppX.own (n := 1) rfl rfl rfl Nat.zero_lt_one (Nat.le_of_ble_eq_true rfl) ?_; conv => whnf) | ((with_reducible refine CallX.all ?_); refine CallW.of_ok (kP _ _ _ (by rfl)) ?_; conv => whnf) | ((with_reducible refine WpR.draw (id := 9) mixed [0, 1, 2, 3, 4, 5, 6, 7, 8, 9, 10, 11, 12, 13, 14, 15, 16, 17, 18, 19, 20, 21, 22, 23, 24, 25, 26, 27, 28, 29, 30] [0, 0, 3, 7, 15, 31, 63, 63, 255, 511, 63, 1087, 3135, 8191, 16383, 32767, 65535, 131071, 262143, 524287, 524287, 2097151, 4194303, 524287, 524287, 17301503, 59244543, 126353407, 268435455, 536870911, 1073741823] ?hh ?_); (case hh => kernel_rfl); conv => whnf) | ((with_reducible refine WpR.draw (id := 11) mixed [0, 1, 2, 3, 4, 5, 6, 7, 8, 9, 10, 11] [0, 0, 2, 0, 0, 24, 56, 126, 254, 510, 1023, 2047] ?hh ?_); (case hh => kernel_rfl); conv => whnf) | ((with_reducible refine And.intro ?hh ?_); (case hh => exact condA); conv => whnf) | fail))
  all_goals first | (exfalso; omega) | (refine ⟨[], ?_, rfl, rfl, trivial, trivs⟩; simp only [renV, renL]; (first | done | rfl | (simp; done) | (simp; omega) | grind))
set_option maxHeartbeats 16000000 in
theorem throughR2_no (h : As.H) (D : Nat) (ex ex2 : Bool) (n : Nat) (a b : Nat → Int) (hv : ckL D n a b = 0) (hk : 2 = D + 1) (sx : Nat → Int) (hi : incB n 2 sx = true) (x y : Nat → Int) (hx : x = slF (selB 2 sx) a n) (hy : y = slF (selB 2 sx) b n) (hW : alW 2 x y = false) :
    CallOk Try.prog 24 [lgV D ex n a b, .rsl ex2 1 2 (iG sx)] h (.tup [.nils, .int .i64 23]) h := by
  obtain ⟨hD, l⟩ := ckL_lg hv
  have hn := l.le
  obtain ⟨g1, g2⟩ := incB_of hi
  obtain ⟨s1, s2⟩ := sel_all hi
  have kC := fun h' => checkLogR_ok h' D ex n a b (by omega)
  rw [hv] at kC
  have hDy : Dy 2 x := by
    have := slF_dy (p := selB 2 sx) (a := a) (n := n) (by omega) l.rg l.up
    rw [s1] at this; rw [hx]; exact this
  have hPl : Pl 2 y := by
    have := slF_pl (p := selB 2 sx) (b := b) (n := n) l.at'
    rw [s1] at this; rw [hy]; exact this
  have hsx : ∀ j, j < 2 → x j = a (sx j).toNat := fun j hj => by rw [hx]; exact s2 a j hj
  have hsy : ∀ j, j < 2 → y j = b (sx j).toNat := fun j hj => by rw [hy]; exact s2 b j hj
  have kP : ∀ (h' : As.H) (q : Nat) gg, h'.get q = some (.cells (ofL [.int .i64 (a (sx 0).toNat), .int .i64 (b (sx 0).toNat), .int .i64 (a (sx 1).toNat), .int .i64 (b (sx 1).toNat)] 0) true gg) → CallOk Try.prog 64 [.sl q 0 2 2 false] h' (match alW 2 x y with | true => .tup [.rsl false 1 2 (iG fun j => dif (qP 2 x y) j 0), .bool true] | false => .tup [.nils, .bool false]) (h'.put q .dead) := fun h' q gg hb => passS_ok h' (ex := false) (Nat.le_of_ble_eq_true rfl) x y hDy hPl (fun j hj => by
    rw [hsx j hj, hsy j hj]
    match j, hj with
    | 0, _ => exact ⟨rfl, rfl⟩
    | 1, _ => exact ⟨rfl, rfl⟩) hb
  rw [hW] at kP
  generalize qP 2 x y = Q at *
  clear hx hy hW hi hDy hPl s1 s2
  have p0 := g1 0 (by omega)
  have e0 : sx 0 = (((sx 0).toNat : Nat) : Int) := by omega
  have p1 := g1 1 (by omega)
  have e1 : sx 1 = (((sx 1).toNat : Nat) : Int) := by omega
  have q1 := g2 1 0 (by omega) (by omega)
  refine CallOk.run0 Try.func24 rfl rfl rfl rfl rfl (WpR.of_vc ?_)
  (conv => whnf); (repeat' (first | ((with_reducible refine ifb_mk (fun hc => ?_) (fun hc => ?_)) <;> ((try simp only [decide_eq_true_eq, decide_eq_false_iff_not, Bool.not_eq_true', Bool.not_eq_false', Int.not_lt, Int.not_le, ne_eq, Decidable.not_not, beq_iff_eq, List.cons.injEq, and_true] at hc); (first | (exfalso; omega) | exact absurd True.intro hc | conv => whnf))) | ((with_reducible refine And.intro True.intro ?_); conv => whnf) | ((with_reducible refine CallX.all ?_); refine CallW.of_ok (kC _) ?_; conv => whnf) | (((with_reducible refine idxP_mk (k := (sx 0).toNat) ?hh ?_); (case hh => first | exact e0 | exact e0 (by assumption) | exact e0 (by omega))); conv => whnf) | (((with_reducible refine idxP_mk (k := (sx 1).toNat) ?hh ?_); (case hh => first | exact e1 | exact e1 (by assumption) | exact e1 (by omega))); conv => whnf) | ((with_reducible refine WpR.loopU 5 ?_); conv => whnf) | (refine AppX.nil (n := 1) Nat.zero_lt_one (Nat.le_of_ble_eq_true rfl) ?_; conv => whnf) | (refine AppX.own (n := 1) rfl rfl rfl Nat.zero_lt_one (Nat.le_of_ble_eq_true rfl) ?_; conv => whnf) | ((with_reducible refine CallX.all ?_); refine CallW.of_ok (kP _ _ _ (by rfl)) ?_; conv => whnf) | ((with_reducible refine WpR.draw (id := 9) mixed [0, 1, 2, 3, 4, 5, 6, 7, 8, 9, 10, 11, 12, 13, 14, 15, 16, 17, 18, 19, 20, 21, 22, 23, 24, 25, 26, 27, 28, 29, 30] [0, 0, 3, 7, 15, 31, 63, 63, 255, 511, 63, 1087, 3135, 8191, 16383, 32767, 65535, 131071, 262143, 524287, 524287, 2097151, 4194303, 524287, 524287, 17301503, 59244543, 126353407, 268435455, 536870911, 1073741823] ?hh ?_); (case hh => kernel_rfl); conv => whnf) | ((with_reducible refine WpR.draw (id := 11) mixed [0, 1, 2, 3, 4, 5, 6, 7, 8, 9, 10, 11] [0, 0, 2, 0, 0, 24, 56, 126, 254, 510, 1023, 2047] ?hh ?_); (case hh => kernel_rfl); conv => whnf) | ((with_reducible refine And.intro ?hh ?_); (case hh => exact condA); conv => whnf) | fail))
  all_goals first | (exfalso; omega) | (refine ⟨[], ?_, rfl, rfl, trivial, trivs⟩; simp only [renV, renL]; (first | done | rfl | (simp; done) | (simp; omega) | grind))
set_option maxHeartbeats 16000000 in
theorem throughR3_yes (h : As.H) (D : Nat) (ex ex2 : Bool) (n : Nat) (a b : Nat → Int) (hv : ckL D n a b = 0) (hk : 3 = D + 1) (sx : Nat → Int) (hi : incB n 3 sx = true) (x y : Nat → Int) (hx : x = slF (selB 3 sx) a n) (hy : y = slF (selB 3 sx) b n) (hW : alW 3 x y = true) :
    CallOk Try.prog 24 [lgV D ex n a b, .rsl ex2 1 3 (iG sx)] h (.tup [.rsl false 1 3 (iG fun j => dif (qP 3 x y) j 0), .int .i64 0]) h := by
  obtain ⟨hD, l⟩ := ckL_lg hv
  have hn := l.le
  obtain ⟨g1, g2⟩ := incB_of hi
  obtain ⟨s1, s2⟩ := sel_all hi
  have kC := fun h' => checkLogR_ok h' D ex n a b (by omega)
  rw [hv] at kC
  have hDy : Dy 3 x := by
    have := slF_dy (p := selB 3 sx) (a := a) (n := n) (by omega) l.rg l.up
    rw [s1] at this; rw [hx]; exact this
  have hPl : Pl 3 y := by
    have := slF_pl (p := selB 3 sx) (b := b) (n := n) l.at'
    rw [s1] at this; rw [hy]; exact this
  have hsx : ∀ j, j < 3 → x j = a (sx j).toNat := fun j hj => by rw [hx]; exact s2 a j hj
  have hsy : ∀ j, j < 3 → y j = b (sx j).toNat := fun j hj => by rw [hy]; exact s2 b j hj
  have kP : ∀ (h' : As.H) (q : Nat) gg, h'.get q = some (.cells (ofL [.int .i64 (a (sx 0).toNat), .int .i64 (b (sx 0).toNat), .int .i64 (a (sx 1).toNat), .int .i64 (b (sx 1).toNat), .int .i64 (a (sx 2).toNat), .int .i64 (b (sx 2).toNat)] 0) true gg) → CallOk Try.prog 64 [.sl q 0 3 3 false] h' (match alW 3 x y with | true => .tup [.rsl false 1 3 (iG fun j => dif (qP 3 x y) j 0), .bool true] | false => .tup [.nils, .bool false]) (h'.put q .dead) := fun h' q gg hb => passS_ok h' (ex := false) (Nat.le_of_ble_eq_true rfl) x y hDy hPl (fun j hj => by
    rw [hsx j hj, hsy j hj]
    match j, hj with
    | 0, _ => exact ⟨rfl, rfl⟩
    | 1, _ => exact ⟨rfl, rfl⟩
    | 2, _ => exact ⟨rfl, rfl⟩) hb
  rw [hW] at kP
  generalize qP 3 x y = Q at *
  clear hx hy hW hi hDy hPl s1 s2
  have p0 := g1 0 (by omega)
  have e0 : sx 0 = (((sx 0).toNat : Nat) : Int) := by omega
  have p1 := g1 1 (by omega)
  have e1 : sx 1 = (((sx 1).toNat : Nat) : Int) := by omega
  have p2 := g1 2 (by omega)
  have e2 : sx 2 = (((sx 2).toNat : Nat) : Int) := by omega
  have q1 := g2 1 0 (by omega) (by omega)
  have q2 := g2 2 1 (by omega) (by omega)
  refine CallOk.run0 Try.func24 rfl rfl rfl rfl rfl (WpR.of_vc ?_)
  (conv => whnf); (repeat' (first | ((with_reducible refine ifb_mk (fun hc => ?_) (fun hc => ?_)) <;> ((try simp only [decide_eq_true_eq, decide_eq_false_iff_not, Bool.not_eq_true', Bool.not_eq_false', Int.not_lt, Int.not_le, ne_eq, Decidable.not_not, beq_iff_eq, List.cons.injEq, and_true] at hc); (first | (exfalso; omega) | exact absurd True.intro hc | conv => whnf))) | ((with_reducible refine And.intro True.intro ?_); conv => whnf) | ((with_reducible refine CallX.all ?_); refine CallW.of_ok (kC _) ?_; conv => whnf) | (((with_reducible refine idxP_mk (k := (sx 0).toNat) ?hh ?_); (case hh => first | exact e0 | exact e0 (by assumption) | exact e0 (by omega))); conv => whnf) | (((with_reducible refine idxP_mk (k := (sx 1).toNat) ?hh ?_); (case hh => first | exact e1 | exact e1 (by assumption) | exact e1 (by omega))); conv => whnf) | (((with_reducible refine idxP_mk (k := (sx 2).toNat) ?hh ?_); (case hh => first | exact e2 | exact e2 (by assumption) | exact e2 (by omega))); conv => whnf) | ((with_reducible refine WpR.loopU 5 ?_); conv => whnf) | (refine AppX.nil (n := 1) Nat.zero_lt_one (Nat.le_of_ble_eq_true rfl) ?_; conv => whnf) | (refine AppX.own (n := 1) rfl rfl rfl Nat.zero_lt_one (Nat.le_of_ble_eq_true rfl) ?_; conv => whnf) | ((with_reducible refine CallX.all ?_); refine CallW.of_ok (kP _ _ _ (by rfl)) ?_; conv => whnf) | ((with_reducible refine WpR.draw (id := 9) mixed [0, 1, 2, 3, 4, 5, 6, 7, 8, 9, 10, 11, 12, 13, 14, 15, 16, 17, 18, 19, 20, 21, 22, 23, 24, 25, 26, 27, 28, 29, 30] [0, 0, 3, 7, 15, 31, 63, 63, 255, 511, 63, 1087, 3135, 8191, 16383, 32767, 65535, 131071, 262143, 524287, 524287, 2097151, 4194303, 524287, 524287, 17301503, 59244543, 126353407, 268435455, 536870911, 1073741823] ?hh ?_); (case hh => kernel_rfl); conv => whnf) | ((with_reducible refine WpR.draw (id := 11) mixed [0, 1, 2, 3, 4, 5, 6, 7, 8, 9, 10, 11] [0, 0, 2, 0, 0, 24, 56, 126, 254, 510, 1023, 2047] ?hh ?_); (case hh => kernel_rfl); conv => whnf) | ((with_reducible refine And.intro ?hh ?_); (case hh => exact condA); conv => whnf) | fail))
  all_goals first | (exfalso; omega) | (refine ⟨[], ?_, rfl, rfl, trivial, trivs⟩; simp only [renV, renL]; (first | done | rfl | (simp; done) | (simp; omega) | grind))
set_option maxHeartbeats 16000000 in
theorem throughR3_no (h : As.H) (D : Nat) (ex ex2 : Bool) (n : Nat) (a b : Nat → Int) (hv : ckL D n a b = 0) (hk : 3 = D + 1) (sx : Nat → Int) (hi : incB n 3 sx = true) (x y : Nat → Int) (hx : x = slF (selB 3 sx) a n) (hy : y = slF (selB 3 sx) b n) (hW : alW 3 x y = false) :
    CallOk Try.prog 24 [lgV D ex n a b, .rsl ex2 1 3 (iG sx)] h (.tup [.nils, .int .i64 23]) h := by
  obtain ⟨hD, l⟩ := ckL_lg hv
  have hn := l.le
  obtain ⟨g1, g2⟩ := incB_of hi
  obtain ⟨s1, s2⟩ := sel_all hi
  have kC := fun h' => checkLogR_ok h' D ex n a b (by omega)
  rw [hv] at kC
  have hDy : Dy 3 x := by
    have := slF_dy (p := selB 3 sx) (a := a) (n := n) (by omega) l.rg l.up
    rw [s1] at this; rw [hx]; exact this
  have hPl : Pl 3 y := by
    have := slF_pl (p := selB 3 sx) (b := b) (n := n) l.at'
    rw [s1] at this; rw [hy]; exact this
  have hsx : ∀ j, j < 3 → x j = a (sx j).toNat := fun j hj => by rw [hx]; exact s2 a j hj
  have hsy : ∀ j, j < 3 → y j = b (sx j).toNat := fun j hj => by rw [hy]; exact s2 b j hj
  have kP : ∀ (h' : As.H) (q : Nat) gg, h'.get q = some (.cells (ofL [.int .i64 (a (sx 0).toNat), .int .i64 (b (sx 0).toNat), .int .i64 (a (sx 1).toNat), .int .i64 (b (sx 1).toNat), .int .i64 (a (sx 2).toNat), .int .i64 (b (sx 2).toNat)] 0) true gg) → CallOk Try.prog 64 [.sl q 0 3 3 false] h' (match alW 3 x y with | true => .tup [.rsl false 1 3 (iG fun j => dif (qP 3 x y) j 0), .bool true] | false => .tup [.nils, .bool false]) (h'.put q .dead) := fun h' q gg hb => passS_ok h' (ex := false) (Nat.le_of_ble_eq_true rfl) x y hDy hPl (fun j hj => by
    rw [hsx j hj, hsy j hj]
    match j, hj with
    | 0, _ => exact ⟨rfl, rfl⟩
    | 1, _ => exact ⟨rfl, rfl⟩
    | 2, _ => exact ⟨rfl, rfl⟩) hb
  rw [hW] at kP
  generalize qP 3 x y = Q at *
  clear hx hy hW hi hDy hPl s1 s2
  have p0 := g1 0 (by omega)
  have e0 : sx 0 = (((sx 0).toNat : Nat) : Int) := by omega
  have p1 := g1 1 (by omega)
  have e1 : sx 1 = (((sx 1).toNat : Nat) : Int) := by omega
  have p2 := g1 2 (by omega)
  have e2 : sx 2 = (((sx 2).toNat : Nat) : Int) := by omega
  have q1 := g2 1 0 (by omega) (by omega)
  have q2 := g2 2 1 (by omega) (by omega)
  refine CallOk.run0 Try.func24 rfl rfl rfl rfl rfl (WpR.of_vc ?_)
  (conv => whnf); (repeat' (first | ((with_reducible refine ifb_mk (fun hc => ?_) (fun hc => ?_)) <;> ((try simp only [decide_eq_true_eq, decide_eq_false_iff_not, Bool.not_eq_true', Bool.not_eq_false', Int.not_lt, Int.not_le, ne_eq, Decidable.not_not, beq_iff_eq, List.cons.injEq, and_true] at hc); (first | (exfalso; omega) | exact absurd True.intro hc | conv => whnf))) | ((with_reducible refine And.intro True.intro ?_); conv => whnf) | ((with_reducible refine CallX.all ?_); refine CallW.of_ok (kC _) ?_; conv => whnf) | (((with_reducible refine idxP_mk (k := (sx 0).toNat) ?hh ?_); (case hh => first | exact e0 | exact e0 (by assumption) | exact e0 (by omega))); conv => whnf) | (((with_reducible refine idxP_mk (k := (sx 1).toNat) ?hh ?_); (case hh => first | exact e1 | exact e1 (by assumption) | exact e1 (by omega))); conv => whnf) | (((with_reducible refine idxP_mk (k := (sx 2).toNat) ?hh ?_); (case hh => first | exact e2 | exact e2 (by assumption) | exact e2 (by omega))); conv => whnf) | ((with_reducible refine WpR.loopU 5 ?_); conv => whnf) | (refine AppX.nil (n := 1) Nat.zero_lt_one (Nat.le_of_ble_eq_true rfl) ?_; conv => whnf) | (refine AppX.own (n := 1) rfl rfl rfl Nat.zero_lt_one (Nat.le_of_ble_eq_true rfl) ?_; conv => whnf) | ((with_reducible refine CallX.all ?_); refine CallW.of_ok (kP _ _ _ (by rfl)) ?_; conv => whnf) | ((with_reducible refine WpR.draw (id := 9) mixed [0, 1, 2, 3, 4, 5, 6, 7, 8, 9, 10, 11, 12, 13, 14, 15, 16, 17, 18, 19, 20, 21, 22, 23, 24, 25, 26, 27, 28, 29, 30] [0, 0, 3, 7, 15, 31, 63, 63, 255, 511, 63, 1087, 3135, 8191, 16383, 32767, 65535, 131071, 262143, 524287, 524287, 2097151, 4194303, 524287, 524287, 17301503, 59244543, 126353407, 268435455, 536870911, 1073741823] ?hh ?_); (case hh => kernel_rfl); conv => whnf) | ((with_reducible refine WpR.draw (id := 11) mixed [0, 1, 2, 3, 4, 5, 6, 7, 8, 9, 10, 11] [0, 0, 2, 0, 0, 24, 56, 126, 254, 510, 1023, 2047] ?hh ?_); (case hh => kernel_rfl); conv => whnf) | ((with_reducible refine And.intro ?hh ?_); (case hh => exact condA); conv => whnf) | fail))
  all_goals first | (exfalso; omega) | (refine ⟨[], ?_, rfl, rfl, trivial, trivs⟩; simp only [renV, renL]; (first | done | rfl | (simp; done) | (simp; omega) | grind))
set_option maxHeartbeats 16000000 in
theorem throughR4_yes (h : As.H) (D : Nat) (ex ex2 : Bool) (n : Nat) (a b : Nat → Int) (hv : ckL D n a b = 0) (hk : 4 = D + 1) (sx : Nat → Int) (hi : incB n 4 sx = true) (x y : Nat → Int) (hx : x = slF (selB 4 sx) a n) (hy : y = slF (selB 4 sx) b n) (hW : alW 4 x y = true) :
    CallOk Try.prog 24 [lgV D ex n a b, .rsl ex2 1 4 (iG sx)] h (.tup [.rsl false 1 4 (iG fun j => dif (qP 4 x y) j 0), .int .i64 0]) h := by
  obtain ⟨hD, l⟩ := ckL_lg hv
  have hn := l.le
  obtain ⟨g1, g2⟩ := incB_of hi
  obtain ⟨s1, s2⟩ := sel_all hi
  have kC := fun h' => checkLogR_ok h' D ex n a b (by omega)
  rw [hv] at kC
  have hDy : Dy 4 x := by
    have := slF_dy (p := selB 4 sx) (a := a) (n := n) (by omega) l.rg l.up
    rw [s1] at this; rw [hx]; exact this
  have hPl : Pl 4 y := by
    have := slF_pl (p := selB 4 sx) (b := b) (n := n) l.at'
    rw [s1] at this; rw [hy]; exact this
  have hsx : ∀ j, j < 4 → x j = a (sx j).toNat := fun j hj => by rw [hx]; exact s2 a j hj
  have hsy : ∀ j, j < 4 → y j = b (sx j).toNat := fun j hj => by rw [hy]; exact s2 b j hj
  have kP : ∀ (h' : As.H) (q : Nat) gg, h'.get q = some (.cells (ofL [.int .i64 (a (sx 0).toNat), .int .i64 (b (sx 0).toNat), .int .i64 (a (sx 1).toNat), .int .i64 (b (sx 1).toNat), .int .i64 (a (sx 2).toNat), .int .i64 (b (sx 2).toNat), .int .i64 (a (sx 3).toNat), .int .i64 (b (sx 3).toNat)] 0) true gg) → CallOk Try.prog 64 [.sl q 0 4 4 false] h' (match alW 4 x y with | true => .tup [.rsl false 1 4 (iG fun j => dif (qP 4 x y) j 0), .bool true] | false => .tup [.nils, .bool false]) (h'.put q .dead) := fun h' q gg hb => passS_ok h' (ex := false) (Nat.le_of_ble_eq_true rfl) x y hDy hPl (fun j hj => by
    rw [hsx j hj, hsy j hj]
    match j, hj with
    | 0, _ => exact ⟨rfl, rfl⟩
    | 1, _ => exact ⟨rfl, rfl⟩
    | 2, _ => exact ⟨rfl, rfl⟩
    | 3, _ => exact ⟨rfl, rfl⟩) hb
  rw [hW] at kP
  generalize qP 4 x y = Q at *
  clear hx hy hW hi hDy hPl s1 s2
  have p0 := g1 0 (by omega)
  have e0 : sx 0 = (((sx 0).toNat : Nat) : Int) := by omega
  have p1 := g1 1 (by omega)
  have e1 : sx 1 = (((sx 1).toNat : Nat) : Int) := by omega
  have p2 := g1 2 (by omega)
  have e2 : sx 2 = (((sx 2).toNat : Nat) : Int) := by omega
  have p3 := g1 3 (by omega)
  have e3 : sx 3 = (((sx 3).toNat : Nat) : Int) := by omega
  have q1 := g2 1 0 (by omega) (by omega)
  have q2 := g2 2 1 (by omega) (by omega)
  have q3 := g2 3 2 (by omega) (by omega)
  refine CallOk.run0 Try.func24 rfl rfl rfl rfl rfl (WpR.of_vc ?_)
  (conv => whnf); (repeat' (first | ((with_reducible refine ifb_mk (fun hc => ?_) (fun hc => ?_)) <;> ((try simp only [decide_eq_true_eq, decide_eq_false_iff_not, Bool.not_eq_true', Bool.not_eq_false', Int.not_lt, Int.not_le, ne_eq, Decidable.not_not, beq_iff_eq, List.cons.injEq, and_true] at hc); (first | (exfalso; omega) | exact absurd True.intro hc | conv => whnf))) | ((with_reducible refine And.intro True.intro ?_); conv => whnf) | ((with_reducible refine CallX.all ?_); refine CallW.of_ok (kC _) ?_; conv => whnf) | (((with_reducible refine idxP_mk (k := (sx 0).toNat) ?hh ?_); (case hh => first | exact e0 | exact e0 (by assumption) | exact e0 (by omega))); conv => whnf) | (((with_reducible refine idxP_mk (k := (sx 1).toNat) ?hh ?_); (case hh => first | exact e1 | exact e1 (by assumption) | exact e1 (by omega))); conv => whnf) | (((with_reducible refine idxP_mk (k := (sx 2).toNat) ?hh ?_); (case hh => first | exact e2 | exact e2 (by assumption) | exact e2 (by omega))); conv => whnf) | (((with_reducible refine idxP_mk (k := (sx 3).toNat) ?hh ?_); (case hh => first | exact e3 | exact e3 (by assumption) | exact e3 (by omega))); conv => whnf) | ((with_reducible refine WpR.loopU 5 ?_); conv => whnf) | (refine AppX.nil (n := 1) Nat.zero_lt_one (Nat.le_of_ble_eq_true rfl) ?_; conv => whnf) | (refine AppX.own (n := 1) rfl rfl rfl Nat.zero_lt_one (Nat.le_of_ble_eq_true rfl) ?_; conv => whnf) | ((with_reducible refine CallX.all ?_); refine CallW.of_ok (kP _ _ _ (by rfl)) ?_; conv => whnf) | ((with_reducible refine WpR.draw (id := 9) mixed [0, 1, 2, 3, 4, 5, 6, 7, 8, 9, 10, 11, 12, 13, 14, 15, 16, 17, 18, 19, 20, 21, 22, 23, 24, 25, 26, 27, 28, 29, 30] [0, 0, 3, 7, 15, 31, 63, 63, 255, 511, 63, 1087, 3135, 8191, 16383, 32767, 65535, 131071, 262143, 524287, 524287, 2097151, 4194303, 524287, 524287, 17301503, 59244543, 126353407, 268435455, 536870911, 1073741823] ?hh ?_); (case hh => kernel_rfl); conv => whnf) | ((with_reducible refine WpR.draw (id := 11) mixed [0, 1, 2, 3, 4, 5, 6, 7, 8, 9, 10, 11] [0, 0, 2, 0, 0, 24, 56, 126, 254, 510, 1023, 2047] ?hh ?_); (case hh => kernel_rfl); conv => whnf) | ((with_reducible refine And.intro ?hh ?_); (case hh => exact condA); conv => whnf) | fail))
  all_goals first | (exfalso; omega) | (refine ⟨[], ?_, rfl, rfl, trivial, trivs⟩; simp only [renV, renL]; (first | done | rfl | (simp; done) | (simp; omega) | grind))
set_option maxHeartbeats 16000000 in
theorem throughR4_no (h : As.H) (D : Nat) (ex ex2 : Bool) (n : Nat) (a b : Nat → Int) (hv : ckL D n a b = 0) (hk : 4 = D + 1) (sx : Nat → Int) (hi : incB n 4 sx = true) (x y : Nat → Int) (hx : x = slF (selB 4 sx) a n) (hy : y = slF (selB 4 sx) b n) (hW : alW 4 x y = false) :
    CallOk Try.prog 24 [lgV D ex n a b, .rsl ex2 1 4 (iG sx)] h (.tup [.nils, .int .i64 23]) h := by
  obtain ⟨hD, l⟩ := ckL_lg hv
  have hn := l.le
  obtain ⟨g1, g2⟩ := incB_of hi
  obtain ⟨s1, s2⟩ := sel_all hi
  have kC := fun h' => checkLogR_ok h' D ex n a b (by omega)
  rw [hv] at kC
  have hDy : Dy 4 x := by
    have := slF_dy (p := selB 4 sx) (a := a) (n := n) (by omega) l.rg l.up
    rw [s1] at this; rw [hx]; exact this
  have hPl : Pl 4 y := by
    have := slF_pl (p := selB 4 sx) (b := b) (n := n) l.at'
    rw [s1] at this; rw [hy]; exact this
  have hsx : ∀ j, j < 4 → x j = a (sx j).toNat := fun j hj => by rw [hx]; exact s2 a j hj
  have hsy : ∀ j, j < 4 → y j = b (sx j).toNat := fun j hj => by rw [hy]; exact s2 b j hj
  have kP : ∀ (h' : As.H) (q : Nat) gg, h'.get q = some (.cells (ofL [.int .i64 (a (sx 0).toNat), .int .i64 (b (sx 0).toNat), .int .i64 (a (sx 1).toNat), .int .i64 (b (sx 1).toNat), .int .i64 (a (sx 2).toNat), .int .i64 (b (sx 2).toNat), .int .i64 (a (sx 3).toNat), .int .i64 (b (sx 3).toNat)] 0) true gg) → CallOk Try.prog 64 [.sl q 0 4 4 false] h' (match alW 4 x y with | true => .tup [.rsl false 1 4 (iG fun j => dif (qP 4 x y) j 0), .bool true] | false => .tup [.nils, .bool false]) (h'.put q .dead) := fun h' q gg hb => passS_ok h' (ex := false) (Nat.le_of_ble_eq_true rfl) x y hDy hPl (fun j hj => by
    rw [hsx j hj, hsy j hj]
    match j, hj with
    | 0, _ => exact ⟨rfl, rfl⟩
    | 1, _ => exact ⟨rfl, rfl⟩
    | 2, _ => exact ⟨rfl, rfl⟩
    | 3, _ => exact ⟨rfl, rfl⟩) hb
  rw [hW] at kP
  generalize qP 4 x y = Q at *
  clear hx hy hW hi hDy hPl s1 s2
  have p0 := g1 0 (by omega)
  have e0 : sx 0 = (((sx 0).toNat : Nat) : Int) := by omega
  have p1 := g1 1 (by omega)
  have e1 : sx 1 = (((sx 1).toNat : Nat) : Int) := by omega
  have p2 := g1 2 (by omega)
  have e2 : sx 2 = (((sx 2).toNat : Nat) : Int) := by omega
  have p3 := g1 3 (by omega)
  have e3 : sx 3 = (((sx 3).toNat : Nat) : Int) := by omega
  have q1 := g2 1 0 (by omega) (by omega)
  have q2 := g2 2 1 (by omega) (by omega)
  have q3 := g2 3 2 (by omega) (by omega)
  refine CallOk.run0 Try.func24 rfl rfl rfl rfl rfl (WpR.of_vc ?_)
  (conv => whnf); (repeat' (first | ((with_reducible refine ifb_mk (fun hc => ?_) (fun hc => ?_)) <;> ((try simp only [decide_eq_true_eq, decide_eq_false_iff_not, Bool.not_eq_true', Bool.not_eq_false', Int.not_lt, Int.not_le, ne_eq, Decidable.not_not, beq_iff_eq, List.cons.injEq, and_true] at hc); (first | (exfalso; omega) | exact absurd True.intro hc | conv => whnf))) | ((with_reducible refine And.intro True.intro ?_); conv => whnf) | ((with_reducible refine CallX.all ?_); refine CallW.of_ok (kC _) ?_; conv => whnf) | (((with_reducible refine idxP_mk (k := (sx 0).toNat) ?hh ?_); (case hh => first | exact e0 | exact e0 (by assumption) | exact e0 (by omega))); conv => whnf) | (((with_reducible refine idxP_mk (k := (sx 1).toNat) ?hh ?_); (case hh => first | exact e1 | exact e1 (by assumption) | exact e1 (by omega))); conv => whnf) | (((with_reducible refine idxP_mk (k := (sx 2).toNat) ?hh ?_); (case hh => first | exact e2 | exact e2 (by assumption) | exact e2 (by omega))); conv => whnf) | (((with_reducible refine idxP_mk (k := (sx 3).toNat) ?hh ?_); (case hh => first | exact e3 | exact e3 (by assumption) | exact e3 (by omega))); conv => whnf) | ((with_reducible refine WpR.loopU 5 ?_); conv => whnf) | (refine AppX.nil (n := 1) Nat.zero_lt_one (Nat.le_of_ble_eq_true rfl) ?_; conv => whnf) | (refine AppX.own (n := 1) rfl rfl rfl Nat.zero_lt_one (Nat.le_of_ble_eq_true rfl) ?_; conv => whnf) | ((with_reducible refine CallX.all ?_); refine CallW.of_ok (kP _ _ _ (by rfl)) ?_; conv => whnf) | ((with_reducible refine WpR.draw (id := 9) mixed [0, 1, 2, 3, 4, 5, 6, 7, 8, 9, 10, 11, 12, 13, 14, 15, 16, 17, 18, 19, 20, 21, 22, 23, 24, 25, 26, 27, 28, 29, 30] [0, 0, 3, 7, 15, 31, 63, 63, 255, 511, 63, 1087, 3135, 8191, 16383, 32767, 65535, 131071, 262143, 524287, 524287, 2097151, 4194303, 524287, 524287, 17301503, 59244543, 126353407, 268435455, 536870911, 1073741823] ?hh ?_); (case hh => kernel_rfl); conv => whnf) | ((with_reducible refine WpR.draw (id := 11) mixed [0, 1, 2, 3, 4, 5, 6, 7, 8, 9, 10, 11] [0, 0, 2, 0, 0, 24, 56, 126, 254, 510, 1023, 2047] ?hh ?_); (case hh => kernel_rfl); conv => whnf) | ((with_reducible refine And.intro ?hh ?_); (case hh => exact condA); conv => whnf) | fail))
  all_goals first | (exfalso; omega) | (refine ⟨[], ?_, rfl, rfl, trivial, trivs⟩; simp only [renV, renL]; (first | done | rfl | (simp; done) | (simp; omega) | grind))
end Go.Proofs.K
namespace Go.Proofs.K
open Go.As
set_option maxRecDepth 20000
theorem throughR_yes (h : As.H) (D : Nat) (ex ex2 : Bool) (n : Nat) (a b : Nat → Int) (hv : ckL D n a b = 0) (k : Nat) (hk : k = D + 1) (sx : Nat → Int) (hi : incB n k sx = true) (hW : alW k (slF (selB k sx) a n) (slF (selB k sx) b n) = true) :
    CallOk Try.prog 24 [lgV D ex n a b, .rsl ex2 1 k (iG sx)] h (.tup [.rsl false 1 k (iG fun j => dif (qP k (slF (selB k sx) a n) (slF (selB k sx) b n)) j 0), .int .i64 0]) h := by
  have hD := (ckL_lg hv).1
  match k, hk, hi, hW with
  | 1, hk, hi, hW => exact throughR1_yes h D ex ex2 n a b hv hk sx hi _ _ rfl rfl hW
  | 2, hk, hi, hW => exact throughR2_yes h D ex ex2 n a b hv hk sx hi _ _ rfl rfl hW
  | 3, hk, hi, hW => exact throughR3_yes h D ex ex2 n a b hv hk sx hi _ _ rfl rfl hW
  | 4, hk, hi, hW => exact throughR4_yes h D ex ex2 n a b hv hk sx hi _ _ rfl rfl hW
  | 0, hk, _, _ => omega
  | k + 5, hk, _, _ => omega
theorem throughR_no (h : As.H) (D : Nat) (ex ex2 : Bool) (n : Nat) (a b : Nat → Int) (hv : ckL D n a b = 0) (k : Nat) (hk : k = D + 1) (sx : Nat → Int) (hi : incB n k sx = true) (hW : alW k (slF (selB k sx) a n) (slF (selB k sx) b n) = false) :
    CallOk Try.prog 24 [lgV D ex n a b, .rsl ex2 1 k (iG sx)] h (.tup [.nils, .int .i64 23]) h := by
  have hD := (ckL_lg hv).1
  match k, hk, hi, hW with
  | 1, hk, hi, hW => exact throughR1_no h D ex ex2 n a b hv hk sx hi _ _ rfl rfl hW
  | 2, hk, hi, hW => exact throughR2_no h D ex ex2 n a b hv hk sx hi _ _ rfl rfl hW
  | 3, hk, hi, hW => exact throughR3_no h D ex ex2 n a b hv hk sx hi _ _ rfl rfl hW
  | 4, hk, hi, hW => exact throughR4_no h D ex ex2 n a b hv hk sx hi _ _ rfl rfl hW
  | 0, hk, _, _ => omega
  | k + 5, hk, _, _ => omega
end Go.Proofs.K
