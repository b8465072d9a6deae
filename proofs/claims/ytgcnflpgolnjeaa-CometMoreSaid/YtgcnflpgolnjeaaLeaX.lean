/- What the functions answer that the laws call, one after another (LeaX). -/
import Derived.Test.YtgcnflpgolnjeaaB0
import Derived.Test.YtgcnflpgolnjeaaB7
import Derived.Test.YtgcnflpgolnjeaaTh
import Derived.Test.YtgcnflpgolnjeaaB10
import Derived.Test.YtgcnflpgolnjeaaBst
import Derived.Test.YtgcnflpgolnjeaaMst
import Derived.Test.YtgcnflpgolnjeaaBso
import Derived.Test.YtgcnflpgolnjeaaPth
import Derived.Test.YtgcnflpgolnjeaaKnd
import Derived.Test.YtgcnflpgolnjeaaChk
import Derived.Test.YtgcnflpgolnjeaaThr
import Derived.Test.YtgcnflpgolnjeaaLst
import Derived.Test.YtgcnflpgolnjeaaExa
import Derived.Test.YtgcnflpgolnjeaaWk
import Derived.KernelRfl
import Derived.WalkKit
import Derived.ProofKit
import Derived.OpenShut
import Derived.Carry

set_option linter.unusedVariables false
set_option linter.unusedVariables false
namespace Go.Proofs.K
open Go.As
set_option maxRecDepth 20000
set_option linter.unusedVariables false
set_option linter.unusedSimpArgs false
/-! ### The definitions: logs -/

set_option maxHeartbeats 4000000 in
theorem checkLogR_ok (h : As.H) (D : Int) (ex : Bool) (n : Nat) (a b : Nat → Int) (hn : n ≤ 9223372036854775807) : CallOk Try.prog 28 [lgV D ex n a b] h (.int .i64 (ckL D n a b)) h := by
  have ho : ∀ i, okS a b i = decide ((0 ≤ a i ∧ a i ≤ 60) ∧ (-100000 ≤ b i ∧ b i ≤ 100000)) := fun i => rfl
  have hd : ∀ i, okD a i = decide (0 < i → a (i - 1) < a i) := fun i => rfl
  unfold ckL
  generalize okS a b = ok at *
  generalize okD a = od at *
  by_cases h1 : 0 ≤ D ∧ D ≤ 3
  rotate_left
  · rw [if_neg h1]
    refine CallOk.run0 Try.func28 rfl rfl rfl rfl rfl (WpR.of_vc ?_)
    (conv => whnf); (repeat' (first | ((with_reducible refine ifb_mk (fun hc => ?_) (fun hc => ?_)) <;> ((try simp only [decide_eq_true_eq, decide_eq_false_iff_not, Bool.not_eq_true', Bool.not_eq_false', Int.not_lt, Int.not_le, ne_eq, Decidable.not_not, beq_iff_eq, List.cons.injEq, and_true] at hc); (first | (exfalso; omega) | exact absurd True.intro hc | conv => whnf))) | ((with_reducible refine And.intro True.intro ?_); conv => whnf) | ((with_reducible refine And.intro ?hh ?_); (case hh => exact condA); conv => whnf) | fail))
    all_goals first | (refine ⟨[], ?_, rfl, rfl, trivial, trivs⟩; simp only [renV, renL]; (first | done | rfl | (simp; done) | (simp; omega) | grind)) | (exfalso; omega)
  rw [if_pos h1]
  by_cases h2 : n ≤ 12
  rotate_left
  · rw [if_neg h2]
    refine CallOk.run0 Try.func28 rfl rfl rfl rfl rfl (WpR.of_vc ?_)
    (conv => whnf); (repeat' (first | ((with_reducible refine ifb_mk (fun hc => ?_) (fun hc => ?_)) <;> ((try simp only [decide_eq_true_eq, decide_eq_false_iff_not, Bool.not_eq_true', Bool.not_eq_false', Int.not_lt, Int.not_le, ne_eq, Decidable.not_not, beq_iff_eq, List.cons.injEq, and_true] at hc); (first | (exfalso; omega) | exact absurd True.intro hc | conv => whnf))) | ((with_reducible refine And.intro True.intro ?_); conv => whnf) | ((with_reducible refine And.intro ?hh ?_); (case hh => exact condA); conv => whnf) | fail))
    all_goals first | (refine ⟨[], ?_, rfl, rfl, trivial, trivs⟩; simp only [renV, renL]; (first | done | rfl | (simp; done) | (simp; omega) | grind)) | (exfalso; omega)
  rw [if_pos h2]
  have hf := @allF_f n
  have ht := @allF_t n
  generalize hz : allF n ok = z at *
  generalize hy : allF n od = y at *
  refine CallOk.run0 Try.func28 rfl rfl rfl rfl rfl (WpR.of_vc ?_)
  (conv => whnf); (repeat' (first | ((with_reducible refine ifb_mk (fun hc => ?_) (fun hc => ?_)) <;> ((try simp only [decide_eq_true_eq, decide_eq_false_iff_not, Bool.not_eq_true', Bool.not_eq_false', Int.not_lt, Int.not_le, ne_eq, Decidable.not_not, beq_iff_eq, List.cons.injEq, and_true] at hc); (first | (exfalso; omega) | exact absurd True.intro hc | conv => whnf))) | ((with_reducible refine And.intro True.intro ?_); conv => whnf) | ((with_reducible refine And.intro ?hh ?_); (case hh => exact condA); conv => whnf) | fail))
  all_goals first | (exfalso; omega) | skip
  refine WpR.loopA (ι := Nat) [] [1] [] [] 1 (fun i => [(3, .int .i64 i)]) (fun _ => []) (fun i => n - i) (fun i => i ≤ n ∧ ∀ k, k < i → ok k = true) ?_ (0) (⟨by omega, fun k hk => absurd hk (Nat.not_lt_zero _)⟩) [] Back.auto
  rintro i ⟨j1, j2⟩
  refine WpR.of_vc ?_
  by_cases hi : i < n
  · have ho := ho i
    by_cases hw : (0 ≤ a i ∧ a i ≤ 60) ∧ -100000 ≤ b i ∧ b i ≤ 100000
    · have hok : ok i = true := by rw [ho]; exact decide_eq_true hw
      (conv => whnf); (repeat' (first | ((with_reducible refine ifb_mk (fun hc => ?_) (fun hc => ?_)) <;> ((try simp only [decide_eq_true_eq, decide_eq_false_iff_not, Bool.not_eq_true', Bool.not_eq_false', Int.not_lt, Int.not_le, ne_eq, Decidable.not_not, beq_iff_eq, List.cons.injEq, and_true] at hc); (first | (exfalso; omega) | exact absurd True.intro hc | conv => whnf))) | ((with_reducible refine And.intro True.intro ?_); conv => whnf) | ((with_reducible refine grd_and ?_); refine And.intro (hi) ?_; conv => whnf) | ((with_reducible refine WpR.draw (id := 14) mixed [0, 1, 2, 3, 4, 5, 6, 7, 8, 9, 10, 11, 12, 13] [0, 1, 0, 7, 15, 31, 0, 64, 0, 256, 960, 1984, 4032, 8191] ?hh ?_); (case hh => kernel_rfl); conv => whnf) | ((with_reducible refine And.intro ?hh ?_); (case hh => exact condA); conv => whnf) | fail))
      all_goals first | (exfalso; omega) | exact ⟨i + 1, [], by omega, ⟨by omega, below_succ j2 hok⟩, Back.auto⟩
    · have ez : z = false := by rw [← hz]; exact hf hi (by rw [ho]; exact decide_eq_false hw)
      subst ez
      (conv => whnf); (repeat' (first | ((with_reducible refine ifb_mk (fun hc => ?_) (fun hc => ?_)) <;> ((try simp only [decide_eq_true_eq, decide_eq_false_iff_not, Bool.not_eq_true', Bool.not_eq_false', Int.not_lt, Int.not_le, ne_eq, Decidable.not_not, beq_iff_eq, List.cons.injEq, and_true] at hc); (first | (exfalso; omega) | exact absurd True.intro hc | conv => whnf))) | ((with_reducible refine And.intro True.intro ?_); conv => whnf) | ((with_reducible refine grd_and ?_); refine And.intro (hi) ?_; conv => whnf) | ((with_reducible refine WpR.draw (id := 14) mixed [0, 1, 2, 3, 4, 5, 6, 7, 8, 9, 10, 11, 12, 13] [0, 1, 0, 7, 15, 31, 0, 64, 0, 256, 960, 1984, 4032, 8191] ?hh ?_); (case hh => kernel_rfl); conv => whnf) | ((with_reducible refine And.intro ?hh ?_); (case hh => exact condA); conv => whnf) | fail))
      all_goals first | (refine ⟨[], ?_, rfl, rfl, trivial, trivs⟩; simp only [renV, renL]; (first | done | rfl | (simp; done) | (simp; omega) | grind)) | (exfalso; omega)
  · have ez : z = true := by rw [← hz]; exact ht fun k hk => j2 k (by omega)
    subst ez
    clear j2
    have h0 : ∀ k, k < 1 → od k = true := fun k hk => by rw [hd]; exact decide_eq_true fun hc => by omega
    (conv => whnf); (repeat' (first | ((with_reducible refine ifb_mk (fun hc => ?_) (fun hc => ?_)) <;> ((try simp only [decide_eq_true_eq, decide_eq_false_iff_not, Bool.not_eq_true', Bool.not_eq_false', Int.not_lt, Int.not_le, ne_eq, Decidable.not_not, beq_iff_eq, List.cons.injEq, and_true] at hc); (first | (exfalso; omega) | exact absurd True.intro hc | conv => whnf))) | ((with_reducible refine And.intro True.intro ?_); conv => whnf) | ((with_reducible refine grd_and ?_); refine And.intro (hi) ?_; conv => whnf) | ((with_reducible refine And.intro ?hh ?_); (case hh => exact condA); conv => whnf) | fail))
    all_goals first | (exfalso; omega) | skip
    refine WpR.loopA (ι := Nat) [] [1] [] [] 1 (fun i => [(5, .int .i64 i)]) (fun _ => []) (fun i => n - i) (fun i => (1 ≤ i ∧ i ≤ n + 1) ∧ ∀ k, k < i → od k = true) ?_ (1) (⟨by omega, h0⟩) [] Back.auto
    rintro i ⟨j1, j2⟩
    refine WpR.of_vc ?_
    by_cases hi : i < n
    · have hd := hd i
      by_cases hw : a (i - 1) < a i
      · have hok : od i = true := by rw [hd]; exact decide_eq_true fun _ => hw
        have hi1 : i - 1 < n := by omega
        have e1 : ((i : Int) - 1) = ((i - 1 : Nat) : Int) := by omega
        (conv => whnf); (repeat' (first | ((with_reducible refine ifb_mk (fun hc => ?_) (fun hc => ?_)) <;> ((try simp only [decide_eq_true_eq, decide_eq_false_iff_not, Bool.not_eq_true', Bool.not_eq_false', Int.not_lt, Int.not_le, ne_eq, Decidable.not_not, beq_iff_eq, List.cons.injEq, and_true] at hc); (first | (exfalso; omega) | exact absurd True.intro hc | conv => whnf))) | ((with_reducible refine And.intro True.intro ?_); conv => whnf) | ((with_reducible refine grd_and ?_); refine And.intro (hi) ?_; conv => whnf) | ((with_reducible refine grd_and ?_); refine And.intro (hi1) ?_; conv => whnf) | (((with_reducible refine idxP_mk (k := i - 1) ?hh ?_); (case hh => exact e1)); conv => whnf) | ((with_reducible refine WpR.draw (id := 14) mixed [0, 1, 2, 3, 4, 5, 6, 7, 8, 9, 10, 11, 12, 13] [0, 1, 0, 7, 15, 31, 0, 64, 0, 256, 960, 1984, 4032, 8191] ?hh ?_); (case hh => kernel_rfl); conv => whnf) | ((with_reducible refine And.intro ?hh ?_); (case hh => exact condA); conv => whnf) | fail))
        all_goals first | (exfalso; omega) | exact ⟨i + 1, [], by omega, ⟨by omega, below_succ j2 hok⟩, Back.auto⟩
      · have ey : y = false := by rw [← hy]; exact hf hi (by rw [hd]; exact decide_eq_false (fun hc => hw (hc (by omega))))
        subst ey
        have hi1 : i - 1 < n := by omega
        have e1 : ((i : Int) - 1) = ((i - 1 : Nat) : Int) := by omega
        (conv => whnf); (repeat' (first | ((with_reducible refine ifb_mk (fun hc => ?_) (fun hc => ?_)) <;> ((try simp only [decide_eq_true_eq, decide_eq_false_iff_not, Bool.not_eq_true', Bool.not_eq_false', Int.not_lt, Int.not_le, ne_eq, Decidable.not_not, beq_iff_eq, List.cons.injEq, and_true] at hc); (first | (exfalso; omega) | exact absurd True.intro hc | conv => whnf))) | ((with_reducible refine And.intro True.intro ?_); conv => whnf) | ((with_reducible refine grd_and ?_); refine And.intro (hi) ?_; conv => whnf) | ((with_reducible refine grd_and ?_); refine And.intro (hi1) ?_; conv => whnf) | (((with_reducible refine idxP_mk (k := i - 1) ?hh ?_); (case hh => exact e1)); conv => whnf) | ((with_reducible refine WpR.draw (id := 14) mixed [0, 1, 2, 3, 4, 5, 6, 7, 8, 9, 10, 11, 12, 13] [0, 1, 0, 7, 15, 31, 0, 64, 0, 256, 960, 1984, 4032, 8191] ?hh ?_); (case hh => kernel_rfl); conv => whnf) | ((with_reducible refine And.intro ?hh ?_); (case hh => exact condA); conv => whnf) | fail))
        all_goals first | (refine ⟨[], ?_, rfl, rfl, trivial, trivs⟩; simp only [renV, renL]; (first | done | rfl | (simp; done) | (simp; omega) | grind)) | (exfalso; omega)
    · have ey : y = true := by rw [← hy]; exact ht fun k hk => j2 k (by omega)
      subst ey
      (conv => whnf); (repeat' (first | ((with_reducible refine ifb_mk (fun hc => ?_) (fun hc => ?_)) <;> ((try simp only [decide_eq_true_eq, decide_eq_false_iff_not, Bool.not_eq_true', Bool.not_eq_false', Int.not_lt, Int.not_le, ne_eq, Decidable.not_not, beq_iff_eq, List.cons.injEq, and_true] at hc); (first | (exfalso; omega) | exact absurd True.intro hc | conv => whnf))) | ((with_reducible refine And.intro True.intro ?_); conv => whnf) | ((with_reducible refine grd_and ?_); refine And.intro (hi) ?_; conv => whnf) | ((with_reducible refine And.intro ?hh ?_); (case hh => exact condA); conv => whnf) | fail))
      all_goals first | (refine ⟨[], ?_, rfl, rfl, trivial, trivs⟩; simp only [renV, renL]; (first | done | rfl | (simp; done) | (simp; omega) | grind)) | (exfalso; omega)
end Go.Proofs.K
set_option linter.unusedVariables false
namespace Go.Proofs.K
open Go.As
set_option maxRecDepth 20000
set_option linter.unusedVariables false
set_option linter.unusedSimpArgs false
theorem mpS_all {D n : Nat} {a b : Nat → Int} : ∀ N g, g < N → cnF g.testBit n = D + 1 → wkG n a b g = true → c4 (crG n a b g) ∈ mpS D n a b N
  | 0, g, h, _, _ => absurd h (Nat.not_lt_zero _)
  | N + 1, g, h, h1, h2 => by
    unfold mpS
    by_cases e : g = N
    · subst e
      by_cases hm : c4 (crG n a b g) ∈ mpS D n a b g
      · rw [if_neg (fun hc => hc.2.2 hm)]; exact hm
      · rw [if_pos ⟨h1, h2, hm⟩]; exact List.mem_cons_self
    · have := mpS_all (D := D) (n := n) (a := a) (b := b) N g (by omega) h1 h2
      split
      · exact List.mem_cons_of_mem _ this
      · exact this
end Go.Proofs.K
set_option linter.unusedVariables false
namespace Go.Proofs.K
open Go.As
set_option maxRecDepth 20000
set_option linter.unusedVariables false
set_option linter.unusedSimpArgs false
/-! ### Polynomials of whole numbers -/

def evF (c : Nat → Int) : Nat → Int → Int
  | 0, _ => 0
  | n + 1, x => c 0 + x * evF (fun k => c (k + 1)) n x
/-- A function is a polynomial of at most n coefficients. -/
def Po (n : Nat) (f : Int → Int) : Prop := ∃ c, ∀ x, f x = evF c n x
theorem evF_add : ∀ n c d x, evF (fun k => c k + d k) n x = evF c n x + evF d n x
  | 0, _, _, _ => rfl
  | n + 1, c, d, x => by
    have ih := evF_add n (fun k => c (k + 1)) (fun k => d (k + 1)) x
    show c 0 + d 0 + x * evF (fun k => c (k + 1) + d (k + 1)) n x = (c 0 + x * _) + (d 0 + x * _)
    rw [ih, Int.mul_add]; omega
theorem evF_mul (m : Int) : ∀ n c x, evF (fun k => m * c k) n x = m * evF c n x
  | 0, _, _ => (Int.mul_zero m).symm
  | n + 1, c, x => by
    have ih := evF_mul m n (fun k => c (k + 1)) x
    show m * c 0 + x * evF (fun k => m * c (k + 1)) n x = m * (c 0 + x * _)
    rw [ih, Int.mul_add, Int.mul_left_comm]
theorem evF_low : ∀ n c x, evF (fun k => if k < n then c k else 0) (n + 1) x = evF c n x
  | 0, c, x => by show 0 + x * 0 = (0 : Int); omega
  | n + 1, c, x => by
    have ih := evF_low n (fun k => c (k + 1)) x
    have e : (fun k => if k + 1 < n + 1 then c (k + 1) else 0) = fun k => if k < n then c (k + 1) else 0 := funext fun k => by
      by_cases h : k < n
      · rw [if_pos h, if_pos (by omega)]
      · rw [if_neg h, if_neg (by omega)]
    show (if 0 < n + 1 then c 0 else 0) + x * evF (fun k => if k + 1 < n + 1 then c (k + 1) else 0) (n + 1) x = c 0 + x * _
    rw [e, ih, if_pos (by omega)]
theorem Po.add {n : Nat} {f g : Int → Int} (hf : Po n f) (hg : Po n g) : Po n fun x => f x + g x := by
  obtain ⟨c, hc⟩ := hf
  obtain ⟨d, hd⟩ := hg
  exact ⟨_, fun x => by rw [evF_add n c d, ← hc, ← hd]⟩
theorem Po.mul {n : Nat} {f : Int → Int} (m : Int) (hf : Po n f) : Po n fun x => m * f x := by
  obtain ⟨c, hc⟩ := hf
  exact ⟨_, fun x => by rw [evF_mul m n c, ← hc]⟩
theorem Po.up {n : Nat} {f : Int → Int} (hf : Po n f) : Po (n + 1) f := by
  obtain ⟨c, hc⟩ := hf
  exact ⟨_, fun x => by rw [evF_low n c, hc]⟩
theorem Po.le {n m : Nat} {f : Int → Int} (h : n ≤ m) (hf : Po n f) : Po m f := by
  induction m with
  | zero => have : n = 0 := by omega
            subst this; exact hf
  | succ m ih =>
    by_cases e : n = m + 1
    · subst e; exact hf
    · exact (ih (by omega)).up
theorem Po.var {n : Nat} {f : Int → Int} (hf : Po n f) : Po (n + 1) fun x => x * f x := by
  obtain ⟨c, hc⟩ := hf
  refine ⟨fun k => match k with | 0 => 0 | k + 1 => c k, fun x => ?_⟩
  show x * f x = 0 + x * evF c n x
  rw [hc]; omega
theorem Po.sub {n : Nat} {f : Int → Int} (r : Int) (hf : Po n f) : Po (n + 1) fun x => f x * (x - r) := by
  obtain ⟨c, hc⟩ := hf.var.add (hf.up.mul (-r))
  refine ⟨c, fun x => ?_⟩
  rw [← hc]
  show f x * (x - r) = x * f x + -r * f x
  rw [Int.mul_sub, Int.neg_mul, Int.mul_comm x, Int.mul_comm r]; omega
theorem Po.const (m : Int) : Po 1 fun _ => m := ⟨fun _ => m, fun x => by show m = m + x * 0; omega⟩
theorem Po.zero (n : Nat) : Po n fun _ => 0 := by
  refine ⟨fun _ => 0, fun x => ?_⟩
  induction n with
  | zero => rfl
  | succ n ih =>
    show (0 : Int) = 0 + x * evF (fun _ => 0) n x
    have ih : (0 : Int) = evF (fun _ => 0) n x := ih
    rw [← ih, Int.mul_zero]; rfl
theorem evF_div : ∀ n (c : Nat → Int) (r : Int), ∃ q : Nat → Int, ∀ x, evF c (n + 1) x = evF c (n + 1) r + (x - r) * evF q n x
  | 0, c, r => ⟨fun _ => 0, fun x => by show c 0 + x * 0 = c 0 + r * 0 + (x - r) * 0; omega⟩
  | n + 1, c, r => by
    obtain ⟨q, hq⟩ := evF_div n (fun k => c (k + 1)) r
    refine ⟨fun k => match k with | 0 => evF (fun k => c (k + 1)) (n + 1) r | k + 1 => q k, fun x => ?_⟩
    show c 0 + x * evF (fun k => c (k + 1)) (n + 1) x = c 0 + r * evF (fun k => c (k + 1)) (n + 1) r + (x - r) * (evF (fun k => c (k + 1)) (n + 1) r + x * evF q n x)
    rw [hq x]
    generalize evF (fun k => c (k + 1)) (n + 1) r = E
    generalize evF q n x = Q
    grind
/-- With as many zeros as coefficients it is 0. -/
theorem Po.none : ∀ {n : Nat} {f : Int → Int}, Po n f → ∀ z : Nat → Int, (∀ i j, i < n → j < i → z j ≠ z i) → (∀ i, i < n → f (z i) = 0) → ∀ x, f x = 0
  | 0, f, hf, z, _, _, x => by obtain ⟨c, hc⟩ := hf; exact hc x
  | n + 1, f, hf, z, hd, hz, x => by
    obtain ⟨c, hc⟩ := hf
    obtain ⟨q, hq⟩ := evF_div n c (z n)
    have h0 : evF c (n + 1) (z n) = 0 := by rw [← hc]; exact hz n (by omega)
    have ih := Po.none (n := n) (f := evF q n) ⟨q, fun _ => rfl⟩ z (fun i j hi hj => hd i j (by omega) hj) (fun i hi => by
      have h1 := hz i (by omega)
      rw [hc, hq, h0, Int.zero_add] at h1
      rcases Int.mul_eq_zero.1 h1 with h | h
      · exact absurd (show z i = z n by omega) (hd n i (by omega) hi)
      · exact h) x
    rw [hc, hq, h0, ih, Int.mul_zero]; rfl

/-! ### There is just one path through as many sightings as it has numbers -/

def cfP : Nat → Int
  | 0 => 6
  | 1 => 6
  | 2 => 3
  | _ => 1
def nwP : Nat → Int → Int
  | 0, _ => 1
  | k + 1, x => nwP k x * (x - k)
def pzP (p : Nat → Int) : Nat → Int → Int
  | 0, _ => 0
  | n + 1, x => pzP p n x + cfP n * p n * nwP n x
theorem nw_all : ((List.range 100).all fun d => (List.range 4).all fun k => decide (6 * (wy d k : Int) = cfP k * nwP k d)) = true := by decide +kernel
theorem nw_at {d k : Nat} (hd : d < 100) (hk : k < 4) : 6 * (wy d k : Int) = cfP k * nwP k d :=
  of_decide_eq_true (List.all_eq_true.1 (List.all_eq_true.1 nw_all d (List.mem_range.2 hd)) k (List.mem_range.2 hk))
theorem nw_po : ∀ k, Po (k + 1) (nwP k)
  | 0 => Po.const 1
  | k + 1 => (nw_po k).sub k
theorem pz_po (p : Nat → Int) : ∀ n, Po n (pzP p n)
  | 0 => Po.zero 0
  | n + 1 => ((pz_po p n).up).add ((nw_po n).mul _)
theorem pz_at {p : Nat → Int} {d : Nat} (hd : d < 100) : ∀ n, n ≤ 4 → 6 * plc p d n = pzP p n d
  | 0, _ => rfl
  | n + 1, h => by
    have ih := pz_at (p := p) hd n (by omega)
    have h1 := nw_at (d := d) (k := n) hd (by omega)
    show 6 * (plc p d n + p n * wy d n) = pzP p n d + cfP n * p n * nwP n d
    rw [← ih, Int.mul_add, Int.mul_left_comm 6, h1, Int.mul_assoc, Int.mul_left_comm (p n)]
section
variable {n : Nat} {x y : Nat → Int}
theorem tm_po (x : Nat → Int) (i : Nat) : ∀ j, Po (if i < j then j else j + 1) fun d => tmP x d i j
  | 0 => by rw [if_neg (Nat.not_lt_zero _)]; exact Po.const 1
  | j + 1 => by
    have ih := tm_po x i j
    by_cases e : j = i
    · subst e
      rw [if_neg (Nat.lt_irrefl _)] at ih
      rw [if_pos (Nat.lt_succ_self _)]
      have : (fun d => tmP x d j (j + 1)) = fun d => tmP x d j j := funext fun d => by
        show tmP x d j j * (if j = j then 1 else d - x j) = _
        rw [if_pos rfl, Int.mul_one]
      rw [this]; exact ih
    · have h2 : (fun d => tmP x d i (j + 1)) = fun d => tmP x d i j * (d - x j) := funext fun d => by
        show tmP x d i j * (if j = i then 1 else d - x j) = _
        rw [if_neg e]
      rw [h2]
      by_cases h : i < j
      · rw [if_pos h] at ih
        rw [if_pos (by omega)]
        exact ih.sub _
      · rw [if_neg h] at ih
        rw [if_neg (by omega)]
        exact ih.sub _
theorem nu_po (n : Nat) (x y : Nat → Int) : ∀ i, i ≤ n → Po n fun d => nuP n x y d i
  | 0, _ => Po.zero n
  | i + 1, h => by
    have ih := nu_po n x y i (by omega)
    have h1 := tm_po x i n
    rw [if_pos (by omega)] at h1
    have h2 := h1.mul (y i * trP (gq x i n) n)
    have e : (fun d => nuP n x y d (i + 1)) = fun d => nuP n x y d i + (y i * trP (gq x i n) n) * tmP x d i n := funext fun d => by
      show nuP n x y d i + y i * tmP x d i n * trP (gq x i n) n = _
      rw [Int.mul_right_comm]
    rw [e]
    exact ih.add h2
theorem tm_zero {m i : Nat} (hm : m ≠ i) : ∀ j, m < j → tmP x (x m) i j = 0
  | 0, h => absurd h (Nat.not_lt_zero _)
  | j + 1, h => by
    show tmP x (x m) i j * (if j = i then 1 else x m - x j) = 0
    by_cases e : m = j
    · subst e
      rw [if_neg hm, Int.sub_self, Int.mul_zero]
    · rw [tm_zero hm j (by omega), Int.zero_mul]
theorem tm_self {i : Nat} (hi : i < n) : ∀ j, j ≤ n → tmP x (x i) i j * trP (gq x i j) n = trP (df x) n
  | 0, _ => by
    show 1 * _ = _
    rw [gq_zero, Int.one_mul]
  | j + 1, h => by
    have ih := tm_self hi j (by omega)
    show tmP x (x i) i j * (if j = i then 1 else x i - x j) * _ = _
    by_cases e : j = i
    · subst e
      rw [if_pos rfl, Int.mul_one, ← gq_skip]; exact ih
    · rw [if_neg e, ← ih, gq_step x hi (by omega) e, Int.mul_assoc, Int.mul_comm (x i - x j)]
theorem nu_node {m : Nat} (hm : m < n) : ∀ i, i ≤ n → nuP n x y (x m) i = if m < i then y m * trP (df x) n else 0
  | 0, _ => by rw [if_neg (Nat.not_lt_zero _)]; rfl
  | i + 1, h => by
    have ih := nu_node hm i (by omega)
    show nuP n x y (x m) i + y i * tmP x (x m) i n * trP (gq x i n) n = _
    by_cases e : m = i
    · subst e
      rw [ih, if_neg (Nat.lt_irrefl _), if_pos (Nat.lt_succ_self _), Int.mul_assoc, tm_self hm n (Nat.le_refl _), Int.zero_add]
    · rw [tm_zero e n hm, Int.mul_zero, Int.zero_mul, Int.add_zero, ih]
      by_cases h1 : m < i
      · rw [if_pos h1, if_pos (by omega)]
      · rw [if_neg h1, if_neg (by omega)]
theorem nu_node' {m : Nat} (hm : m < n) : nuP n x y (x m) n = y m * trP (df x) n := by rw [nu_node hm n (Nat.le_refl _), if_pos hm]
theorem cs_plc (q : Nat → Int) : ∀ n, n ≤ 4 → ∀ d, d < n → plc (csP n q) d n = q d
  | 0, _, d, h => absurd h (Nat.not_lt_zero _)
  | 1, _, d, h => by
    match d, h with
    | 0, _ => show 0 + q 0 * 1 = q 0; omega
  | 2, _, d, h => by
    match d, h with
    | 0, _ => show 0 + q 0 * 1 + (q 1 - q 0) * 0 = q 0; omega
    | 1, _ => show 0 + q 0 * 1 + (q 1 - q 0) * 1 = q 1; omega
  | 3, _, d, h => by
    match d, h with
    | 0, _ => show 0 + q 0 * 1 + (q 1 - q 0) * 0 + (q 2 - q 1 - (q 1 - q 0)) * 0 = q 0; omega
    | 1, _ => show 0 + q 0 * 1 + (q 1 - q 0) * 1 + (q 2 - q 1 - (q 1 - q 0)) * 0 = q 1; omega
    | 2, _ => show 0 + q 0 * 1 + (q 1 - q 0) * 2 + (q 2 - q 1 - (q 1 - q 0)) * 1 = q 2; omega
  | 4, _, d, h => by
    match d, h with
    | 0, _ => show 0 + q 0 * 1 + (q 1 - q 0) * 0 + (q 2 - q 1 - (q 1 - q 0)) * 0 + (q 3 - q 2 - (q 2 - q 1) - (q 2 - q 1 - (q 1 - q 0))) * 0 = q 0; omega
    | 1, _ => show 0 + q 0 * 1 + (q 1 - q 0) * 1 + (q 2 - q 1 - (q 1 - q 0)) * 0 + (q 3 - q 2 - (q 2 - q 1) - (q 2 - q 1 - (q 1 - q 0))) * 0 = q 1; omega
    | 2, _ => show 0 + q 0 * 1 + (q 1 - q 0) * 2 + (q 2 - q 1 - (q 1 - q 0)) * 1 + (q 3 - q 2 - (q 2 - q 1) - (q 2 - q 1 - (q 1 - q 0))) * 0 = q 2; omega
    | 3, _ => show 0 + q 0 * 1 + (q 1 - q 0) * 3 + (q 2 - q 1 - (q 1 - q 0)) * 3 + (q 3 - q 2 - (q 2 - q 1) - (q 2 - q 1 - (q 1 - q 0))) * 1 = q 3; omega
  | n + 5, h, _, _ => by omega
theorem plc_cs (p q : Nat → Int) : ∀ n, n ≤ 4 → (∀ d, d < n → q d = plc p d n) → ∀ k, k < n → csP n q k = p k
  | 0, _, _, k, h => absurd h (Nat.not_lt_zero _)
  | 1, _, hq, k, h => by
    have h0 : q 0 = 0 + p 0 * 1 := hq 0 (by omega)
    match k, h with
    | 0, _ => show q 0 = p 0; omega
  | 2, _, hq, k, h => by
    have h0 : q 0 = 0 + p 0 * 1 + p 1 * 0 := hq 0 (by omega)
    have h1 : q 1 = 0 + p 0 * 1 + p 1 * 1 := hq 1 (by omega)
    match k, h with
    | 0, _ => show q 0 = p 0; omega
    | 1, _ => show q 1 - q 0 = p 1; omega
  | 3, _, hq, k, h => by
    have h0 : q 0 = 0 + p 0 * 1 + p 1 * 0 + p 2 * 0 := hq 0 (by omega)
    have h1 : q 1 = 0 + p 0 * 1 + p 1 * 1 + p 2 * 0 := hq 1 (by omega)
    have h2 : q 2 = 0 + p 0 * 1 + p 1 * 2 + p 2 * 1 := hq 2 (by omega)
    match k, h with
    | 0, _ => show q 0 = p 0; omega
    | 1, _ => show q 1 - q 0 = p 1; omega
    | 2, _ => show q 2 - q 1 - (q 1 - q 0) = p 2; omega
  | 4, _, hq, k, h => by
    have h0 : q 0 = 0 + p 0 * 1 + p 1 * 0 + p 2 * 0 + p 3 * 0 := hq 0 (by omega)
    have h1 : q 1 = 0 + p 0 * 1 + p 1 * 1 + p 2 * 0 + p 3 * 0 := hq 1 (by omega)
    have h2 : q 2 = 0 + p 0 * 1 + p 1 * 2 + p 2 * 1 + p 3 * 0 := hq 2 (by omega)
    have h3 : q 3 = 0 + p 0 * 1 + p 1 * 3 + p 2 * 3 + p 3 * 1 := hq 3 (by omega)
    match k, h with
    | 0, _ => show q 0 = p 0; omega
    | 1, _ => show q 1 - q 0 = p 1; omega
    | 2, _ => show q 2 - q 1 - (q 1 - q 0) = p 2; omega
    | 3, _ => show q 3 - q 2 - (q 2 - q 1) - (q 2 - q 1 - (q 1 - q 0)) = p 3; omega
  | n + 5, h, _, _, _ => by omega
/-- The course through sightings goes through them. -/
theorem th_on (h : Dy n x) (hw : alW n x y = true) {m : Nat} (hm : m < n) : plc (thP n x y) (x m).toNat n = y m := by
  have h4 := h.le
  have hD := den_pos h
  have e0 : thP n x y = csP n (qP n x y) := by unfold thP; rw [hw]
  rw [e0]
  have hq : ∀ d : Nat, d < n → trP (df x) n * qP n x y d = nuP n x y d n := fun d hd => by
    have h1 : whP n x y d = true := allF_iff.1 hw d hd
    have h2 : (nuP n x y d n).tmod (trP (df x) n) = 0 := of_decide_eq_true h1
    have h3 := Int.mul_tdiv_add_tmod (nuP n x y d n) (trP (df x) n)
    rw [h2, Int.add_zero] at h3
    exact h3
  have hz := (((nu_po n x y n (Nat.le_refl _)).mul 6).add ((pz_po (csP n (qP n x y)) n).mul (-(trP (df x) n)))).none (fun i => (i : Int)) (fun i j hi hj => by omega) (fun i hi => by
    show 6 * nuP n x y (i : Int) n + -(trP (df x) n) * pzP _ n (i : Int) = 0
    rw [← pz_at (by omega) n h4, cs_plc _ n h4 i hi, ← hq i hi, Int.neg_mul, Int.mul_left_comm]
    omega) (x m)
  have hz' : 6 * nuP n x y (x m) n + -(trP (df x) n) * pzP (csP n (qP n x y)) n (x m) = 0 := hz
  have hr := h.rg m hm
  have e1 : x m = ((x m).toNat : Int) := by omega
  rw [nu_node' hm] at hz'
  have e2 : pzP (csP n (qP n x y)) n (x m) = 6 * plc (csP n (qP n x y)) (x m).toNat n := by rw [pz_at (by omega) n h4, ← e1]
  rw [e2] at hz'
  generalize plc (csP n (qP n x y)) (x m).toNat n = P at *
  generalize trP (df x) n = D at *
  have h5 : 6 * D * (y m - P) = 0 := by grind
  rcases Int.mul_eq_zero.1 h5 with h6 | h6 <;> omega
/-- A path through sightings is the course through them. -/
theorem th_of (h : Dy n x) (p : Nat → Int) (hp : ∀ m, m < n → plc p (x m).toNat n = y m) : alW n x y = true ∧ ∀ k, k < n → thP n x y k = p k := by
  have h4 := h.le
  have hD := den_pos h
  have hz := (((nu_po n x y n (Nat.le_refl _)).mul 6).add ((pz_po p n).mul (-(trP (df x) n)))).none x (fun i j hi hj => by have := h.up i j hi hj; omega) (fun i hi => by
    have hr := h.rg i hi
    show 6 * nuP n x y (x i) n + -(trP (df x) n) * pzP p n (x i) = 0
    have e1 : x i = ((x i).toNat : Int) := by omega
    have e2 : pzP p n (x i) = 6 * plc p (x i).toNat n := by rw [pz_at (by omega) n h4, ← e1]
    rw [nu_node' hi, e2, hp i hi]
    grind)
  have hq : ∀ d : Nat, d < 100 → nuP n x y d n = trP (df x) n * plc p d n := fun d hd => by
    have h1 : 6 * nuP n x y (d : Int) n + -(trP (df x) n) * pzP p n (d : Int) = 0 := hz d
    rw [← pz_at hd n h4] at h1
    generalize plc p d n = P at *
    generalize trP (df x) n = D at *
    generalize nuP n x y (d : Int) n = N at *
    grind
  have hw : alW n x y = true := allF_t fun d hd => by
    unfold whP
    rw [hq d (by omega), Int.mul_tmod_right]
    rfl
  refine ⟨hw, fun k hk => ?_⟩
  have e0 : thP n x y = csP n (qP n x y) := by unfold thP; rw [hw]
  rw [e0]
  refine plc_cs p _ n h4 (fun d hd => ?_) k hk
  unfold qP
  rw [hq d (by omega), Int.mul_tdiv_cancel_left _ (by omega)]
end
end Go.Proofs.K
namespace Go.Proofs.K
open Go.As
set_option maxRecDepth 20000
set_option linter.unusedVariables false
set_option linter.unusedSimpArgs false
/-! ### The paths of a log: those on which enough sightings lie -/

section
variable {p q : Nat → Bool}
theorem cnF_sub : ∀ n, (∀ i, i < n → p i = true → q i = true) → cnF p n ≤ cnF q n
  | 0, _ => Nat.le_refl _
  | n + 1, h => by
    have ih := cnF_sub n fun i hi => h i (by omega)
    have h1 := h n (by omega)
    show cnF p n + (if p n = true then 1 else 0) ≤ cnF q n + (if q n = true then 1 else 0)
    by_cases e : p n = true
    · rw [if_pos e, if_pos (h1 e)]; omega
    · rw [if_neg e]; omega
theorem cnF_full : ∀ n, cnF p n = n → ∀ i, i < n → p i = true
  | 0, _, i, h => absurd h (Nat.not_lt_zero _)
  | n + 1, h, i, hi => by
    have h0 := cnF_le p n
    have h1 : cnF p n + (if p n = true then 1 else 0) = n + 1 := h
    by_cases e : p n = true
    · rw [if_pos e] at h1
      by_cases ei : i = n
      · rw [ei]; exact e
      · exact cnF_full n (by omega) i (by omega)
    · rw [if_neg e] at h1; omega
theorem slF_at {n i : Nat} (hi : i < n) (hp : p i = true) : cnF p i < cnF p n ∧ ∀ a, slF p a n (cnF p i) = a i := by
  have h1 := (slF_yes (a := fun _ => 0) hp).1
  have h2 := cnF_mono (p := p) (show i + 1 ≤ n by omega)
  have h3 : cnF p i < cnF p n := by omega
  obtain ⟨m, g1, g2, g3, g4⟩ := slF_mem n _ h3
  have h4 := (slF_yes (a := fun _ => 0) g2).1
  rcases Nat.lt_trichotomy m i with h | h | h
  · have := cnF_mono (p := p) (show m + 1 ≤ i by omega); omega
  · subst h; exact ⟨h3, g3⟩
  · have := cnF_mono (p := p) (show i + 1 ≤ m by omega); omega
/-- The first of some. -/
def fsF (p : Nat → Bool) (m : Nat) (i : Nat) : Bool := p i && decide (cnF p i < m)
theorem fs_cn (m : Nat) : ∀ n, cnF (fsF p m) n = min (cnF p n) m
  | 0 => by show 0 = min 0 m; omega
  | n + 1 => by
    have ih := fs_cn m n
    show cnF (fsF p m) n + (if fsF p m n = true then 1 else 0) = min (cnF p n + (if p n = true then 1 else 0)) m
    rw [ih]
    unfold fsF
    by_cases e : p n = true
    · rw [e, if_pos rfl, Bool.true_and]
      by_cases h : cnF p n < m
      · rw [decide_eq_true h, if_pos rfl]; omega
      · rw [decide_eq_false h, if_neg Bool.false_ne_true]; omega
    · rw [Bool.not_eq_true] at e
      rw [e, Bool.false_and, if_neg Bool.false_ne_true]; omega
def bnF : (Nat → Bool) → Nat → Nat
  | _, 0 => 0
  | p, n + 1 => 2 * bnF (fun i => p (i + 1)) n + (p 0).toNat
theorem bn_lt : ∀ (n : Nat) (p : Nat → Bool), bnF p n < 2 ^ n
  | 0, _ => Nat.one_pos
  | n + 1, p => by
    have ih := bn_lt n fun i => p (i + 1)
    have h1 : (p 0).toNat ≤ 1 := by cases p 0 <;> decide
    show 2 * bnF (fun i => p (i + 1)) n + (p 0).toNat < 2 ^ (n + 1)
    rw [Nat.pow_succ]; omega
theorem bn_bit : ∀ (n : Nat) (p : Nat → Bool) (i : Nat), i < n → (bnF p n).testBit i = p i
  | 0, _, i, h => absurd h (Nat.not_lt_zero _)
  | n + 1, p, i, h => by
    have h1 : (p 0).toNat ≤ 1 := by cases p 0 <;> decide
    match i, h with
    | 0, _ =>
      show Nat.testBit (2 * bnF (fun i => p (i + 1)) n + (p 0).toNat) 0 = p 0
      rw [Nat.testBit_zero]
      cases p 0 with
      | true => exact decide_eq_true (by show (2 * _ + 1) % 2 = 1; omega)
      | false => exact decide_eq_false (by show ¬ (2 * _ + 0) % 2 = 1; omega)
    | i + 1, h =>
      show Nat.testBit (2 * bnF (fun i => p (i + 1)) n + (p 0).toNat) (i + 1) = p (i + 1)
      rw [Nat.testBit_succ, show (2 * bnF (fun i => p (i + 1)) n + (p 0).toNat) / 2 = bnF (fun i => p (i + 1)) n from by omega]
      exact bn_bit n (fun i => p (i + 1)) i (by omega)
end
theorem plc_z {p : Nat → Int} {m d : Nat} (hm : m ≤ 4) (hz : ∀ k, m ≤ k → k < 4 → p k = 0) : plc p d 4 = plc p d m := by
  rw [← plc_cut (m := m) (a := p) 4 hm]
  refine plc_congr 4 fun k hk => ?_
  unfold cut
  by_cases h : k < m
  · rw [if_pos h]
  · rw [if_neg h, hz k (by omega) hk]
theorem th_z {n : Nat} {x y : Nat → Int} {k : Nat} (h : n ≤ k) : thP n x y k = 0 := by
  unfold thP
  cases alW n x y with
  | true => show cut n _ k = 0; unfold cut; rw [if_neg (by omega)]
  | false => rfl
theorem c4_f4 {p : Nat → Int} {c : C4} (h : ∀ k, k < 4 → p k = f4 c k) : c4 p = c := by
  unfold c4
  rw [h 0 (by omega), h 1 (by omega), h 2 (by omega), h 3 (by omega)]
  rfl
section
variable {D n : Nat} {a b : Nat → Int}
/-- Those that lie on a course. -/
theorem psF_at {p : Nat → Int} {i : Nat} : psF p a b i = true ↔ plc p (a i).toNat 4 = b i := by
  unfold psF
  exact decide_eq_true_iff
/-- The course through some sightings goes through them. -/
theorem th_ps (l : Lg n a b) {s : Nat → Bool} (h4 : cnF s n ≤ 4) (hw : alW (cnF s n) (slF s a n) (slF s b n) = true) {i : Nat} (hi : i < n) (hs : s i = true) : psF (thP (cnF s n) (slF s a n) (slF s b n)) a b i = true := by
  obtain ⟨h1, h2⟩ := slF_at hi hs
  have h3 := th_on (slF_dy h4 l.rg l.up) hw h1
  rw [h2, h2] at h3
  rw [psF_at, plc_z h4 fun k hk _ => th_z hk]
  exact h3
/-- A path on which some sightings lie is the course through them. -/
theorem ps_th (l : Lg n a b) {s : Nat → Bool} (h4 : cnF s n ≤ 4) {p : Nat → Int} (hz : ∀ k, cnF s n ≤ k → k < 4 → p k = 0) (hp : ∀ i, i < n → s i = true → psF p a b i = true) : alW (cnF s n) (slF s a n) (slF s b n) = true ∧ ∀ k, k < 4 → thP (cnF s n) (slF s a n) (slF s b n) k = p k := by
  obtain ⟨h1, h2⟩ := th_of (slF_dy h4 l.rg l.up) (y := slF s b n) p fun m hm => by
    obtain ⟨i, g1, g2, g3, g4⟩ := slF_mem n m hm
    rw [g3, g3, ← plc_z h4 hz]
    exact psF_at.1 (hp i g1 g2)
  refine ⟨h1, fun k hk => ?_⟩
  by_cases e : k < cnF s n
  · exact h2 k e
  · rw [hz k (by omega) hk, th_z (by omega)]
/-- Which courses are paths of a log. -/
theorem mpS_iff (hD : D ≤ 3) (l : Lg n a b) {c : C4} : c ∈ mpS D n a b (2 ^ n) ↔ (∀ k, D < k → k < 4 → f4 c k = 0) ∧ D + 1 ≤ cnC n a b c := by
  constructor
  · intro h
    obtain ⟨g, _, hg, hw, rfl⟩ := mpS_mem _ h
    refine ⟨fun k h1 h2 => ?_, ?_⟩
    · rw [f4_at h2]
      exact th_z (by omega)
    · rw [cnC_eq, ← hg]
      exact cnF_sub n fun i hi hb => th_ps l (by omega) hw hi hb
  · rintro ⟨hz, hc⟩
    have hcn := fs_cn (p := psF (f4 c) a b) (D + 1) n
    have hc' : D + 1 ≤ cnF (psF (f4 c) a b) n := hc
    rw [Nat.min_eq_right hc'] at hcn
    have hb := bn_bit n (fsF (psF (f4 c) a b) (D + 1))
    have hl := bn_lt n (fsF (psF (f4 c) a b) (D + 1))
    generalize bnF (fsF (psF (f4 c) a b) (D + 1)) n = g at *
    have hg : cnF g.testBit n = D + 1 := by rw [cnF_congr n hb, hcn]
    obtain ⟨h1, h2⟩ := ps_th l (s := g.testBit) (by omega) (p := f4 c) (fun k hk => hz k (by omega)) fun i hi hs => by
      rw [hb i hi] at hs
      unfold fsF at hs
      rw [Bool.and_eq_true] at hs
      exact hs.1
    have h3 := mpS_all (D := D) (a := a) (b := b) _ g hl hg h1
    rwa [show c4 (crG n a b g) = c from c4_f4 h2] at h3
end
end Go.Proofs.K
namespace Go.Proofs.K
open Go.As
set_option maxRecDepth 20000
set_option linter.unusedVariables false
set_option linter.unusedSimpArgs false
/-! ### What is told of paths -/

section
variable {cn : C4 → Nat}
theorem prQ_mem {q : List C4} {c : C4} (h : c ∈ q) : ∃ e ∈ prQ q, e.1 = c := by
  have h1 : c ∈ (prQ q).map (·.1) := by rw [prQ_keys]; exact List.mem_reverse.2 h
  obtain ⟨e, he, h2⟩ := List.mem_map.1 h1
  exact ⟨e, he, h2⟩
theorem mx_ge {q : List C4} {c : C4} (h : c ∈ q) : cn c ≤ mxC cn (prQ q) := by
  obtain ⟨e, he, rfl⟩ := prQ_mem h
  exact mxC_ge he
theorem prQ_ne {q : List C4} (h : q ≠ []) : prQ q ≠ [] := fun h2 => by
  have := prQ_len q
  rw [h2] at this
  exact h (List.length_eq_zero_iff.1 this.symm)
theorem mx_at {q : List C4} (h : q ≠ []) : ∃ c ∈ q, cn c = mxC cn (prQ q) := by
  obtain ⟨e, he, h2⟩ := mxC_at (cn := cn) (prQ_ne h)
  exact ⟨e.1, prQ_sub he, h2⟩
theorem len_one {α : Type} {l : List α} (h0 : l ≠ []) (hn : l.Nodup) (h : ∀ x ∈ l, ∀ y ∈ l, x = y) : l.length = 1 := by
  match l, h0, hn, h with
  | [x], _, _, _ => rfl
  | x :: y :: l, _, hn, h =>
    have e := h x (by simp) y (by simp)
    have := (List.nodup_cons.1 hn).1
    rw [e] at this
    exact absurd (List.mem_cons_self ..) this
/-- Just one best path. -/
theorem bst_one {q : List C4} (hq : q.Nodup) (h0 : q ≠ []) (h : ∀ x ∈ q, ∀ y ∈ q, cn x = mxC cn (prQ q) → cn y = mxC cn (prQ q) → x = y) : (bstL cn (prQ q)).length = 1 := by
  have hb : ∀ e ∈ bstL cn (prQ q), e ∈ prQ q ∧ cn e.1 = mxC cn (prQ q) := fun e he => by
    obtain ⟨h1, h2⟩ := List.mem_filter.1 he
    exact ⟨h1, of_decide_eq_true h2⟩
  refine len_one ?_ (List.Nodup.sublist List.filter_sublist (prQ_nodup _ hq)) fun x hx y hy => ?_
  · obtain ⟨e, he, h2⟩ := mxC_at (cn := cn) (prQ_ne h0)
    intro hc
    have : e ∈ bstL cn (prQ q) := List.mem_filter.2 ⟨he, decide_eq_true h2⟩
    rw [hc] at this; cases this
  · obtain ⟨x1, x2⟩ := hb x hx
    obtain ⟨y1, y2⟩ := hb y hy
    exact prQ_key hq y y1 x x1 (h x.1 (prQ_sub x1) y.1 (prQ_sub y1) x2 y2)
end
/-! ### The least degree, and the best paths of each -/

theorem fi4_cn : ∀ n, cnF fi4 n = min n 4
  | 0 => rfl
  | n + 1 => by
    show cnF fi4 n + (if fi4 n = true then 1 else 0) = _
    rw [fi4_cn n]
    unfold fi4
    by_cases h : n ≤ 3
    · rw [decide_eq_true h, if_pos rfl]; omega
    · rw [decide_eq_false h, if_neg Bool.false_ne_true]; omega
theorem dg_le {p : Nat → Int} {D : Nat} (h : ∀ k, D < k → k < 4 → p k = 0) : dgF p ≤ D := by
  unfold dgF
  by_cases h3 : p 3 ≠ 0
  · rw [if_pos h3]
    apply Classical.byContradiction; intro hc
    exact h3 (h 3 (by omega) (by omega))
  rw [if_neg h3]
  by_cases h2 : p 2 ≠ 0
  · rw [if_pos h2]
    apply Classical.byContradiction; intro hc
    exact h2 (h 2 (by omega) (by omega))
  rw [if_neg h2]
  by_cases h1 : p 1 ≠ 0
  · rw [if_pos h1]
    apply Classical.byContradiction; intro hc
    exact h1 (h 1 (by omega) (by omega))
  rw [if_neg h1]
  exact Nat.zero_le _
theorem dg_z (p : Nat → Int) : dgF p ≤ 3 ∧ (∀ k, dgF p < k → k < 4 → p k = 0) ∧ (0 < dgF p → p (dgF p) ≠ 0) := by
  unfold dgF
  by_cases h3 : p 3 ≠ 0
  · rw [if_pos h3]
    exact ⟨by omega, fun k h1 h2 => by omega, fun _ => h3⟩
  rw [if_neg h3]
  have h3 : p 3 = 0 := Classical.not_not.1 h3
  by_cases h2 : p 2 ≠ 0
  · rw [if_pos h2]
    exact ⟨by omega, fun k h1 h4 => by rw [show k = 3 by omega]; exact h3, fun _ => h2⟩
  rw [if_neg h2]
  have h2 : p 2 = 0 := Classical.not_not.1 h2
  by_cases h1 : p 1 ≠ 0
  · rw [if_pos h1]
    refine ⟨by omega, fun k h1 h4 => ?_, fun _ => h1⟩
    have : k = 2 ∨ k = 3 := by omega
    rcases this with rfl | rfl
    · exact h2
    · exact h3
  rw [if_neg h1]
  have h1 : p 1 = 0 := Classical.not_not.1 h1
  refine ⟨by omega, fun k h5 h4 => ?_, fun h => absurd h (Nat.lt_irrefl _)⟩
  have : k = 1 ∨ k = 2 ∨ k = 3 := by omega
  rcases this with rfl | rfl | rfl
  · exact h1
  · exact h2
  · exact h3
/-- The course through the first four, and whether all lie on it. -/
def lsP (n : Nat) (a b : Nat → Int) : Nat → Int := thP (cnF fi4 n) (slF fi4 a n) (slF fi4 b n)
def lsB (n : Nat) (a b : Nat → Int) : Bool := alW (cnF fi4 n) (slF fi4 a n) (slF fi4 b n) && decide (cnF (psF (lsP n a b) a b) n = n)
theorem ls_nil {a b : Nat → Int} : lsB 0 a b = true ∧ dgF (lsP 0 a b) = 0 := ⟨rfl, rfl⟩
section
variable {D n : Nat} {a b : Nat → Int}
theorem psF_congr {p q : Nat → Int} (h : ∀ k, k < 4 → p k = q k) : psF p a b = psF q a b := funext fun i => by
  unfold psF
  rw [plc_congr 4 h]
theorem ls_all (hD : D ≤ 3) (l : Lg n a b) {c : C4} (hc : c ∈ mpS D n a b (2 ^ n)) (hn : cnC n a b c = n) : lsB n a b = true ∧ dgF (lsP n a b) ≤ D ∧ ∀ k, k < 4 → lsP n a b k = f4 c k := by
  obtain ⟨hz, hge⟩ := (mpS_iff hD l).1 hc
  have e4 := fi4_cn n
  obtain ⟨h1, h2⟩ := ps_th l (s := fi4) (fi4_le n) (p := f4 c) (fun k hk => hz k (by omega)) fun i hi _ => cnF_full n hn i hi
  have h2 : ∀ k, k < 4 → lsP n a b k = f4 c k := h2
  refine ⟨?_, dg_le fun k hk hk4 => by rw [h2 k hk4, hz k hk hk4], h2⟩
  unfold lsB
  rw [h1, psF_congr h2, Bool.true_and]
  exact decide_eq_true hn
theorem ls_least (l : Lg n a b) (hn : 0 < n) (h : lsB n a b = true) : dgF (lsP n a b) ≤ 3 ∧ c4 (lsP n a b) ∈ mpS (dgF (lsP n a b)) n a b (2 ^ n) ∧ cnC n a b (c4 (lsP n a b)) = n := by
  unfold lsB at h
  rw [Bool.and_eq_true, decide_eq_true_eq] at h
  obtain ⟨g1, g2, g3⟩ := dg_z (lsP n a b)
  have hc : cnC n a b (c4 (lsP n a b)) = n := by rw [cnC_eq]; exact h.2
  refine ⟨g1, (mpS_iff g1 l).2 ⟨fun k h1 h2 => by rw [f4_at h2]; exact g2 k h1 h2, ?_⟩, hc⟩
  rw [hc]
  by_cases e : 0 < dgF (lsP n a b)
  · apply Classical.byContradiction
    intro hlt
    have e4 := fi4_cn n
    exact g3 e (th_z (by omega))
  · omega
theorem ls_one (hD : D ≤ 3) (l : Lg n a b) {c c' : C4} (hc : c ∈ mpS D n a b (2 ^ n)) (hn : cnC n a b c = n) (hc' : c' ∈ mpS D n a b (2 ^ n)) (hn' : cnC n a b c' = n) : c = c' := by
  have h1 := (ls_all hD l hc hn).2.2
  have h2 := (ls_all hD l hc' hn').2.2
  rw [← c4_f4 h1, ← c4_f4 h2]
end
end Go.Proofs.K
namespace Go.Proofs.K
open Go.As
set_option maxRecDepth 20000
set_option linter.unusedVariables false
set_option linter.unusedSimpArgs false
/-! ### The best paths of each degree -/

theorem ckL_deg {D : Int} {k n : Nat} {a b : Nat → Int} (h : ckL D n a b = 0) (hk : k ≤ 3) : ckL k n a b = 0 := by
  unfold ckL at h ⊢
  rw [if_pos (show (0 : Int) ≤ k ∧ (k : Int) ≤ 3 by omega)]
  by_cases hD : 0 ≤ D ∧ D ≤ 3
  · rw [if_pos hD] at h; exact h
  · rw [if_neg hD] at h; cases h
/-- What Most, Path and Count answer for a degree, beside Least. -/
theorem deg_facts (D : Int) (n : Nat) (a b : Nat → Int) (hv : ckL D n a b = 0) (h0 : 0 < n) (k : Nat) (hk : k ≤ 3) :
    ∃ m f : Int, (f = 0 ∧ (k : Int) + 1 ≤ m ∧ m ≤ n ∨ f = 23 ∧ m = 0) ∧ (∀ h, CallOk Try.prog 29 [lgV k false n a b] h (.tup [.int .i64 m, .int .i64 f]) h) ∧ (f = 0 → m = n → lsB n a b = true ∧ dgF (lsP n a b) ≤ k) ∧
      (lsB n a b = true → k = dgF (lsP n a b) → f = 0 ∧ m = n ∧ (∀ h, CallOk Try.prog 31 [lgV k false n a b] h (.tup [.int .i64 1, .int .i64 0]) h) ∧ ∃ g : Nat → Int, (0 < k → g k ≠ 0) ∧ ∀ h, CallOk Try.prog 35 [lgV k false n a b] h (.tup [.rsl false 1 (k + 1) (iG g), .int .i64 0]) h) := by
  have hv' := ckL_deg (k := k) hv hk
  have l := (ckL_lg hv).2
  have kM := fun h => mostP_ok h k hk false n a b hv'
  have kC := fun h => countP_ok h k hk false n a b hv'
  have hnd := mpS_nodup k n a b (2 ^ n)
  cases hF : mpS k n a b (2 ^ n) with
  | nil =>
    rw [hF] at kM
    refine ⟨0, 23, .inr ⟨rfl, rfl⟩, kM, fun h => absurd h (by decide), fun hz hk2 => ?_⟩
    have := (ls_least l h0 hz).2.1
    rw [← hk2, hF] at this
    cases this
  | cons c q =>
    have hm : ∀ x, x ∈ c :: q → k + 1 ≤ cnC n a b x ∧ cnC n a b x ≤ n := fun x hx => by
      rw [← hF] at hx
      exact ⟨((mpS_iff hk l).1 hx).2, cnF_le _ _⟩
    have hone : ∀ x ∈ c :: q, ∀ y ∈ c :: q, cnC n a b x = n → cnC n a b y = n → x = y := fun x hx y hy => by
      rw [← hF] at hx hy
      exact fun h1 h2 => ls_one hk l hx h1 hy h2
    obtain ⟨x, hx, hxm⟩ := mx_at (cn := cnC n a b) (q := c :: q) (by simp)
    have hxa := fun hn => ls_all hk l (c := x) (by rw [hF]; exact hx) hn
    have hxb := hm x hx
    have hge := fun y hy => mx_ge (cn := cnC n a b) (q := c :: q) (c := y) hy
    have hb1 := bst_one (cn := cnC n a b) (q := c :: q) (by rw [← hF]; exact hnd) (by simp)
    rw [hF] at kM kC
    dsimp only at kM kC
    have hbs := best_set hF
    have kP := fun h => pathP_new h k hk false n a b hv' hF
    generalize mxC (cnC n a b) (prQ (c :: q)) = M at *
    refine ⟨M, 0, .inl ⟨rfl, by omega, by omega⟩, kM, fun _ hn => ?_, fun hz hk2 => ?_⟩
    · obtain ⟨h1, h2, _⟩ := hxa (by omega)
      exact ⟨h1, h2⟩
    · obtain ⟨g1, g2, g3⟩ := ls_least l h0 hz
      rw [← hk2, hF] at g2
      have h1 := hge _ g2
      have hMn : M = n := by omega
      subst hMn
      rw [hb1 fun x hx y hy e1 e2 => hone x hx y hy e1 e2] at kC
      obtain ⟨_, g, hg, hl, hl2⟩ := hbs
      refine ⟨rfl, rfl, kC, crG M a b g, fun hk0 => ?_, fun h => kP h g hg hl hl2⟩
      unfold lvG at hl
      rw [Bool.and_eq_true, Bool.and_eq_true, decide_eq_true_eq, decide_eq_true_eq] at hl
      have hmem := mpS_all (D := k) (a := a) (b := b) _ g hg hl.1 hl.2.1
      have hcn : cnC M a b (c4 (crG M a b g)) = M := by
        rw [cnC_eq]
        have := cnF_le (psF (crG M a b g) a b) M
        omega
      have h5 := (ls_all hk l hmem hcn).2.2 k (by omega)
      rw [f4_at (by omega)] at h5
      rw [← h5, hk2]
      exact (dg_z _).2.2 (by omega)
end Go.Proofs.K
set_option linter.unusedVariables false
namespace Go.Proofs.K
open Go.As
set_option maxRecDepth 20000
set_option linter.unusedVariables false
set_option linter.unusedSimpArgs false
/-! ### The law about the least degree -/

set_option maxHeartbeats 16000000 in
theorem lawLeast (h : As.H) (D : Int) (n : Nat) (a b : Nat → Int) (hn : n ≤ 9223372036854775807) :
    CallOk Try.prog 13 [lgV D false n a b] h (.bool true) h := by
  have kWk := fun h : As.H => wwhole.everywhere rfl h
  have kR := fun h' => checkLogR_ok h' D false n a b hn
  by_cases hg : 20 < n
  · refine CallOk.run0 Try.func13 rfl rfl rfl rfl rfl (WpR.of_vc ?_)
    (conv => whnf); (repeat' (first | ((with_reducible refine ifb_mk (fun hc => ?_) (fun hc => ?_)) <;> ((try simp only [decide_eq_true_eq, decide_eq_false_iff_not, Bool.not_eq_true', Bool.not_eq_false', Int.not_lt, Int.not_le, ne_eq, Decidable.not_not, beq_iff_eq, List.cons.injEq, and_true] at hc); (first | (exfalso; omega) | exact absurd True.intro hc | conv => whnf))) | ((with_reducible refine And.intro True.intro ?_); conv => whnf) | ((with_reducible refine CallX.all ?_); refine CallW.of_ok (kWk _) ?_; conv => whnf) | ((with_reducible refine CallX.all (f := 40) ?_); refine CallW.inline Try.func40 rfl rfl (Nat.le_of_ble_eq_true rfl) (WpR.of_vc ?_); conv => whnf) | ((with_reducible refine CallX.all (f := 22) ?_); refine CallW.inline Try.func22 rfl rfl (Nat.le_of_ble_eq_true rfl) (WpR.of_vc ?_); conv => whnf) | ((with_reducible refine And.intro ?hh ?_); (case hh => exact condA); conv => whnf) | fail))
    all_goals first | (refine ⟨[], ?_, rfl, rfl, trivial, trivs⟩; simp only [renV, renL]; (first | done | rfl | (simp; done) | (simp; omega) | grind)) | (exfalso; omega)
  by_cases hv : ckL D n a b = 0
  rotate_left
  · generalize ckL D n a b = c at *
    refine CallOk.run0 Try.func13 rfl rfl rfl rfl rfl (WpR.of_vc ?_)
    (conv => whnf); (repeat' (first | ((with_reducible refine ifb_mk (fun hc => ?_) (fun hc => ?_)) <;> ((try simp only [decide_eq_true_eq, decide_eq_false_iff_not, Bool.not_eq_true', Bool.not_eq_false', Int.not_lt, Int.not_le, ne_eq, Decidable.not_not, beq_iff_eq, List.cons.injEq, and_true] at hc); (first | (exfalso; omega) | exact absurd True.intro hc | conv => whnf))) | ((with_reducible refine And.intro True.intro ?_); conv => whnf) | ((with_reducible refine CallX.all ?_); refine CallW.of_ok (kWk _) ?_; conv => whnf) | ((with_reducible refine CallX.all ?_); refine CallW.of_ok (kR _) ?_; conv => whnf) | ((with_reducible refine grd_ex ?_); refine ex_ok (kR _) ?_; conv => whnf) | ((with_reducible refine CallX.all (f := 40) ?_); refine CallW.inline Try.func40 rfl rfl (Nat.le_of_ble_eq_true rfl) (WpR.of_vc ?_); conv => whnf) | ((with_reducible refine CallX.all (f := 22) ?_); refine CallW.inline Try.func22 rfl rfl (Nat.le_of_ble_eq_true rfl) (WpR.of_vc ?_); conv => whnf) | ((with_reducible refine And.intro ?hh ?_); (case hh => exact condA); conv => whnf) | fail))
    all_goals first | (refine ⟨[], ?_, rfl, rfl, trivial, trivs⟩; simp only [renV, renL]; (first | done | rfl | (simp; done) | (simp; omega) | grind)) | (exfalso; omega)
  have kL := fun h' => leastP_ok h' D false n a b hn hv (lsP n a b) rfl (lsB n a b) rfl
  have hd3 : n ≠ 0 → lsB n a b = true → dgF (lsP n a b) ≤ 3 := fun h0 hz => (ls_least (ckL_lg hv).2 (by omega) hz).1
  rw [hv] at kR
  by_cases h0 : n = 0
  · subst h0
    rw [ls_nil.1, ls_nil.2] at kL
    simp only [if_true] at kL
    refine CallOk.run0 Try.func13 rfl rfl rfl rfl rfl (WpR.of_vc ?_)
    (conv => whnf); (repeat' (first | ((with_reducible refine ifb_mk (fun hc => ?_) (fun hc => ?_)) <;> ((try simp only [decide_eq_true_eq, decide_eq_false_iff_not, Bool.not_eq_true', Bool.not_eq_false', Int.not_lt, Int.not_le, ne_eq, Decidable.not_not, beq_iff_eq, List.cons.injEq, and_true] at hc); (first | (exfalso; omega) | exact absurd True.intro hc | conv => whnf))) | ((with_reducible refine And.intro True.intro ?_); conv => whnf) | ((with_reducible refine CallX.all ?_); refine CallW.of_ok (kWk _) ?_; conv => whnf) | ((with_reducible refine grd_ex ?_); refine ex_ok (kWk _) ?_; conv => whnf) | ((with_reducible refine CallX.all ?_); refine CallW.of_ok (kR _) ?_; conv => whnf) | ((with_reducible refine grd_ex ?_); refine ex_ok (kR _) ?_; conv => whnf) | ((with_reducible refine CallX.all ?_); refine CallW.of_ok (kL _) ?_; conv => whnf) | ((with_reducible refine CallX.all (f := 40) ?_); refine CallW.inline Try.func40 rfl rfl (Nat.le_of_ble_eq_true rfl) (WpR.of_vc ?_); conv => whnf) | ((with_reducible refine CallX.all (f := 22) ?_); refine CallW.inline Try.func22 rfl rfl (Nat.le_of_ble_eq_true rfl) (WpR.of_vc ?_); conv => whnf) | ((with_reducible refine And.intro ?hh ?_); (case hh => exact condA); conv => whnf) | fail))
    all_goals first | (refine ⟨[], ?_, rfl, rfl, trivial, trivs⟩; simp only [renV, renL]; (first | done | rfl | (simp; done) | (simp; omega) | grind)) | (exfalso; omega)
  have hd3 := hd3 h0
  obtain ⟨m0, f0, o0, c0, p0, q0⟩ := deg_facts D n a b hv (by omega) 0 (by omega)
  obtain ⟨m1, f1, o1, c1, p1, q1⟩ := deg_facts D n a b hv (by omega) 1 (by omega)
  obtain ⟨m2, f2, o2, c2, p2, q2⟩ := deg_facts D n a b hv (by omega) 2 (by omega)
  obtain ⟨m3, f3, o3, c3, p3, q3⟩ := deg_facts D n a b hv (by omega) 3 (by omega)
  generalize lsB n a b = z at *
  generalize dgF (lsP n a b) = d at *
  have e0 : ((0 : Nat) : Int) = 0 := rfl
  have e1 : ((1 : Nat) : Int) = 1 := rfl
  have e2 : ((2 : Nat) : Int) = 2 := rfl
  have e3 : ((3 : Nat) : Int) = 3 := rfl
  rw [e0] at c0 o0
  rw [e1] at c1 o1
  rw [e2] at c2 o2
  rw [e3] at c3 o3
  cases z with
  | false =>
    simp only [Bool.false_eq_true, if_false] at kL
    have p0 : f0 = 0 → m0 ≠ n := fun h1 h2 => by have := (p0 h1 h2).1; cases this
    have p1 : f1 = 0 → m1 ≠ n := fun h1 h2 => by have := (p1 h1 h2).1; cases this
    have p2 : f2 = 0 → m2 ≠ n := fun h1 h2 => by have := (p2 h1 h2).1; cases this
    have p3 : f3 = 0 → m3 ≠ n := fun h1 h2 => by have := (p3 h1 h2).1; cases this
    clear q0 q1 q2 q3 hd3
    rcases o0 with ⟨rfl, u0⟩ | ⟨rfl, rfl⟩ <;> rcases o1 with ⟨rfl, u1⟩ | ⟨rfl, rfl⟩ <;> rcases o2 with ⟨rfl, u2⟩ | ⟨rfl, rfl⟩ <;> rcases o3 with ⟨rfl, u3⟩ | ⟨rfl, rfl⟩
    all_goals
      refine CallOk.run0 Try.func13 rfl rfl rfl rfl rfl (WpR.of_vc ?_)
      (conv => whnf); (repeat' (first | ((with_reducible refine ifb_mk (fun hc => ?_) (fun hc => ?_)) <;> ((try simp only [decide_eq_true_eq, decide_eq_false_iff_not, Bool.not_eq_true', Bool.not_eq_false', Int.not_lt, Int.not_le, ne_eq, Decidable.not_not, beq_iff_eq, List.cons.injEq, and_true] at hc); (first | (exfalso; omega) | exact absurd True.intro hc | conv => whnf))) | ((with_reducible refine And.intro True.intro ?_); conv => whnf) | ((with_reducible refine WpR.loopU 5 ?_); conv => whnf) | ((with_reducible refine CallX.all ?_); refine CallW.of_ok (kWk _) ?_; conv => whnf) | ((with_reducible refine grd_ex ?_); refine ex_ok (kWk _) ?_; conv => whnf) | ((with_reducible refine CallX.all ?_); refine CallW.of_ok (kR _) ?_; conv => whnf) | ((with_reducible refine grd_ex ?_); refine ex_ok (kR _) ?_; conv => whnf) | ((with_reducible refine CallX.all ?_); refine CallW.of_ok (kL _) ?_; conv => whnf) | ((with_reducible refine CallX.all ?_); refine CallW.of_ok (c0 _) ?_; conv => whnf) | ((with_reducible refine CallX.all ?_); refine CallW.of_ok (c1 _) ?_; conv => whnf) | ((with_reducible refine CallX.all ?_); refine CallW.of_ok (c2 _) ?_; conv => whnf) | ((with_reducible refine CallX.all ?_); refine CallW.of_ok (c3 _) ?_; conv => whnf) | ((with_reducible refine CallX.all (f := 40) ?_); refine CallW.inline Try.func40 rfl rfl (Nat.le_of_ble_eq_true rfl) (WpR.of_vc ?_); conv => whnf) | ((with_reducible refine CallX.all (f := 22) ?_); refine CallW.inline Try.func22 rfl rfl (Nat.le_of_ble_eq_true rfl) (WpR.of_vc ?_); conv => whnf) | ((with_reducible refine And.intro ?hh ?_); (case hh => exact condA); conv => whnf) | fail))
      all_goals first | (exfalso; omega) | (refine ⟨[], ?_, rfl, rfl, trivial, trivs⟩; simp only [renV, renL]; (first | done | rfl | (simp; done) | (simp; omega) | grind))
  | true =>
    simp only [if_true] at kL
    have hd3 := hd3 rfl
    have p0 : f0 = 0 → m0 = n → d ≤ 0 := fun h1 h2 => (p0 h1 h2).2
    have p1 : f1 = 0 → m1 = n → d ≤ 1 := fun h1 h2 => (p1 h1 h2).2
    have p2 : f2 = 0 → m2 = n → d ≤ 2 := fun h1 h2 => (p2 h1 h2).2
    have p3 : f3 = 0 → m3 = n → d ≤ 3 := fun h1 h2 => (p3 h1 h2).2
    have hd : d = 0 ∨ d = 1 ∨ d = 2 ∨ d = 3 := by omega
    rcases hd with rfl | rfl | rfl | rfl
    · obtain ⟨rfl, rfl, kC, g, hg, kP⟩ := q0 rfl rfl
      clear q1 q2 q3 q0 hd3 p0
      have hkn : (0 : Int) + 1 ≤ n := by omega
      clear o0
      rw [e0] at kP kC kL
      rcases o1 with ⟨rfl, u1⟩ | ⟨rfl, rfl⟩ <;> rcases o2 with ⟨rfl, u2⟩ | ⟨rfl, rfl⟩ <;> rcases o3 with ⟨rfl, u3⟩ | ⟨rfl, rfl⟩
      all_goals
        refine CallOk.run0 Try.func13 rfl rfl rfl rfl rfl (WpR.of_vc ?_)
        (conv => whnf); (repeat' (first | ((with_reducible refine ifb_mk (fun hc => ?_) (fun hc => ?_)) <;> ((try simp only [decide_eq_true_eq, decide_eq_false_iff_not, Bool.not_eq_true', Bool.not_eq_false', Int.not_lt, Int.not_le, ne_eq, Decidable.not_not, beq_iff_eq, List.cons.injEq, and_true] at hc); (first | (exfalso; omega) | exact absurd True.intro hc | conv => whnf))) | ((with_reducible refine And.intro True.intro ?_); conv => whnf) | ((with_reducible refine WpR.loopU 5 ?_); conv => whnf) | ((with_reducible refine CallX.all ?_); refine CallW.of_ok (kWk _) ?_; conv => whnf) | ((with_reducible refine grd_ex ?_); refine ex_ok (kWk _) ?_; conv => whnf) | ((with_reducible refine CallX.all ?_); refine CallW.of_ok (kR _) ?_; conv => whnf) | ((with_reducible refine grd_ex ?_); refine ex_ok (kR _) ?_; conv => whnf) | ((with_reducible refine CallX.all ?_); refine CallW.of_ok (kL _) ?_; conv => whnf) | ((with_reducible refine CallX.all ?_); refine CallW.of_ok (c0 _) ?_; conv => whnf) | ((with_reducible refine CallX.all ?_); refine CallW.of_ok (c1 _) ?_; conv => whnf) | ((with_reducible refine CallX.all ?_); refine CallW.of_ok (c2 _) ?_; conv => whnf) | ((with_reducible refine CallX.all ?_); refine CallW.of_ok (c3 _) ?_; conv => whnf) | ((with_reducible refine CallX.all ?_); refine CallW.of_ok (kP _) ?_; conv => whnf) | ((with_reducible refine CallX.all ?_); refine CallW.of_ok (kC _) ?_; conv => whnf) | ((with_reducible refine CallX.all (f := 40) ?_); refine CallW.inline Try.func40 rfl rfl (Nat.le_of_ble_eq_true rfl) (WpR.of_vc ?_); conv => whnf) | ((with_reducible refine CallX.all (f := 22) ?_); refine CallW.inline Try.func22 rfl rfl (Nat.le_of_ble_eq_true rfl) (WpR.of_vc ?_); conv => whnf) | ((with_reducible refine And.intro ?hh ?_); (case hh => exact condA); conv => whnf) | fail))
        all_goals first | (exfalso; omega) | (refine ⟨[], ?_, rfl, rfl, trivial, trivs⟩; simp only [renV, renL]; (first | done | rfl | (simp; done) | (simp; omega) | grind))
    · obtain ⟨rfl, rfl, kC, g, hg, kP⟩ := q1 rfl rfl
      clear q0 q2 q3 q1 hd3 p1
      have hkn : (1 : Int) + 1 ≤ n := by omega
      clear o1
      rw [e1] at kP kC kL
      have hg := hg (by omega)
      rcases o0 with ⟨rfl, u0⟩ | ⟨rfl, rfl⟩ <;> rcases o2 with ⟨rfl, u2⟩ | ⟨rfl, rfl⟩ <;> rcases o3 with ⟨rfl, u3⟩ | ⟨rfl, rfl⟩
      all_goals
        refine CallOk.run0 Try.func13 rfl rfl rfl rfl rfl (WpR.of_vc ?_)
        (conv => whnf); (repeat' (first | ((with_reducible refine ifb_mk (fun hc => ?_) (fun hc => ?_)) <;> ((try simp only [decide_eq_true_eq, decide_eq_false_iff_not, Bool.not_eq_true', Bool.not_eq_false', Int.not_lt, Int.not_le, ne_eq, Decidable.not_not, beq_iff_eq, List.cons.injEq, and_true] at hc); (first | (exfalso; omega) | exact absurd True.intro hc | conv => whnf))) | ((with_reducible refine And.intro True.intro ?_); conv => whnf) | ((with_reducible refine WpR.loopU 5 ?_); conv => whnf) | ((with_reducible refine CallX.all ?_); refine CallW.of_ok (kWk _) ?_; conv => whnf) | ((with_reducible refine grd_ex ?_); refine ex_ok (kWk _) ?_; conv => whnf) | ((with_reducible refine CallX.all ?_); refine CallW.of_ok (kR _) ?_; conv => whnf) | ((with_reducible refine grd_ex ?_); refine ex_ok (kR _) ?_; conv => whnf) | ((with_reducible refine CallX.all ?_); refine CallW.of_ok (kL _) ?_; conv => whnf) | ((with_reducible refine CallX.all ?_); refine CallW.of_ok (c0 _) ?_; conv => whnf) | ((with_reducible refine CallX.all ?_); refine CallW.of_ok (c1 _) ?_; conv => whnf) | ((with_reducible refine CallX.all ?_); refine CallW.of_ok (c2 _) ?_; conv => whnf) | ((with_reducible refine CallX.all ?_); refine CallW.of_ok (c3 _) ?_; conv => whnf) | ((with_reducible refine CallX.all ?_); refine CallW.of_ok (kP _) ?_; conv => whnf) | ((with_reducible refine CallX.all ?_); refine CallW.of_ok (kC _) ?_; conv => whnf) | ((with_reducible refine CallX.all (f := 40) ?_); refine CallW.inline Try.func40 rfl rfl (Nat.le_of_ble_eq_true rfl) (WpR.of_vc ?_); conv => whnf) | ((with_reducible refine CallX.all (f := 22) ?_); refine CallW.inline Try.func22 rfl rfl (Nat.le_of_ble_eq_true rfl) (WpR.of_vc ?_); conv => whnf) | ((with_reducible refine And.intro ?hh ?_); (case hh => exact condA); conv => whnf) | fail))
        all_goals first | (exfalso; omega) | (refine ⟨[], ?_, rfl, rfl, trivial, trivs⟩; simp only [renV, renL]; (first | done | rfl | (simp; done) | (simp; omega) | grind))
    · obtain ⟨rfl, rfl, kC, g, hg, kP⟩ := q2 rfl rfl
      clear q0 q1 q3 q2 hd3 p2
      have hkn : (2 : Int) + 1 ≤ n := by omega
      clear o2
      rw [e2] at kP kC kL
      have hg := hg (by omega)
      rcases o0 with ⟨rfl, u0⟩ | ⟨rfl, rfl⟩ <;> rcases o1 with ⟨rfl, u1⟩ | ⟨rfl, rfl⟩ <;> rcases o3 with ⟨rfl, u3⟩ | ⟨rfl, rfl⟩
      all_goals
        refine CallOk.run0 Try.func13 rfl rfl rfl rfl rfl (WpR.of_vc ?_)
        (conv => whnf); (repeat' (first | ((with_reducible refine ifb_mk (fun hc => ?_) (fun hc => ?_)) <;> ((try simp only [decide_eq_true_eq, decide_eq_false_iff_not, Bool.not_eq_true', Bool.not_eq_false', Int.not_lt, Int.not_le, ne_eq, Decidable.not_not, beq_iff_eq, List.cons.injEq, and_true] at hc); (first | (exfalso; omega) | exact absurd True.intro hc | conv => whnf))) | ((with_reducible refine And.intro True.intro ?_); conv => whnf) | ((with_reducible refine WpR.loopU 5 ?_); conv => whnf) | ((with_reducible refine CallX.all ?_); refine CallW.of_ok (kWk _) ?_; conv => whnf) | ((with_reducible refine grd_ex ?_); refine ex_ok (kWk _) ?_; conv => whnf) | ((with_reducible refine CallX.all ?_); refine CallW.of_ok (kR _) ?_; conv => whnf) | ((with_reducible refine grd_ex ?_); refine ex_ok (kR _) ?_; conv => whnf) | ((with_reducible refine CallX.all ?_); refine CallW.of_ok (kL _) ?_; conv => whnf) | ((with_reducible refine CallX.all ?_); refine CallW.of_ok (c0 _) ?_; conv => whnf) | ((with_reducible refine CallX.all ?_); refine CallW.of_ok (c1 _) ?_; conv => whnf) | ((with_reducible refine CallX.all ?_); refine CallW.of_ok (c2 _) ?_; conv => whnf) | ((with_reducible refine CallX.all ?_); refine CallW.of_ok (c3 _) ?_; conv => whnf) | ((with_reducible refine CallX.all ?_); refine CallW.of_ok (kP _) ?_; conv => whnf) | ((with_reducible refine CallX.all ?_); refine CallW.of_ok (kC _) ?_; conv => whnf) | ((with_reducible refine CallX.all (f := 40) ?_); refine CallW.inline Try.func40 rfl rfl (Nat.le_of_ble_eq_true rfl) (WpR.of_vc ?_); conv => whnf) | ((with_reducible refine CallX.all (f := 22) ?_); refine CallW.inline Try.func22 rfl rfl (Nat.le_of_ble_eq_true rfl) (WpR.of_vc ?_); conv => whnf) | ((with_reducible refine And.intro ?hh ?_); (case hh => exact condA); conv => whnf) | fail))
        all_goals first | (exfalso; omega) | (refine ⟨[], ?_, rfl, rfl, trivial, trivs⟩; simp only [renV, renL]; (first | done | rfl | (simp; done) | (simp; omega) | grind))
    · obtain ⟨rfl, rfl, kC, g, hg, kP⟩ := q3 rfl rfl
      clear q0 q1 q2 q3 hd3 p3
      have hkn : (3 : Int) + 1 ≤ n := by omega
      clear o3
      rw [e3] at kP kC kL
      have hg := hg (by omega)
      rcases o0 with ⟨rfl, u0⟩ | ⟨rfl, rfl⟩ <;> rcases o1 with ⟨rfl, u1⟩ | ⟨rfl, rfl⟩ <;> rcases o2 with ⟨rfl, u2⟩ | ⟨rfl, rfl⟩
      all_goals
        refine CallOk.run0 Try.func13 rfl rfl rfl rfl rfl (WpR.of_vc ?_)
        (conv => whnf); (repeat' (first | ((with_reducible refine ifb_mk (fun hc => ?_) (fun hc => ?_)) <;> ((try simp only [decide_eq_true_eq, decide_eq_false_iff_not, Bool.not_eq_true', Bool.not_eq_false', Int.not_lt, Int.not_le, ne_eq, Decidable.not_not, beq_iff_eq, List.cons.injEq, and_true] at hc); (first | (exfalso; omega) | exact absurd True.intro hc | conv => whnf))) | ((with_reducible refine And.intro True.intro ?_); conv => whnf) | ((with_reducible refine WpR.loopU 5 ?_); conv => whnf) | ((with_reducible refine CallX.all ?_); refine CallW.of_ok (kWk _) ?_; conv => whnf) | ((with_reducible refine grd_ex ?_); refine ex_ok (kWk _) ?_; conv => whnf) | ((with_reducible refine CallX.all ?_); refine CallW.of_ok (kR _) ?_; conv => whnf) | ((with_reducible refine grd_ex ?_); refine ex_ok (kR _) ?_; conv => whnf) | ((with_reducible refine CallX.all ?_); refine CallW.of_ok (kL _) ?_; conv => whnf) | ((with_reducible refine CallX.all ?_); refine CallW.of_ok (c0 _) ?_; conv => whnf) | ((with_reducible refine CallX.all ?_); refine CallW.of_ok (c1 _) ?_; conv => whnf) | ((with_reducible refine CallX.all ?_); refine CallW.of_ok (c2 _) ?_; conv => whnf) | ((with_reducible refine CallX.all ?_); refine CallW.of_ok (c3 _) ?_; conv => whnf) | ((with_reducible refine CallX.all ?_); refine CallW.of_ok (kP _) ?_; conv => whnf) | ((with_reducible refine CallX.all ?_); refine CallW.of_ok (kC _) ?_; conv => whnf) | ((with_reducible refine CallX.all (f := 40) ?_); refine CallW.inline Try.func40 rfl rfl (Nat.le_of_ble_eq_true rfl) (WpR.of_vc ?_); conv => whnf) | ((with_reducible refine CallX.all (f := 22) ?_); refine CallW.inline Try.func22 rfl rfl (Nat.le_of_ble_eq_true rfl) (WpR.of_vc ?_); conv => whnf) | ((with_reducible refine And.intro ?hh ?_); (case hh => exact condA); conv => whnf) | fail))
        all_goals first | (exfalso; omega) | (refine ⟨[], ?_, rfl, rfl, trivial, trivs⟩; simp only [renV, renL]; (first | done | rfl | (simp; done) | (simp; omega) | grind))
end Go.Proofs.K
set_option linter.unusedVariables false
namespace Go.Proofs.K
open Go.As Go.ChangeShapes Go.WideShapes Go.Deep Go.ChangeAt Go.RowKit
set_option maxRecDepth 20000
set_option linter.unusedVariables false
section
variable {H : Type} {enc : TypeId × Value → H} {W : World}
theorem trod_struct2 {t : TypeId} {f0 f1 : Field} {fuel : Nat} {cs : List Value} {x : DataW H × List MemPlace} (ht : Try.prog.underlying t = some (.struct #[f0, f1])) (h : DataW.trod enc Try.prog W 0 (fun _ => true) true fuel t cs = some x) :
    ∃ y0 y1 n, x = (.agg [y0.1, y1.1], y0.2 ++ y1.2) ∧ cs.length = Try.prog.cellsOf t ∧ DataW.trod enc Try.prog W 0 (fun _ => true) true n f0.type ((cs.drop f0.offset).take (Try.prog.cellsOf f0.type)) = some y0 ∧
      DataW.trod enc Try.prog W 0 (fun _ => true) true n f1.type ((cs.drop f1.offset).take (Try.prog.cellsOf f1.type)) = some y1 := by
  obtain ⟨xs, n, _, rfl, hl, hlen, hf⟩ := DataW.trod_struct ht h
  match xs, hlen with
  | [y0, y1], _ => exact ⟨y0, y1, n, by simp, hl, by simpa using hf 0 f0 rfl, by simpa using hf 1 f1 rfl⟩
theorem ints_of {n t k : Nat} (hfl : flatI Try.prog n t = some k) {fuel : Nat} {cs : List Value} {x : DataW H × List MemPlace} (h : DataW.trod enc Try.prog W 0 (fun _ => true) true fuel t cs = some x) : x.2 = [] ∧ cs.length = k ∧ ∀ v ∈ cs, IsI v :=
  flatI_read n t k hfl fuel cs x.1 x.2 h

theorem s_read {fuel : Nat} {v : Value} {d : DataW H} {ps : List MemPlace} {b0 : Nat} (h : DataW.trod enc Try.prog W 0 (fun _ => true) true fuel 31 [v] = some (d, ps)) (hz : W.noneFrozen ps) (hok : Cell.okWide Try.prog W .any b0 31 v) :
    ∃ (n : Nat) (a b : Nat → Int), n ≤ 9223372036854775807 ∧ FR (zW W) (.rsl false 2 n (lkG a b)) v := by
  rcases slice_read (n := 5) (k := 2) Try.underlying31 (by kernel_rfl) (by kernel_rfl) h hz hok with rfl | ⟨ad, len, cap, f, c, et, flo, fhi, rfl, hlc, hlm, hb, hcs⟩
  · exact ⟨0, fun _ => 0, fun _ => 0, by simp, .rsl0⟩
  · refine ⟨len, fun i => f (i * 2), fun i => f (i * 2 + 1), hlm, FR.ints hlc hb hcs (fun i hi => ⟨rfl, fun j v hv => ?_⟩)⟩
    match j with
    | 0 => simp [lkG] at hv; rw [← hv, Nat.add_zero]
    | 1 => simp [lkG] at hv; rw [← hv]
    | j + 2 => simp [lkG] at hv
theorem log_read {v : Value} {d : DataW H} {ps : List MemPlace} {b0 : Nat} (hok : Value.okWide Try.prog W .any b0 33 v) (hd : DataW.Trod enc Try.prog W 0 (fun _ => true) true 33 v d ps) (hz : W.noneFrozen ps) :
    ∃ (S : Int) (n : Nat) (a b : Nat → Int), n ≤ 9223372036854775807 ∧ VR (mW W) (lgV S false n a b) v := by
  simp only [Value.okWide, Try.underlying33] at hok
  obtain ⟨cs, rfl, hsz, ts, hts, _, hcell⟩ := hok
  have hts' : Try.prog.cellTypes Try.prog.depth 33 = some [3, 31] := by kernel_rfl
  rw [hts'] at hts
  cases hts
  have c25 : Try.prog.cellsOf 33 = 2 := by kernel_rfl
  have c3 : Try.prog.cellsOf 3 = 1 := by kernel_rfl
  have c22 : Try.prog.cellsOf 31 = 1 := by kernel_rfl
  obtain ⟨fuel, hf⟩ := hd
  have hf' : DataW.trod enc Try.prog W 0 (fun _ => true) true fuel 33 cs.toList = some (d, ps) := hf
  obtain ⟨y0, y1, n, hx, hlen, h0, h1⟩ := trod_struct2 Try.underlying33 hf'
  rw [c25] at hsz
  obtain ⟨csl⟩ := cs
  dsimp only at h0 h1 hlen hf'
  match csl, hsz with
  | [a0, x], _ =>
  rw [c3] at h0
  rw [c22] at h1
  have h0' : DataW.trod enc Try.prog W 0 (fun _ => true) true n 3 [a0] = some y0 := h0
  have h1' : DataW.trod enc Try.prog W 0 (fun _ => true) true n 31 [x] = some y1 := h1
  obtain ⟨_, _, hI⟩ := ints_of (n := 5) (t := 3) (k := 1) (by kernel_rfl) h0'
  obtain ⟨P, rfl, _⟩ := hI a0 (by simp)
  obtain ⟨u2, hu2, hc2⟩ := hcell 1 x rfl
  cases hu2
  cases hx
  have hz2 : W.noneFrozen y1.2 := fun b off hp => hz b off (List.mem_append_right _ hp)
  obtain ⟨k, a, b, hk, hfr⟩ := s_read h1' hz2 hc2
  exact ⟨P, k, a, b, hk, Go.As.VRs.agg (.cons (.int _ _) (.cons hfr.vr (.nil _)))⟩
end
end Go.Proofs.K
