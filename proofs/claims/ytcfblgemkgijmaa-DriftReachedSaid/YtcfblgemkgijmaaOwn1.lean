/- What the functions answer that the laws call, one after another, part 1. -/
import Derived.Test.YtcfblgemkgijmaaAs6
import Derived.Test.YtcfblgemkgijmaaProg
import Derived.KernelRfl

set_option linter.unusedVariables false
namespace Go.Proofs.D
open Go.As
set_option maxRecDepth 20000
set_option linter.unusedVariables false

theorem mixed : Try.prog.follows .mixedOrders = true := by kernel_rfl

theorem whole_ok (h : H) (n : Int) : CallOk Try.prog 92 [.int .i64 n] h (.agg [.int .i64 n, .int .i64 1]) h := by
  refine CallOk.run0 Try.func92 rfl rfl rfl rfl rfl (WpR.of_vc ?_)
  conv => whnf
  (refine ⟨trivial, ?_⟩; conv => whnf); exact ⟨[], by rfl, rfl, rfl, trivial, (by (repeat' (first | exact True.intro | rfl | refine And.intro ?_ ?_)))⟩

theorem isNaN_ok (h : H) (n : Int) : CallOk Try.prog 113 [.int .i64 n] h (.bool false) h := by
  refine CallOk.run0 Try.func113 rfl rfl rfl rfl rfl (WpR.of_vc ?_)
  conv => whnf
  have e : decide (n ≠ n) = false := by simp
  refine ⟨trivial, ?_⟩
  conv => whnf
  exact ⟨[], by rw [e]; rfl, rfl, rfl, trivial, (by (repeat' (first | exact True.intro | rfl | refine And.intro ?_ ?_)))⟩

def cmp3 (x y : Int) : Int := if x < y then -1 else if y < x then 1 else 0
end Go.Proofs.D

namespace Go.Proofs.D
open Go.As
set_option maxRecDepth 20000
set_option linter.unusedVariables false
set_option linter.unusedSimpArgs false

theorem cmp_ok (h : H) (x y : Int) : CallOk Try.prog 101 [.int .i64 x, .int .i64 y] h (.int .i64 (cmp3 x y)) h := by
  refine CallOk.run0 Try.func101 rfl rfl rfl rfl rfl (WpR.of_vc ?_)
  (conv => whnf); (repeat' (first | ((with_reducible refine ifb_mk (fun hc => ?_) (fun hc => ?_)) <;> ((try simp only [decide_eq_true_eq, decide_eq_false_iff_not, Bool.not_eq_true', Bool.not_eq_false', Int.not_lt, Int.not_le, ne_eq, Decidable.not_not, beq_iff_eq, List.cons.injEq, and_true] at hc); (first | (exfalso; omega) | conv => whnf))) | ((with_reducible refine And.intro True.intro ?_); conv => whnf) | ((with_reducible refine CallX.all ?_); refine CallW.of_ok (isNaN_ok _ _) ?_; conv => whnf) | ((with_reducible refine And.intro ?hh ?_); (case hh => (unfold InR; (try dsimp only); omega)); conv => whnf) | ((with_reducible refine And.intro ?hh ?_); (case hh => ((try dsimp only); omega)); conv => whnf) | ((with_reducible refine And.intro ?hh ?_); (case hh => ((conv => whnf); (repeat' (first | exact True.intro | rfl | refine And.intro ?_ ?_)); done)); conv => whnf) | fail))
  all_goals (refine ⟨[], ?_, rfl, rfl, trivial, (by (repeat' (first | exact True.intro | rfl | refine And.intro ?_ ?_)))⟩; first | rfl | (simp only [renV, renL]; first | done | rfl | (congr 1; grind [cmp3]) | grind [cmp3]))

theorem compare_ok (h : H) (a b c d : Int) (h1 : InR (a * d)) (h2 : InR (c * b)) : CallOk Try.prog 76 [.agg [.int .i64 a, .int .i64 b], .agg [.int .i64 c, .int .i64 d]] h (.int .i64 (cmp3 (a * d) (c * b))) h := by
  refine CallOk.run0 Try.func76 rfl rfl rfl rfl rfl (WpR.of_vc ?_)
  (conv => whnf); (repeat' (first | ((with_reducible refine ifb_mk (fun hc => ?_) (fun hc => ?_)) <;> ((try simp only [decide_eq_true_eq, decide_eq_false_iff_not, Bool.not_eq_true', Bool.not_eq_false', Int.not_lt, Int.not_le, ne_eq, Decidable.not_not, beq_iff_eq, List.cons.injEq, and_true] at hc); (first | (exfalso; omega) | conv => whnf))) | ((with_reducible refine And.intro True.intro ?_); conv => whnf) | ((with_reducible refine grd_and ?_); refine And.intro (h1) ?_; conv => whnf) | ((with_reducible refine grd_and ?_); refine And.intro (h2) ?_; conv => whnf) | ((with_reducible refine CallX.all ?_); refine CallW.of_ok (cmp_ok _ _ _) ?_; conv => whnf) | ((with_reducible refine And.intro ?hh ?_); (case hh => (unfold InR; (try dsimp only); omega)); conv => whnf) | ((with_reducible refine And.intro ?hh ?_); (case hh => ((try dsimp only); omega)); conv => whnf) | ((with_reducible refine And.intro ?hh ?_); (case hh => ((conv => whnf); (repeat' (first | exact True.intro | rfl | refine And.intro ?_ ?_)); done)); conv => whnf) | fail))
  all_goals (refine ⟨[], ?_, rfl, rfl, trivial, (by (repeat' (first | exact True.intro | rfl | refine And.intro ?_ ?_)))⟩; first | rfl | (simp only [renV, renL]; first | done | rfl | (congr 1; grind [cmp3]) | grind [cmp3]))

theorem sideOf_ok (h : H) (b : Bool) : CallOk Try.prog 65 [.bool b] h (.int .i64 (if b then 1 else 0)) h := by
  refine CallOk.run0 Try.func65 rfl rfl rfl rfl rfl (WpR.of_vc ?_)
  (conv => whnf); (repeat' (first | ((with_reducible refine ifb_mk (fun hc => ?_) (fun hc => ?_)) <;> ((try simp only [decide_eq_true_eq, decide_eq_false_iff_not, Bool.not_eq_true', Bool.not_eq_false', Int.not_lt, Int.not_le, ne_eq, Decidable.not_not, beq_iff_eq, List.cons.injEq, and_true] at hc); (first | (exfalso; omega) | conv => whnf))) | ((with_reducible refine And.intro True.intro ?_); conv => whnf) | ((with_reducible refine And.intro ?hh ?_); (case hh => (unfold InR; (try dsimp only); omega)); conv => whnf) | ((with_reducible refine And.intro ?hh ?_); (case hh => ((try dsimp only); omega)); conv => whnf) | ((with_reducible refine And.intro ?hh ?_); (case hh => ((conv => whnf); (repeat' (first | exact True.intro | rfl | refine And.intro ?_ ?_)); done)); conv => whnf) | fail))
  all_goals (refine ⟨[], ?_, rfl, rfl, trivial, (by (repeat' (first | exact True.intro | rfl | refine And.intro ?_ ?_)))⟩; first | rfl | (simp only [renV, renL]; first | done | rfl | (congr 1; grind []) | grind []))

theorem tighter_ok (h : H) (s a b c d : Int) (h1 : InR (a * d)) (h2 : InR (c * b)) : CallOk Try.prog 98 [.int .i64 s, .agg [.int .i64 a, .int .i64 b], .agg [.int .i64 c, .int .i64 d]] h (.bool (if s = 1 then decide (a * d < c * b) else decide (c * b < a * d))) h := by
  refine CallOk.run0 Try.func98 rfl rfl rfl rfl rfl (WpR.of_vc ?_)
  (conv => whnf); (repeat' (first | ((with_reducible refine ifb_mk (fun hc => ?_) (fun hc => ?_)) <;> ((try simp only [decide_eq_true_eq, decide_eq_false_iff_not, Bool.not_eq_true', Bool.not_eq_false', Int.not_lt, Int.not_le, ne_eq, Decidable.not_not, beq_iff_eq, List.cons.injEq, and_true] at hc); (first | (exfalso; omega) | conv => whnf))) | ((with_reducible refine And.intro True.intro ?_); conv => whnf) | ((with_reducible refine CallX.all ?_); refine CallW.of_ok (compare_ok _ _ _ _ _ h1 h2) ?_; conv => whnf) | ((with_reducible refine And.intro ?hh ?_); (case hh => (unfold InR; (try dsimp only); omega)); conv => whnf) | ((with_reducible refine And.intro ?hh ?_); (case hh => ((try dsimp only); omega)); conv => whnf) | ((with_reducible refine And.intro ?hh ?_); (case hh => ((conv => whnf); (repeat' (first | exact True.intro | rfl | refine And.intro ?_ ?_)); done)); conv => whnf) | fail))
  all_goals (refine ⟨[], ?_, rfl, rfl, trivial, (by (repeat' (first | exact True.intro | rfl | refine And.intro ?_ ?_)))⟩; first | rfl | (simp only [renV, renL]; first | done | rfl | (congr 1; grind [cmp3]) | grind [cmp3]))
end Go.Proofs.D

namespace Go.Proofs.D
open Go.As
set_option maxRecDepth 20000
set_option linter.unusedVariables false
set_option linter.unusedSimpArgs false

theorem gcd_step (x y : Int) (hx : 0 < x) (hy : 0 < y) : Int.gcd (y.tmod x) x = Int.gcd x y := by
  obtain ⟨m, rfl⟩ := Int.eq_ofNat_of_zero_le (show 0 ≤ x by omega)
  obtain ⟨n, rfl⟩ := Int.eq_ofNat_of_zero_le (show 0 ≤ y by omega)
  rw [Int.tmod_eq_emod_of_nonneg (by omega), ← Int.natCast_emod]
  show Nat.gcd (n % m) m = Nat.gcd m n
  exact (Nat.gcd_rec m n).symm

def InQ (a : Int) : Prop := -4611686018427387904 ≤ a ∧ a ≤ 4611686018427387904

theorem divisor_ok (h : H) (a b : Int) (ha : InQ a) (hb : 0 < b ∧ b ≤ 4611686018427387904) : CallOk Try.prog 110 [.int .i64 a, .int .i64 b] h (.int .i64 (Int.gcd a b)) h := by
  unfold InQ at ha
  refine CallOk.run0 Try.func110 rfl rfl rfl rfl rfl (WpR.of_vc ?_)
  (conv => whnf); (repeat' (first | ((with_reducible refine ifb_mk (fun hc => ?_) (fun hc => ?_)) <;> ((try simp only [decide_eq_true_eq, decide_eq_false_iff_not, Bool.not_eq_true', Bool.not_eq_false', Int.not_lt, Int.not_le, ne_eq, Decidable.not_not, beq_iff_eq, List.cons.injEq, and_true] at hc); (first | (exfalso; omega) | conv => whnf))) | ((with_reducible refine And.intro True.intro ?_); conv => whnf) | ((with_reducible refine And.intro ?hh ?_); (case hh => (unfold InR; (try dsimp only); omega)); conv => whnf) | ((with_reducible refine And.intro ?hh ?_); (case hh => ((try dsimp only); omega)); conv => whnf) | ((with_reducible refine And.intro ?hh ?_); (case hh => ((conv => whnf); (repeat' (first | exact True.intro | rfl | refine And.intro ?_ ?_)); done)); conv => whnf) | fail))
  · refine WpR.loopD (ι := Int × Int) [] [] [] [] 0 (fun p => [(0, .int .i64 p.1), (1, .int .i64 p.2)]) (fun _ => []) (fun p => p.1.toNat) (fun p => 0 ≤ p.1 ∧ p.1 ≤ 4611686018427387904 ∧ 0 < p.2 ∧ p.2 ≤ 4611686018427387904 ∧ Int.gcd p.1 p.2 = Int.gcd a b) ?_ ((-a, b)) (⟨by dsimp only; omega, by dsimp only; omega, hb.1, hb.2, by simp⟩) [] ⟨rfl, rfl, (by (repeat' (first | exact True.intro | rfl | refine And.intro ?_ ?_))), (by (repeat' (first | exact True.intro | rfl | refine And.intro ?_ ?_))), (by (repeat' (first | exact True.intro | rfl | refine And.intro ?_ ?_))), (by (repeat' (first | exact True.intro | exact Or.inl rfl | refine And.intro ?_ ?_ | refine Or.inr ⟨_, rfl, ?_⟩ | exact SubQ.same (n := 1000) (Y := []) (fun _ _ _ => rfl) (by first | exact True.intro | exact ltB_all rfl | exact ltB_ofLb (by first | exact bare0_ints | assumption | (intro v hv; (repeat (rcases List.mem_cons.1 hv with rfl | hv; exact rfl)); cases hv)) | exact ltB_loop rfl rfl | exact hMap _ | exact hMap2 _ | exact grB_lt (by first | exact bare0_ints | assumption | (intro v hv; (repeat (rcases List.mem_cons.1 hv with rfl | hv; exact rfl)); cases hv)) _ | exact ltB_mapB | assumption) (avB_nil _) rfl | exact SubQ.ofL (by first | rfl | simp) (by first | exact bare0_ints | assumption | (intro v hv; (repeat (rcases List.mem_cons.1 hv with rfl | hv; exact rfl)); cases hv)) (by first | exact Or.inl rfl | exact Or.inr rfl) | exact SubQ.fin (by (conv => whnf); (repeat' (first | exact True.intro | rfl | refine And.intro ?_ ?_)); done) (fun h => h) (by first | exact Or.inl rfl | exact Or.inr rfl)))), rfl, rfl⟩ rfl rfl rfl (fun _ => rfl) (by (repeat' (first | exact True.intro | refine And.intro ?_ ?_ | exact avV_nil _ | rfl))) (by (repeat' (first | exact True.intro | (with_reducible exact avB_nil _) | ((with_reducible refine avB_all ?_); rfl) | ((with_reducible refine avB_ofLb ?_); exact (by first | exact bare0_ints | assumption | (intro v hv; (repeat (rcases List.mem_cons.1 hv with rfl | hv; exact rfl)); cases hv))) | ((with_reducible refine ltB_all ?_); rfl) | ((with_reducible refine ltB_ofLb ?_); exact (by first | exact bare0_ints | assumption | (intro v hv; (repeat (rcases List.mem_cons.1 hv with rfl | hv; exact rfl)); cases hv))) | ((with_reducible refine ltB_loop ?_ ?_) <;> rfl) | (with_reducible exact hMap _) | (with_reducible exact hMap2 _) | (with_reducible exact ltB_mapB) | ((with_reducible refine grB_lt ?_ _); exact (by first | exact bare0_ints | assumption | (intro v hv; (repeat (rcases List.mem_cons.1 hv with rfl | hv; exact rfl)); cases hv))) | (with_reducible assumption) | refine And.intro ?_ ?_ | exact (by first | exact True.intro | exact ltB_all rfl | exact ltB_ofLb (by first | exact bare0_ints | assumption | (intro v hv; (repeat (rcases List.mem_cons.1 hv with rfl | hv; exact rfl)); cases hv)) | exact ltB_loop rfl rfl | exact hMap _ | exact hMap2 _ | exact grB_lt (by first | exact bare0_ints | assumption | (intro v hv; (repeat (rcases List.mem_cons.1 hv with rfl | hv; exact rfl)); cases hv)) _ | exact ltB_mapB | assumption)))) (fun _ _ => (by (repeat' (first | exact True.intro | rfl | refine And.intro ?_ ?_ | exact (by decide) | exact (by first | exact True.intro | exact hMap _ | exact hMap2 _ | exact grB_lt (by first | exact bare0_ints | assumption | (intro v hv; (repeat (rcases List.mem_cons.1 hv with rfl | hv; exact rfl)); cases hv)) _ | exact ltB_all rfl | exact ltB_ofLb (by first | exact bare0_ints | assumption | (intro v hv; (repeat (rcases List.mem_cons.1 hv with rfl | hv; exact rfl)); cases hv)) | exact ltB_loop rfl rfl | exact ltB_mapB | assumption))))) (fun _ _ => (by (repeat' (first | exact True.intro | rfl | refine And.intro ?_ ?_ | exact (by decide) | exact (by first | exact True.intro | exact hMap _ | exact hMap2 _ | exact grB_lt (by first | exact bare0_ints | assumption | (intro v hv; (repeat (rcases List.mem_cons.1 hv with rfl | hv; exact rfl)); cases hv)) _ | exact ltB_all rfl | exact ltB_ofLb (by first | exact bare0_ints | assumption | (intro v hv; (repeat (rcases List.mem_cons.1 hv with rfl | hv; exact rfl)); cases hv)) | exact ltB_loop rfl rfl | exact ltB_mapB | assumption))))) (fun _ _ => (by (repeat' (first | exact True.intro | rfl | refine And.intro ?_ ?_)))) rfl
    rintro ⟨x, y⟩ ⟨h0, h1, h2, h3, hg⟩
    dsimp only at h0 h1 h2 h3 hg
    have e : y.tmod x = y % x := Int.tmod_eq_emod_of_nonneg (by omega)
    have l0 := Int.emod_nonneg y (b := x)
    have l1 := Int.emod_lt_of_pos y (b := x)
    refine WpR.of_vc ?_
    (conv => whnf); (repeat' (first | ((with_reducible refine ifb_mk (fun hc => ?_) (fun hc => ?_)) <;> ((try simp only [decide_eq_true_eq, decide_eq_false_iff_not, Bool.not_eq_true', Bool.not_eq_false', Int.not_lt, Int.not_le, ne_eq, Decidable.not_not, beq_iff_eq, List.cons.injEq, and_true] at hc); (first | (exfalso; omega) | conv => whnf))) | ((with_reducible refine And.intro True.intro ?_); conv => whnf) | ((with_reducible refine And.intro ?hh ?_); (case hh => (unfold InR; (try dsimp only); omega)); conv => whnf) | ((with_reducible refine And.intro ?hh ?_); (case hh => ((try dsimp only); omega)); conv => whnf) | ((with_reducible refine And.intro ?hh ?_); (case hh => ((conv => whnf); (repeat' (first | exact True.intro | rfl | refine And.intro ?_ ?_)); done)); conv => whnf) | fail))
    · exact ⟨(y.tmod x, x), [], by dsimp only; omega, ⟨by dsimp only; omega, by dsimp only; omega, by dsimp only; omega, by dsimp only; omega, by rw [gcd_step x y (by omega) (by omega)]; exact hg⟩, ⟨rfl, rfl, (by (repeat' (first | exact True.intro | rfl | refine And.intro ?_ ?_))), (by (repeat' (first | exact True.intro | rfl | refine And.intro ?_ ?_))), (by (repeat' (first | exact True.intro | rfl | refine And.intro ?_ ?_))), (by (repeat' (first | exact True.intro | exact Or.inl rfl | refine And.intro ?_ ?_ | refine Or.inr ⟨_, rfl, ?_⟩ | exact SubQ.same (n := 1000) (Y := []) (fun _ _ _ => rfl) (by first | exact True.intro | exact ltB_all rfl | exact ltB_ofLb (by first | exact bare0_ints | assumption | (intro v hv; (repeat (rcases List.mem_cons.1 hv with rfl | hv; exact rfl)); cases hv)) | exact ltB_loop rfl rfl | exact hMap _ | exact hMap2 _ | exact grB_lt (by first | exact bare0_ints | assumption | (intro v hv; (repeat (rcases List.mem_cons.1 hv with rfl | hv; exact rfl)); cases hv)) _ | exact ltB_mapB | assumption) (avB_nil _) rfl | exact SubQ.ofL (by first | rfl | simp) (by first | exact bare0_ints | assumption | (intro v hv; (repeat (rcases List.mem_cons.1 hv with rfl | hv; exact rfl)); cases hv)) (by first | exact Or.inl rfl | exact Or.inr rfl) | exact SubQ.fin (by (conv => whnf); (repeat' (first | exact True.intro | rfl | refine And.intro ?_ ?_)); done) (fun h => h) (by first | exact Or.inl rfl | exact Or.inr rfl)))), rfl, rfl⟩⟩
    · have hx : x = 0 := by omega
      subst hx
      rw [← hg]
      refine ⟨[], ?_, rfl, rfl, trivial, (by (repeat' (first | exact True.intro | rfl | refine And.intro ?_ ?_)))⟩
      have : (Int.gcd 0 y : Int) = y := by rw [Int.gcd_zero_left]; omega
      rw [this]
      rfl
  · refine WpR.loopD (ι := Int × Int) [] [] [] [] 0 (fun p => [(0, .int .i64 p.1), (1, .int .i64 p.2)]) (fun _ => []) (fun p => p.1.toNat) (fun p => 0 ≤ p.1 ∧ p.1 ≤ 4611686018427387904 ∧ 0 < p.2 ∧ p.2 ≤ 4611686018427387904 ∧ Int.gcd p.1 p.2 = Int.gcd a b) ?_ ((a, b)) (⟨by dsimp only; omega, by dsimp only; omega, hb.1, hb.2, by simp⟩) [] ⟨rfl, rfl, (by (repeat' (first | exact True.intro | rfl | refine And.intro ?_ ?_))), (by (repeat' (first | exact True.intro | rfl | refine And.intro ?_ ?_))), (by (repeat' (first | exact True.intro | rfl | refine And.intro ?_ ?_))), (by (repeat' (first | exact True.intro | exact Or.inl rfl | refine And.intro ?_ ?_ | refine Or.inr ⟨_, rfl, ?_⟩ | exact SubQ.same (n := 1000) (Y := []) (fun _ _ _ => rfl) (by first | exact True.intro | exact ltB_all rfl | exact ltB_ofLb (by first | exact bare0_ints | assumption | (intro v hv; (repeat (rcases List.mem_cons.1 hv with rfl | hv; exact rfl)); cases hv)) | exact ltB_loop rfl rfl | exact hMap _ | exact hMap2 _ | exact grB_lt (by first | exact bare0_ints | assumption | (intro v hv; (repeat (rcases List.mem_cons.1 hv with rfl | hv; exact rfl)); cases hv)) _ | exact ltB_mapB | assumption) (avB_nil _) rfl | exact SubQ.ofL (by first | rfl | simp) (by first | exact bare0_ints | assumption | (intro v hv; (repeat (rcases List.mem_cons.1 hv with rfl | hv; exact rfl)); cases hv)) (by first | exact Or.inl rfl | exact Or.inr rfl) | exact SubQ.fin (by (conv => whnf); (repeat' (first | exact True.intro | rfl | refine And.intro ?_ ?_)); done) (fun h => h) (by first | exact Or.inl rfl | exact Or.inr rfl)))), rfl, rfl⟩ rfl rfl rfl (fun _ => rfl) (by (repeat' (first | exact True.intro | refine And.intro ?_ ?_ | exact avV_nil _ | rfl))) (by (repeat' (first | exact True.intro | (with_reducible exact avB_nil _) | ((with_reducible refine avB_all ?_); rfl) | ((with_reducible refine avB_ofLb ?_); exact (by first | exact bare0_ints | assumption | (intro v hv; (repeat (rcases List.mem_cons.1 hv with rfl | hv; exact rfl)); cases hv))) | ((with_reducible refine ltB_all ?_); rfl) | ((with_reducible refine ltB_ofLb ?_); exact (by first | exact bare0_ints | assumption | (intro v hv; (repeat (rcases List.mem_cons.1 hv with rfl | hv; exact rfl)); cases hv))) | ((with_reducible refine ltB_loop ?_ ?_) <;> rfl) | (with_reducible exact hMap _) | (with_reducible exact hMap2 _) | (with_reducible exact ltB_mapB) | ((with_reducible refine grB_lt ?_ _); exact (by first | exact bare0_ints | assumption | (intro v hv; (repeat (rcases List.mem_cons.1 hv with rfl | hv; exact rfl)); cases hv))) | (with_reducible assumption) | refine And.intro ?_ ?_ | exact (by first | exact True.intro | exact ltB_all rfl | exact ltB_ofLb (by first | exact bare0_ints | assumption | (intro v hv; (repeat (rcases List.mem_cons.1 hv with rfl | hv; exact rfl)); cases hv)) | exact ltB_loop rfl rfl | exact hMap _ | exact hMap2 _ | exact grB_lt (by first | exact bare0_ints | assumption | (intro v hv; (repeat (rcases List.mem_cons.1 hv with rfl | hv; exact rfl)); cases hv)) _ | exact ltB_mapB | assumption)))) (fun _ _ => (by (repeat' (first | exact True.intro | rfl | refine And.intro ?_ ?_ | exact (by decide) | exact (by first | exact True.intro | exact hMap _ | exact hMap2 _ | exact grB_lt (by first | exact bare0_ints | assumption | (intro v hv; (repeat (rcases List.mem_cons.1 hv with rfl | hv; exact rfl)); cases hv)) _ | exact ltB_all rfl | exact ltB_ofLb (by first | exact bare0_ints | assumption | (intro v hv; (repeat (rcases List.mem_cons.1 hv with rfl | hv; exact rfl)); cases hv)) | exact ltB_loop rfl rfl | exact ltB_mapB | assumption))))) (fun _ _ => (by (repeat' (first | exact True.intro | rfl | refine And.intro ?_ ?_ | exact (by decide) | exact (by first | exact True.intro | exact hMap _ | exact hMap2 _ | exact grB_lt (by first | exact bare0_ints | assumption | (intro v hv; (repeat (rcases List.mem_cons.1 hv with rfl | hv; exact rfl)); cases hv)) _ | exact ltB_all rfl | exact ltB_ofLb (by first | exact bare0_ints | assumption | (intro v hv; (repeat (rcases List.mem_cons.1 hv with rfl | hv; exact rfl)); cases hv)) | exact ltB_loop rfl rfl | exact ltB_mapB | assumption))))) (fun _ _ => (by (repeat' (first | exact True.intro | rfl | refine And.intro ?_ ?_)))) rfl
    rintro ⟨x, y⟩ ⟨h0, h1, h2, h3, hg⟩
    dsimp only at h0 h1 h2 h3 hg
    have e : y.tmod x = y % x := Int.tmod_eq_emod_of_nonneg (by omega)
    have l0 := Int.emod_nonneg y (b := x)
    have l1 := Int.emod_lt_of_pos y (b := x)
    refine WpR.of_vc ?_
    (conv => whnf); (repeat' (first | ((with_reducible refine ifb_mk (fun hc => ?_) (fun hc => ?_)) <;> ((try simp only [decide_eq_true_eq, decide_eq_false_iff_not, Bool.not_eq_true', Bool.not_eq_false', Int.not_lt, Int.not_le, ne_eq, Decidable.not_not, beq_iff_eq, List.cons.injEq, and_true] at hc); (first | (exfalso; omega) | conv => whnf))) | ((with_reducible refine And.intro True.intro ?_); conv => whnf) | ((with_reducible refine And.intro ?hh ?_); (case hh => (unfold InR; (try dsimp only); omega)); conv => whnf) | ((with_reducible refine And.intro ?hh ?_); (case hh => ((try dsimp only); omega)); conv => whnf) | ((with_reducible refine And.intro ?hh ?_); (case hh => ((conv => whnf); (repeat' (first | exact True.intro | rfl | refine And.intro ?_ ?_)); done)); conv => whnf) | fail))
    · exact ⟨(y.tmod x, x), [], by dsimp only; omega, ⟨by dsimp only; omega, by dsimp only; omega, by dsimp only; omega, by dsimp only; omega, by rw [gcd_step x y (by omega) (by omega)]; exact hg⟩, ⟨rfl, rfl, (by (repeat' (first | exact True.intro | rfl | refine And.intro ?_ ?_))), (by (repeat' (first | exact True.intro | rfl | refine And.intro ?_ ?_))), (by (repeat' (first | exact True.intro | rfl | refine And.intro ?_ ?_))), (by (repeat' (first | exact True.intro | exact Or.inl rfl | refine And.intro ?_ ?_ | refine Or.inr ⟨_, rfl, ?_⟩ | exact SubQ.same (n := 1000) (Y := []) (fun _ _ _ => rfl) (by first | exact True.intro | exact ltB_all rfl | exact ltB_ofLb (by first | exact bare0_ints | assumption | (intro v hv; (repeat (rcases List.mem_cons.1 hv with rfl | hv; exact rfl)); cases hv)) | exact ltB_loop rfl rfl | exact hMap _ | exact hMap2 _ | exact grB_lt (by first | exact bare0_ints | assumption | (intro v hv; (repeat (rcases List.mem_cons.1 hv with rfl | hv; exact rfl)); cases hv)) _ | exact ltB_mapB | assumption) (avB_nil _) rfl | exact SubQ.ofL (by first | rfl | simp) (by first | exact bare0_ints | assumption | (intro v hv; (repeat (rcases List.mem_cons.1 hv with rfl | hv; exact rfl)); cases hv)) (by first | exact Or.inl rfl | exact Or.inr rfl) | exact SubQ.fin (by (conv => whnf); (repeat' (first | exact True.intro | rfl | refine And.intro ?_ ?_)); done) (fun h => h) (by first | exact Or.inl rfl | exact Or.inr rfl)))), rfl, rfl⟩⟩
    · have hx : x = 0 := by omega
      subst hx
      rw [← hg]
      refine ⟨[], ?_, rfl, rfl, trivial, (by (repeat' (first | exact True.intro | rfl | refine And.intro ?_ ?_)))⟩
      have : (Int.gcd 0 y : Int) = y := by rw [Int.gcd_zero_left]; omega
      rw [this]
      rfl
end Go.Proofs.D

namespace Go.Proofs.D
open Go.As
set_option maxRecDepth 20000
set_option linter.unusedVariables false
set_option linter.unusedSimpArgs false

/-! ### Fractions -/

def fr (a b : Int) : Int × Int := (a.tdiv (Int.gcd a b), b.tdiv (Int.gcd a b))
def frL (q : Int × Int) : List V := [.int .i64 q.1, .int .i64 q.2]

theorem gcd_pos (a b : Int) (hb : 0 < b) : 0 < (Int.gcd a b : Int) := by
  have := Int.gcd_pos_of_ne_zero_right a (show b ≠ 0 by omega)
  omega

theorem tdiv_bd (a g : Int) (hg : 0 < g) (m : Int) (ha : -m ≤ a ∧ a ≤ m) : -m ≤ a.tdiv g ∧ a.tdiv g ≤ m := by
  have h1 : (a.tdiv g).natAbs ≤ a.natAbs := by rw [Int.natAbs_tdiv]; exact Nat.div_le_self _ _
  omega

theorem fraction_ok (h : H) (a b : Int) (ha : InQ a) (hb : 0 < b ∧ b ≤ 4611686018427387904) : CallOk Try.prog 94 [.int .i64 a, .int .i64 b] h (.agg (frL (fr a b))) h := by
  have hgp := gcd_pos a b hb.1
  have h1 := tdiv_bd a _ hgp _ ha
  have h2 := tdiv_bd b _ hgp 4611686018427387904 (by omega)
  refine CallOk.run0 Try.func94 rfl rfl rfl rfl rfl (WpR.of_vc ?_)
  (conv => whnf); (repeat' (first | ((with_reducible refine ifb_mk (fun hc => ?_) (fun hc => ?_)) <;> ((try simp only [decide_eq_true_eq, decide_eq_false_iff_not, Bool.not_eq_true', Bool.not_eq_false', Int.not_lt, Int.not_le, ne_eq, Decidable.not_not, beq_iff_eq, List.cons.injEq, and_true] at hc); (first | (exfalso; omega) | conv => whnf))) | ((with_reducible refine And.intro True.intro ?_); conv => whnf) | ((with_reducible refine CallX.all ?_); refine CallW.of_ok (divisor_ok _ a b ha hb) ?_; conv => whnf) | ((with_reducible refine WpR.draw (id := 2) mixed [0, 1, 2, 3, 4, 5, 6, 7] [0, 0, 3, 0, 0, 24, 63, 127] ?hh ?_); (case hh => kernel_rfl); conv => whnf) | ((with_reducible refine And.intro ?hh ?_); (case hh => (unfold InR; (try dsimp only); omega)); conv => whnf) | ((with_reducible refine And.intro ?hh ?_); (case hh => ((try dsimp only); omega)); conv => whnf) | ((with_reducible refine And.intro ?hh ?_); (case hh => ((conv => whnf); (repeat' (first | exact True.intro | rfl | refine And.intro ?_ ?_)); done)); conv => whnf) | fail))
  all_goals (refine ⟨[], ?_, rfl, rfl, trivial, (by (repeat' (first | exact True.intro | rfl | refine And.intro ?_ ?_)))⟩; first | rfl | (simp only [renV, renL]; first | done | rfl | (congr 1; grind []) | grind []))

theorem plus_ok (h : H) (a b c d t : Int) (h1 : InR (a * d)) (h2 : InR (c * t)) (h3 : InR (c * t * b)) (h4 : InQ (a * d + c * t * b)) (h5 : 0 < b * d ∧ b * d ≤ 4611686018427387904) :
    CallOk Try.prog 102 [.agg [.int .i64 a, .int .i64 b], .agg [.int .i64 c, .int .i64 d], .int .i64 t] h (.agg (frL (fr (a * d + c * t * b) (b * d)))) h := by
  have h4' := h4
  unfold InQ at h4'
  refine CallOk.run0 Try.func102 rfl rfl rfl rfl rfl (WpR.of_vc ?_)
  (conv => whnf); (repeat' (first | ((with_reducible refine ifb_mk (fun hc => ?_) (fun hc => ?_)) <;> ((try simp only [decide_eq_true_eq, decide_eq_false_iff_not, Bool.not_eq_true', Bool.not_eq_false', Int.not_lt, Int.not_le, ne_eq, Decidable.not_not, beq_iff_eq, List.cons.injEq, and_true] at hc); (first | (exfalso; omega) | conv => whnf))) | ((with_reducible refine And.intro True.intro ?_); conv => whnf) | ((with_reducible refine grd_and ?_); refine And.intro (h1) ?_; conv => whnf) | ((with_reducible refine grd_and ?_); refine And.intro (h2) ?_; conv => whnf) | ((with_reducible refine grd_and ?_); refine And.intro (h3) ?_; conv => whnf) | ((with_reducible refine CallX.all ?_); refine CallW.of_ok (fraction_ok _ _ _ h4 h5) ?_; conv => whnf) | ((with_reducible refine And.intro ?hh ?_); (case hh => (unfold InR; (try dsimp only); omega)); conv => whnf) | ((with_reducible refine And.intro ?hh ?_); (case hh => ((try dsimp only); omega)); conv => whnf) | ((with_reducible refine And.intro ?hh ?_); (case hh => ((conv => whnf); (repeat' (first | exact True.intro | rfl | refine And.intro ?_ ?_)); done)); conv => whnf) | fail))
  all_goals (refine ⟨[], ?_, rfl, rfl, trivial, (by (repeat' (first | exact True.intro | rfl | refine And.intro ?_ ?_)))⟩; first | rfl | (simp only [renV, renL]; first | done | rfl | (congr 1; grind []) | grind []))

theorem placeIn_ok (h : H) (a b c d t : Int) (h1 : InR (a * d)) (h2 : InR (c * t)) (h3 : InR (c * t * b)) (h4 : InQ (a * d + c * t * b)) (h5 : 0 < b * d ∧ b * d ≤ 4611686018427387904) :
    CallOk Try.prog 77 [.agg [.int .i64 a, .int .i64 b, .int .i64 c, .int .i64 d], .int .i64 t] h (.agg (frL (fr (a * d + c * t * b) (b * d)))) h := by
  refine CallOk.run0 Try.func77 rfl rfl rfl rfl rfl (WpR.of_vc ?_)
  (conv => whnf); (repeat' (first | ((with_reducible refine ifb_mk (fun hc => ?_) (fun hc => ?_)) <;> ((try simp only [decide_eq_true_eq, decide_eq_false_iff_not, Bool.not_eq_true', Bool.not_eq_false', Int.not_lt, Int.not_le, ne_eq, Decidable.not_not, beq_iff_eq, List.cons.injEq, and_true] at hc); (first | (exfalso; omega) | conv => whnf))) | ((with_reducible refine And.intro True.intro ?_); conv => whnf) | ((with_reducible refine CallX.all ?_); refine CallW.of_ok (plus_ok _ _ _ _ _ _ h1 h2 h3 h4 h5) ?_; conv => whnf) | ((with_reducible refine And.intro ?hh ?_); (case hh => (unfold InR; (try dsimp only); omega)); conv => whnf) | ((with_reducible refine And.intro ?hh ?_); (case hh => ((try dsimp only); omega)); conv => whnf) | ((with_reducible refine And.intro ?hh ?_); (case hh => ((conv => whnf); (repeat' (first | exact True.intro | rfl | refine And.intro ?_ ?_)); done)); conv => whnf) | fail))
  all_goals (refine ⟨[], ?_, rfl, rfl, trivial, (by (repeat' (first | exact True.intro | rfl | refine And.intro ?_ ?_)))⟩; first | rfl | (simp only [renV, renL]; first | done | rfl | (congr 1; grind []) | grind []))

/-! ### Entries -/

abbrev E := Int × Int × Int
def entVs : List E → List V
  | [] => []
  | e :: l => .int .i64 e.1 :: .int .i64 e.2.1 :: .int .i64 e.2.2 :: entVs l

theorem entVs_bare : ∀ {l : List E}, ∀ v ∈ entVs l, bare0 v = true
  | [], v, h => by cases h
  | e :: l, v, h => by
    simp only [entVs, List.mem_cons] at h
    rcases h with rfl | rfl | rfl | h
    · rfl
    · rfl
    · rfl
    · exact entVs_bare v h

theorem entVs_get : ∀ {l : List E} {i : Nat} {e : E}, l[i]? = some e → (entVs l)[i * 3]? = some (.int .i64 e.1) ∧ (entVs l)[i * 3 + 1]? = some (.int .i64 e.2.1) ∧ (entVs l)[i * 3 + 2]? = some (.int .i64 e.2.2)
  | [], i, e, h => by simp at h
  | x :: l, 0, e, h => by simp at h; subst h; exact ⟨rfl, rfl, rfl⟩
  | x :: l, i + 1, e, h => by
    have := entVs_get (l := l) (i := i) (e := e) (by simpa using h)
    rw [show (i + 1) * 3 = i * 3 + 1 + 1 + 1 from by omega]
    simpa [entVs] using this

theorem getN3 {c : Tr V} {o : Nat} {x y z : V} (h0 : c.get o = some x) (h1 : c.get (o + 1) = some y) (h2 : c.get (o + 1 + 1) = some z) : getN c 3 o = some [x, y, z] := by
  show (match c.get o with
    | some v => (match (match c.get (o + 1) with
      | some v => (match (match c.get (o + 1 + 1) with
        | some v => some (v :: [])
        | none => none) with | some l => some (v :: l) | none => none)
      | none => none) with | some l => some (v :: l) | none => none)
    | none => none) = _
  rw [h0, h1, h2]

theorem getN2 {c : Tr V} {o : Nat} {x y : V} (h0 : c.get o = some x) (h1 : c.get (o + 1) = some y) : getN c 2 o = some [x, y] := by
  show (match c.get o with
    | some v => (match (match c.get (o + 1) with
        | some v => some (v :: [])
        | none => none) with | some l => some (v :: l) | none => none)
    | none => none) = _
  rw [h0, h1]

theorem entGet0 {l : List E} {i : Nat} {e : E} (h : l[i]? = some e) : (ofL (entVs l) 0).get (0 + (i : Int).toNat * 3 + 0) = some (.int .i64 e.1) := get_ofL0 (by have := (entVs_get h).1; simpa using this)
theorem entGet1 {l : List E} {i : Nat} {e : E} (h : l[i]? = some e) : (ofL (entVs l) 0).get (0 + (i : Int).toNat * 3 + 1) = some (.int .i64 e.2.1) := get_ofL0 (by have := (entVs_get h).2.1; simpa using this)
theorem entGet2 {l : List E} {i : Nat} {e : E} (h : l[i]? = some e) : (ofL (entVs l) 0).get (0 + (i : Int).toNat * 3 + 2) = some (.int .i64 e.2.2) := get_ofL0 (by have := (entVs_get h).2.2; simpa using this)
theorem entGetN {l : List E} {i : Nat} {e : E} (h : l[i]? = some e) : getN (ofL (entVs l) 0) 3 (0 + (i : Int).toNat * 3) = some [.int .i64 e.1, .int .i64 e.2.1, .int .i64 e.2.2] :=
  getN3 (entGet0 h) (entGet1 h) (entGet2 h)
theorem entGetR {l : List E} {i : Nat} {e : E} (h : l[i]? = some e) : getN (ofL (entVs l) 0) 2 (0 + (i : Int).toNat * 3 + 1) = some [.int .i64 e.2.1, .int .i64 e.2.2] :=
  getN2 (entGet1 h) (entGet2 h)

def starV (lo hi : Int) (sv : V) : V := .agg [.int .i64 lo, .int .i64 hi, sv]

theorem Sv.pos {k n : Nat} {v : V} (h : Sv k n v) (hn : 0 < n) : ∃ cap ex, v = .sl k 0 n cap ex := by
  cases h with
  | nil h0 => omega
  | sl => exact ⟨_, _, rfl⟩

theorem endsOf_ok (h : H) (lo hi : Int) (l : List E) (sv : V) (i : Nat) (e : E) (he : l[i]? = some e) (hs : SlC h (entVs l) l.length sv) :
    CallOk Try.prog 93 [starV lo hi sv, .int .i64 i] h (.agg [.int .i64 e.2.1, .int .i64 e.2.2]) h := by
  have hil : i < l.length := (List.getElem?_eq_some_iff.1 he).1
  obtain ⟨vo, svC, hsv, hca, hvw⟩ := hs.view 0
  obtain ⟨cap, ex, rfl⟩ := Sv.pos hsv (by omega)
  refine CallOk.run Try.func93 rfl rfl (argsC := [starV lo hi (.sl 0 0 l.length cap ex), .int .i64 i]) (Nat.le_of_ble_eq_true rfl) [vo] (.cons (CaL.agg (.cons (.bare rfl) (.cons (.bare rfl) (.cons (hca _ rfl) .nil)))) (CaL.lt0 rfl)) (viewMc1 entVs_bare hvw) rfl (WpR.of_vc ?_)
  (conv => whnf); (repeat' (first | ((with_reducible refine ifb_mk (fun hc => ?_) (fun hc => ?_)) <;> ((try simp only [decide_eq_true_eq, decide_eq_false_iff_not, Bool.not_eq_true', Bool.not_eq_false', Int.not_lt, Int.not_le, ne_eq, Decidable.not_not, beq_iff_eq, List.cons.injEq, and_true] at hc); (first | (exfalso; omega) | conv => whnf))) | ((with_reducible refine And.intro True.intro ?_); conv => whnf) | ((with_reducible refine grd_getN ?_); refine som_mk (a := ?_) ?hh ?_; (case hh => exact entGetR he); conv => whnf) | ((with_reducible refine And.intro ?hh ?_); (case hh => (unfold InR; (try dsimp only); omega)); conv => whnf) | ((with_reducible refine And.intro ?hh ?_); (case hh => ((try dsimp only); omega)); conv => whnf) | ((with_reducible refine And.intro ?hh ?_); (case hh => ((conv => whnf); (repeat' (first | exact True.intro | rfl | refine And.intro ?_ ?_)); done)); conv => whnf) | fail))
  all_goals (refine ⟨[], ?_, rfl, rfl, trivial, (by (repeat' (first | exact True.intro | rfl | refine And.intro ?_ ?_)))⟩; first | rfl | (simp only [renV, renL]; first | done | rfl | (congr 1; grind []) | grind []))
end Go.Proofs.D

namespace Go.Proofs.D
open Go.As
set_option maxRecDepth 20000
set_option linter.unusedVariables false
set_option linter.unusedSimpArgs false

structure OkS (lo hi : Int) (l : List E) : Prop where
  one : 1 ≤ l.length
  most : l.length ≤ 12
  rate : -500 ≤ lo ∧ lo ≤ hi ∧ hi ≤ 500
  ent : ∀ (i : Nat) (e : E), l[i]? = some e → 0 ≤ e.1 ∧ e.1 ≤ 200 ∧ -10000 ≤ e.2.1 ∧ e.2.1 ≤ e.2.2 ∧ e.2.2 ≤ 10000
  inc : ∀ (i j : Nat) (e f : E), i < j → l[i]? = some e → l[j]? = some f → e.1 < f.1

theorem fr_neg (a b : Int) : fr (-a) b = (-(fr a b).1, (fr a b).2) := by
  unfold fr
  rw [show Int.gcd (-a) b = Int.gcd a b from Int.neg_gcd, Int.neg_tdiv]

/-- The bounds by two entries. -/
def bnd2 (e f : E) : (Int × Int) × (Int × Int) := (fr (f.2.1 - e.2.2) (f.1 - e.1), fr (f.2.2 - e.2.1) (f.1 - e.1))
def bL (b : (Int × Int) × (Int × Int)) : List V := [.int .i64 b.1.1, .int .i64 b.1.2, .int .i64 b.2.1, .int .i64 b.2.2]

theorem bnd2_same {e f : E} (h : e.2.1 = f.2.1 ∧ e.2.2 = f.2.2) : bnd2 e f = ((-(fr (f.2.2 - e.2.1) (f.1 - e.1)).1, (fr (f.2.2 - e.2.1) (f.1 - e.1)).2), fr (f.2.2 - e.2.1) (f.1 - e.1)) := by
  unfold bnd2
  rw [show f.2.1 - e.2.2 = -(f.2.2 - e.2.1) from by omega, fr_neg]

theorem boundsStar_ok (h : H) (lo hi : Int) (L : List V) (hb : ∀ v ∈ L, bare0 v = true) (n : Nat) (sv : V) (hn : 0 < n) (hs : SlC h L n sv) :
    CallOk Try.prog 64 [starV lo hi sv, .agg [.int .i64 (-1), .int .i64 (-1)]] h (.agg (bL ((lo, 1), (hi, 1)))) h := by
  obtain ⟨vo, svC, hsv, hca, hvw⟩ := hs.view 0
  obtain ⟨cap, ex, rfl⟩ := Sv.pos hsv hn
  refine CallOk.run Try.func64 rfl rfl (argsC := [starV lo hi (.sl 0 0 n cap ex), .agg [.int .i64 (-1), .int .i64 (-1)]]) (Nat.le_of_ble_eq_true rfl) [vo] (.cons (CaL.agg (.cons (.bare rfl) (.cons (.bare rfl) (.cons (hca _ rfl) .nil)))) (CaL.lt0 rfl)) (viewMc1 hb hvw) rfl (WpR.of_vc ?_)
  (conv => whnf); (repeat' (first | ((with_reducible refine ifb_mk (fun hc => ?_) (fun hc => ?_)) <;> ((try simp only [decide_eq_true_eq, decide_eq_false_iff_not, Bool.not_eq_true', Bool.not_eq_false', Int.not_lt, Int.not_le, ne_eq, Decidable.not_not, beq_iff_eq, List.cons.injEq, and_true] at hc); (first | (exfalso; omega) | conv => whnf))) | ((with_reducible refine And.intro True.intro ?_); conv => whnf) | ((with_reducible refine grd_slow ?_); refine som_mk (a := ?_) ?hh ?_; (case hh => exact slow_eql (k := 2) (by kernel_rfl) [-1, -1] [-1, -1]); conv => whnf) | ((with_reducible refine WpR.draw (id := 2) mixed [0, 1, 2, 4, 5, 6, 3, 7, 8, 9] [0, 1, 3, 7, 0, 16, 48, 127, 255, 511] ?hh ?_); (case hh => kernel_rfl); conv => whnf) | ((with_reducible refine grd_ex ?_); refine ex_ok (whole_ok _ _) ?_; conv => whnf) | ((with_reducible refine And.intro ?hh ?_); (case hh => (unfold InR; (try dsimp only); omega)); conv => whnf) | ((with_reducible refine And.intro ?hh ?_); (case hh => ((try dsimp only); omega)); conv => whnf) | ((with_reducible refine And.intro ?hh ?_); (case hh => ((conv => whnf); (repeat' (first | exact True.intro | rfl | refine And.intro ?_ ?_)); done)); conv => whnf) | fail))
  all_goals (refine ⟨[], ?_, rfl, rfl, trivial, (by (repeat' (first | exact True.intro | rfl | refine And.intro ?_ ?_)))⟩; first | rfl | (simp only [renV, renL]; first | done | rfl | (congr 1; grind []) | grind []))

theorem fr_bd {a b m : Int} (hb : 0 < b) (ha : -m ≤ a ∧ a ≤ m) : -m ≤ (fr a b).1 ∧ (fr a b).1 ≤ m := tdiv_bd a _ (gcd_pos a b hb) m ha

theorem bounds2_ok (h : H) (lo hi : Int) (l : List E) (i j : Nat) (e f : E) (hi1 : l[i]? = some e) (hj1 : l[j]? = some f) (he : 0 ≤ e.1 ∧ e.1 ≤ 200 ∧ -10000 ≤ e.2.1 ∧ e.2.1 ≤ e.2.2 ∧ e.2.2 ≤ 10000) (hf : 0 ≤ f.1 ∧ f.1 ≤ 200 ∧ -10000 ≤ f.2.1 ∧ f.2.1 ≤ f.2.2 ∧ f.2.2 ≤ 10000) (hy : e.1 < f.1) (sv : V) (hs : SlC h (entVs l) l.length sv) :
    CallOk Try.prog 64 [starV lo hi sv, .agg [.int .i64 i, .int .i64 j]] h (.agg (bL (bnd2 e f))) h := by
  have hil : i < l.length := (List.getElem?_eq_some_iff.1 hi1).1
  have hjl : j < l.length := (List.getElem?_eq_some_iff.1 hj1).1
  obtain ⟨vo, svC, hsv, hca, hvw⟩ := hs.view 0
  obtain ⟨cap, ex, rfl⟩ := Sv.pos hsv (by omega)
  have hq1 : InQ (f.2.2 - e.2.1) := by unfold InQ; omega
  have hq2 : InQ (f.2.1 - e.2.2) := by unfold InQ; omega
  have hbd := fr_bd (a := f.2.2 - e.2.1) (b := f.1 - e.1) (m := 20000) (by omega) (by omega)
  refine CallOk.run Try.func64 rfl rfl (argsC := [starV lo hi (.sl 0 0 l.length cap ex), .agg [.int .i64 i, .int .i64 j]]) (Nat.le_of_ble_eq_true rfl) [vo] (.cons (CaL.agg (.cons (.bare rfl) (.cons (.bare rfl) (.cons (hca _ rfl) .nil)))) (CaL.lt0 rfl)) (viewMc1 entVs_bare hvw) rfl (WpR.of_vc ?_)
  (conv => whnf); (repeat' (first | ((with_reducible refine ifb_mk (fun hc => ?_) (fun hc => ?_)) <;> ((try simp only [decide_eq_true_eq, decide_eq_false_iff_not, Bool.not_eq_true', Bool.not_eq_false', Int.not_lt, Int.not_le, ne_eq, Decidable.not_not, beq_iff_eq, List.cons.injEq, and_true] at hc); (first | (exfalso; omega) | conv => whnf))) | ((with_reducible refine And.intro True.intro ?_); conv => whnf) | ((with_reducible refine grd_slow ?_); refine som_mk (a := ?_) ?hh ?_; (case hh => exact slow_eql (k := 2) (by kernel_rfl) [(i : Int), j] [-1, -1]); conv => whnf) | ((with_reducible refine grd_slow ?_); refine som_mk (a := ?_) ?hh ?_; (case hh => exact slow_eql (k := 2) (by kernel_rfl) [e.2.1, e.2.2] [f.2.1, f.2.2]); conv => whnf) | ((with_reducible refine WpR.draw (id := 3) mixed [0, 1, 2, 3, 4, 5, 6, 7, 8, 9, 10, 11, 12, 13, 14, 15] [0, 1, 0, 4, 15, 31, 63, 0, 128, 0, 512, 1920, 3968, 8064, 16383, 32767] ?hh ?_); (case hh => kernel_rfl); conv => whnf) | ((with_reducible refine WpR.draw (id := 4) mixed [0, 1, 2, 4, 5, 6, 8, 9, 3, 7, 10, 11] [0, 0, 2, 7, 0, 0, 32, 127, 0, 0, 1023, 2047] ?hh ?_); (case hh => kernel_rfl); conv => whnf) | ((with_reducible refine WpR.draw (id := 8) mixed [0, 1, 2, 3, 4, 5, 7, 6, 8, 9] [0, 1, 0, 4, 15, 0, 63, 0, 255, 511] ?hh ?_); (case hh => kernel_rfl); conv => whnf) | ((with_reducible refine grd_get ?_); refine som_mk (a := ?_) ?hh ?_; (case hh => exact entGet0 hi1); conv => whnf) | ((with_reducible refine grd_get ?_); refine som_mk (a := ?_) ?hh ?_; (case hh => exact entGet0 hj1); conv => whnf) | ((with_reducible refine grd_ex ?_); refine ex_ok (endsOf_ok _ lo hi l _ i e hi1 (SlC.sl rfl (fun _ _ h => by rw [Nat.zero_add]; exact get_ofL0 h))) ?_; conv => whnf) | ((with_reducible refine grd_ex ?_); refine ex_ok (endsOf_ok _ lo hi l _ j f hj1 (SlC.sl rfl (fun _ _ h => by rw [Nat.zero_add]; exact get_ofL0 h))) ?_; conv => whnf) | ((with_reducible refine CallX.all ?_); refine CallW.of_ok (fraction_ok _ _ _ hq1 ⟨by omega, by omega⟩) ?_; conv => whnf) | ((with_reducible refine grd_ex ?_); refine ex_ok (fraction_ok _ _ _ hq2 ⟨by omega, by omega⟩) ?_; conv => whnf) | ((with_reducible refine And.intro ?hh ?_); (case hh => (unfold InR; (try dsimp only); omega)); conv => whnf) | ((with_reducible refine And.intro ?hh ?_); (case hh => ((try dsimp only); omega)); conv => whnf) | ((with_reducible refine And.intro ?hh ?_); (case hh => ((conv => whnf); (repeat' (first | exact True.intro | rfl | refine And.intro ?_ ?_)); done)); conv => whnf) | fail))
  · rw [bnd2_same hc]
    exact ⟨[], rfl, rfl, rfl, trivial, (by (repeat' (first | exact True.intro | rfl | refine And.intro ?_ ?_)))⟩
  · exact ⟨[], rfl, rfl, rfl, trivial, (by (repeat' (first | exact True.intro | rfl | refine And.intro ?_ ?_)))⟩
end Go.Proofs.D

namespace Go.Proofs.D
open Go.As
set_option maxRecDepth 20000
set_option linter.unusedVariables false
set_option linter.unusedSimpArgs false

/-! ### The pairs of entries -/

def rowP (n i : Nat) : List (Int × Int) := (List.range' (i + 1) (n - (i + 1))).map fun (j : Nat) => ((i : Int), (j : Int))
def pairsL (n : Nat) : List (Int × Int) := (-1, -1) :: (List.range' 0 n).flatMap (rowP n)
def pV (p : Int × Int) : V := .agg [.int .i64 p.1, .int .i64 p.2]

theorem range'_cons (i n : Nat) (h : i < n) : List.range' i (n - i) = i :: List.range' (i + 1) (n - (i + 1)) := by
  rw [show n - i = (n - (i + 1)) + 1 from by omega, List.range'_succ]
theorem range'_nil (i n : Nat) (h : n ≤ i) : List.range' i (n - i) = [] := by
  rw [show n - i = 0 from by omega]; rfl

theorem drop_cons {α : Type} {l r : List α} {k : Nat} {x : α} (h : l.drop k = x :: r) : l[k]? = some x ∧ l.drop (k + 1) = r ∧ k < l.length := by
  have hk : k < l.length := by
    rcases Nat.lt_or_ge k l.length with h1 | h1
    · exact h1
    · rw [List.drop_eq_nil_of_le h1] at h; cases h
  rw [List.drop_eq_getElem_cons hk] at h
  simp only [List.cons.injEq] at h
  exact ⟨by rw [List.getElem?_eq_getElem hk, h.1], h.2, hk⟩

theorem pairs_iter {Y : List Nat} {l b1 b2 n : Nat} (hn : n ≤ 1000) (Hs : Nat → H) (h1 : ∀ k, (Hs k).get b1 = some (.cells (ofL [.int .i64 n] 0) true none)) (h2 : ∀ k, (Hs k).get b2 = some (.cells (ofL [.fn 72 [] []] 0) true none))
    (hl : memB Y l = false) (hb1 : memB Y b1 = false) (hb2 : memB Y b2 = false) (every : ∀ (h : H) (i : Int), CallOk Try.prog 72 [.int .i64 i] h (.bool true) h)
    (hstep : ∀ k p, (pairsL n)[k]? = some p → YldW Try.prog Y l [pV p] (Hs k) (fun v h' => v = .bool true ∧ h' = Hs (k + 1))) :
    CallW Try.prog Y 112 [.yld l, .ptr b1 0, .ptr b2 0] (Hs 0) (fun _ h' => h' = Hs (pairsL n).length) := by
  refine CallW.inline Try.func112 rfl rfl (Nat.le_of_ble_eq_true rfl) (WpR.of_vc ?_)
  conv => whnf
  refine YldX.low Y [0, 1, 2] (mayMove_self Y) ⟨by show (!memB Y l) = true; rw [hl]; rfl, by show (!memB Y b1) = true; rw [hb1]; rfl, by show (!memB Y b2) = true; rw [hb2]; rfl, trivial⟩ (YldW.mono (hstep 0 (-1, -1) rfl) ?_)
  rintro v h' ⟨rfl, rfl⟩
  conv => whnf
  refine cellsP_mk (h1 _) ?_
  conv => whnf
  refine WpR.loopT (S := fun p : Nat × Nat => ⟨tm [(0, .yld l), (1, .ptr b1 0), (2, .ptr b2 0), (10, .int .i64 n), (11, .int .i64 p.1)], 37, [], Hs p.2⟩) (μ := fun p => n - p.1) (J := fun p => p.1 ≤ n ∧ p.2 ≤ (pairsL n).length ∧ (pairsL n).drop p.2 = (List.range' p.1 (n - p.1)).flatMap (rowP n)) ?_ (0, 1) ⟨by dsimp only; omega, by simp [pairsL], by dsimp only; rw [Nat.sub_zero]; rfl⟩ (LessT.mk' rfl rfl rfl ⟨rfl, rfl, rfl, rfl, rfl, trivial⟩)
  rintro ⟨i, k⟩ ⟨hi, hk, hd⟩
  dsimp only at hi hk hd
  refine WpR.of_vc ?_
  conv => whnf
  refine ifb_mk (fun hc => ?_) (fun hc => ?_)
  · have hlt : i < n := by have := of_decide_eq_true hc; omega
    clear hc
    rw [range'_cons i n hlt, List.flatMap_cons] at hd
    conv => whnf
    refine cellsP_mk (h2 _) ?_
    conv => whnf
    (with_reducible refine CallX.all ?_); refine CallW.of_ok (every _ _) ?_; conv => whnf
    (conv => whnf); (repeat' (first | ((with_reducible refine ifb_mk (fun hc => ?_) (fun hc => ?_)) <;> ((try simp only [decide_eq_true_eq, decide_eq_false_iff_not, Bool.not_eq_true', Bool.not_eq_false', Int.not_lt, Int.not_le, ne_eq, Decidable.not_not, beq_iff_eq, List.cons.injEq, and_true] at hc); (first | (exfalso; omega) | conv => whnf))) | ((with_reducible refine And.intro True.intro ?_); conv => whnf) | ((with_reducible refine And.intro ?hh ?_); (case hh => (unfold InR; (try dsimp only); omega)); conv => whnf) | ((with_reducible refine And.intro ?hh ?_); (case hh => ((try dsimp only); omega)); conv => whnf) | ((with_reducible refine And.intro ?hh ?_); (case hh => ((conv => whnf); (repeat' (first | exact True.intro | rfl | refine And.intro ?_ ?_)); done)); conv => whnf) | fail))
    refine WpR.loopT (S := fun p : Nat × Nat => ⟨tm [(0, .yld l), (1, .ptr b1 0), (2, .ptr b2 0), (10, .int .i64 n), (11, .int .i64 i), (4, .int .i64 i), (5, .int .i64 p.1)], 37, [], Hs p.2⟩) (μ := fun p => n - p.1)
      (J := fun p => i < p.1 ∧ p.1 ≤ n ∧ p.2 ≤ (pairsL n).length ∧ (pairsL n).drop p.2 = ((List.range' p.1 (n - p.1)).map fun (j : Nat) => ((i : Int), (j : Int))) ++ (List.range' (i + 1) (n - (i + 1))).flatMap (rowP n)) ?_ (i + 1, k) ⟨by dsimp only; omega, by dsimp only; omega, hk, hd⟩ (LessT.mk' rfl rfl rfl ⟨rfl, rfl, rfl, rfl, rfl, rfl, rfl, trivial⟩)
    rintro ⟨j, k⟩ ⟨hij, hj, hk, hd⟩
    dsimp only at hij hj hk hd
    refine WpR.of_vc ?_
    conv => whnf
    refine cellsP_mk (h1 _) ?_
    conv => whnf
    refine ifb_mk (fun hc => ?_) (fun hc => ?_)
    · have hlt2 : j < n := by have := of_decide_eq_true hc; omega
      clear hc
      rw [range'_cons j n hlt2, List.map_cons, List.cons_append] at hd
      obtain ⟨hp, hd', hkl⟩ := drop_cons hd
      conv => whnf
      refine cellsP_mk (h2 _) ?_
      conv => whnf
      (with_reducible refine CallX.all ?_); refine CallW.of_ok (every _ _) ?_; conv => whnf
      refine YldX.low Y [0, 1, 2, 10, 11, 4, 5, 27, 28] (mayMove_self Y) ⟨by show (!memB Y l) = true; rw [hl]; rfl, by show (!memB Y b1) = true; rw [hb1]; rfl, by show (!memB Y b2) = true; rw [hb2]; rfl, rfl, rfl, rfl, rfl, rfl, rfl, trivial⟩ (YldW.mono (hstep k (i, j) hp) ?_)
      rintro v h' ⟨rfl, rfl⟩
      (conv => whnf); (repeat' (first | ((with_reducible refine ifb_mk (fun hc => ?_) (fun hc => ?_)) <;> ((try simp only [decide_eq_true_eq, decide_eq_false_iff_not, Bool.not_eq_true', Bool.not_eq_false', Int.not_lt, Int.not_le, ne_eq, Decidable.not_not, beq_iff_eq, List.cons.injEq, and_true] at hc); (first | (exfalso; omega) | conv => whnf))) | ((with_reducible refine And.intro True.intro ?_); conv => whnf) | ((with_reducible refine And.intro ?hh ?_); (case hh => (unfold InR; (try dsimp only); omega)); conv => whnf) | ((with_reducible refine And.intro ?hh ?_); (case hh => ((try dsimp only); omega)); conv => whnf) | ((with_reducible refine And.intro ?hh ?_); (case hh => ((conv => whnf); (repeat' (first | exact True.intro | rfl | refine And.intro ?_ ?_)); done)); conv => whnf) | fail))
      exact ⟨(j + 1, k + 1), by dsimp only; omega, ⟨by dsimp only; omega, by dsimp only; omega, by dsimp only; omega, hd'⟩, LessT.mk' rfl rfl rfl ⟨rfl, rfl, rfl, rfl, rfl, rfl, rfl, trivial⟩⟩
    · have hge : n ≤ j := by have := of_decide_eq_false hc; omega
      clear hc
      rw [range'_nil j n hge, List.map_nil, List.nil_append] at hd
      (conv => whnf); (repeat' (first | ((with_reducible refine ifb_mk (fun hc => ?_) (fun hc => ?_)) <;> ((try simp only [decide_eq_true_eq, decide_eq_false_iff_not, Bool.not_eq_true', Bool.not_eq_false', Int.not_lt, Int.not_le, ne_eq, Decidable.not_not, beq_iff_eq, List.cons.injEq, and_true] at hc); (first | (exfalso; omega) | conv => whnf))) | ((with_reducible refine And.intro True.intro ?_); conv => whnf) | ((with_reducible refine And.intro ?hh ?_); (case hh => (unfold InR; (try dsimp only); omega)); conv => whnf) | ((with_reducible refine And.intro ?hh ?_); (case hh => ((try dsimp only); omega)); conv => whnf) | ((with_reducible refine And.intro ?hh ?_); (case hh => ((conv => whnf); (repeat' (first | exact True.intro | rfl | refine And.intro ?_ ?_)); done)); conv => whnf) | fail))
      exact ⟨(i + 1, k), by dsimp only; omega, ⟨by dsimp only; omega, hk, hd⟩, LessT.mk' rfl rfl rfl ⟨rfl, rfl, rfl, rfl, rfl, trivial⟩⟩
  · have hge : n ≤ i := by have := of_decide_eq_false hc; omega
    clear hc
    rw [range'_nil i n hge] at hd
    have hkl : k = (pairsL n).length := by
      have := congrArg List.length hd
      simp at this
      omega
    (conv => whnf); (repeat' (first | ((with_reducible refine ifb_mk (fun hc => ?_) (fun hc => ?_)) <;> ((try simp only [decide_eq_true_eq, decide_eq_false_iff_not, Bool.not_eq_true', Bool.not_eq_false', Int.not_lt, Int.not_le, ne_eq, Decidable.not_not, beq_iff_eq, List.cons.injEq, and_true] at hc); (first | (exfalso; omega) | conv => whnf))) | ((with_reducible refine And.intro True.intro ?_); conv => whnf) | ((with_reducible refine And.intro ?hh ?_); (case hh => (unfold InR; (try dsimp only); omega)); conv => whnf) | ((with_reducible refine And.intro ?hh ?_); (case hh => ((try dsimp only); omega)); conv => whnf) | ((with_reducible refine And.intro ?hh ?_); (case hh => ((conv => whnf); (repeat' (first | exact True.intro | rfl | refine And.intro ?_ ?_)); done)); conv => whnf) | fail))
    rw [hkl]
end Go.Proofs.D

namespace Go.Proofs.D
open Go.As
set_option maxRecDepth 20000
set_option linter.unusedVariables false
set_option linter.unusedSimpArgs false

theorem every_ok (h : H) (i : Int) : CallOk Try.prog 72 [.int .i64 i] h (.bool true) h := by
  refine CallOk.run0 Try.func72 rfl rfl rfl rfl rfl (WpR.of_vc ?_)
  (conv => whnf); (repeat' (first | ((with_reducible refine ifb_mk (fun hc => ?_) (fun hc => ?_)) <;> ((try simp only [decide_eq_true_eq, decide_eq_false_iff_not, Bool.not_eq_true', Bool.not_eq_false', Int.not_lt, Int.not_le, ne_eq, Decidable.not_not, beq_iff_eq, List.cons.injEq, and_true] at hc); (first | (exfalso; omega) | conv => whnf))) | ((with_reducible refine And.intro True.intro ?_); conv => whnf) | ((with_reducible refine And.intro ?hh ?_); (case hh => (unfold InR; (try dsimp only); omega)); conv => whnf) | ((with_reducible refine And.intro ?hh ?_); (case hh => ((try dsimp only); omega)); conv => whnf) | ((with_reducible refine And.intro ?hh ?_); (case hh => ((conv => whnf); (repeat' (first | exact True.intro | rfl | refine And.intro ?_ ?_)); done)); conv => whnf) | fail))
  all_goals (refine ⟨[], ?_, rfl, rfl, trivial, (by (repeat' (first | exact True.intro | rfl | refine And.intro ?_ ?_)))⟩; first | rfl | (simp only [renV, renL]; first | done | rfl | (congr 1; grind []) | grind []))

/-! ### Cards -/

abbrev Bd := (Int × Int) × (Int × Int)
/-- The entries of the map of bounds. -/
def mapB (B : List ((Int × Int) × Bd × Nat)) : List (Value × V × Nat) := B.map fun x => (key2 x.1, .agg (bL x.2.1), x.2.2)

theorem pairs_use {K : V → H → Prop} {Y : List Nat} {h0 : H} {l b1 b2 n : Nat} (hn : n ≤ 1000) (hv : Nat → List (Nat × Blk)) (n1 : Nat) (ids dd : List Nat) (wf : WfH h0 Y ids dd n1) (rl0 : List (Nat × Nat)) (init : BackH h0 Y (hv 0) n1 dd rl0 h0) (hok : ∀ k, OkH h0 Y ids dd n1 (hv k))
    (h1 : ∀ k, (hD h0 (hv k) n1).get b1 = some (.cells (ofL [.int .i64 n] 0) true none)) (h2 : ∀ k, (hD h0 (hv k) n1).get b2 = some (.cells (ofL [.fn 72 [] []] 0) true none))
    (hl : memB Y l = false) (hb1 : memB Y b1 = false) (hb2 : memB Y b2 = false) (hlt : Nat.blt l n1 = true ∧ Nat.blt b1 n1 = true ∧ Nat.blt b2 n1 = true)
    (hstep : ∀ k p, (pairsL n)[k]? = some p → YldW Try.prog Y l [pV p] (hD h0 (hv k) n1) (fun v h' => v = .bool true ∧ ∃ rl, BackH h0 Y (hv (k + 1)) n1 dd rl h'))
    (hK : ∀ v N, N = (pairsL n).length → K v (hD h0 (hv N) n1)) : CallW Try.prog Y 112 [.yld l, .ptr b1 0, .ptr b2 0] h0 K := by
  have hren : ∀ b, memB Y b = false → rho rl0 b = b := fun b hb => rho_out init.rge b (memB_not hb)
  refine CallW.pre (args1 := [.yld l, .ptr b1 0, .ptr b2 0]) init wf (hok 0) (fun i hi => .inr hi) (by simp only [renL, renV, hren l hl, hren b1 hb1, hren b2 hb2]) (by simp only [ltL, ltV, hlt.1, hlt.2.1, hlt.2.2]; rfl) ?_
  refine (pairs_iter hn (fun k => hD h0 (hv k) n1) h1 h2 hl hb1 hb2 every_ok (fun k p hp => ?_)).mono (fun v h' hh => by subst hh; exact hK v _ rfl)
  refine YldW.back (hstep k p hp) wf (fun i hi => .inr hi) (Nat.le_refl _) rfl (fun v h' ⟨hv', rl, hb⟩ => ⟨hok (k + 1), rl, by subst hv'; rfl, hb⟩) ⟨rfl, rfl⟩

/-! ### The best of a list -/

def stepB {α : Type} (better : α → α → Bool) (a : Option α) (x : α) : Option α := match a with
  | none => some x
  | some f => some (if better x f then x else f)

def getB (B : List ((Int × Int) × Bd × Nat)) (p : Int × Int) : Option Bd := (B.find? fun x => decide (p = x.1)).map (·.2.1)
def sideB (s : Int) (b : Bd) : Int × Int := if s = 1 then b.2 else b.1
def tighterF (s : Int) (a b : Int × Int) : Bool := if s = 1 then decide (a.1 * b.2 < b.1 * a.2) else decide (b.1 * a.2 < a.1 * b.2)
def betterB (B : List ((Int × Int) × Bd × Nat)) (s : Int) (p q : Int × Int) : Bool := match getB B p, getB B q with
  | some a, some b => tighterF s (sideB s a) (sideB s b)
  | _, _ => false
def stepT (B : List ((Int × Int) × Bd × Nat)) (s : Int) (a : Option (Int × Int)) (p : Int × Int) : Option (Int × Int) := match getB B p with
  | some _ => stepB (betterB B s) a p
  | none => a
def tightL (B : List ((Int × Int) × Bd × Nat)) (s : Int) (l : List (Int × Int)) : Option (Int × Int) := l.foldl (stepT B s) none

theorem foldl_take {α β : Type} (f : β → α → β) (z : β) {l : List α} {k : Nat} {x : α} (h : l[k]? = some x) : (l.take (k + 1)).foldl f z = f ((l.take k).foldl f z) x := by
  rw [List.take_add_one, h]
  simp

theorem tightL_take {B : List ((Int × Int) × Bd × Nat)} {s : Int} {l : List (Int × Int)} {k : Nat} {x : Int × Int} (h : l[k]? = some x) : tightL B s (l.take (k + 1)) = stepT B s (tightL B s (l.take k)) x := foldl_take _ _ h
theorem stepB_true {α : Type} {g : α → α → Bool} {f x : α} (h : g x f = true) : stepB g (some f) x = some x := by show some (if g x f = true then x else f) = _; rw [if_pos h]
theorem stepB_false {α : Type} {g : α → α → Bool} {f x : α} (h : g x f = false) : stepB g (some f) x = some f := by show some (if g x f = true then x else f) = _; rw [h]; rfl
theorem betterB_eq {B : List ((Int × Int) × Bd × Nat)} {s : Int} {p f : Int × Int} {b bf : Bd} (h1 : getB B p = some b) (h2 : getB B f = some bf) : betterB B s p f = tighterF s (sideB s b) (sideB s bf) := by unfold betterB; rw [h1, h2]
theorem stepT_none {B : List ((Int × Int) × Bd × Nat)} {s : Int} {a : Option (Int × Int)} {p : Int × Int} (h : getB B p = none) : stepT B s a p = a := by unfold stepT; rw [h]
theorem stepT_some {B : List ((Int × Int) × Bd × Nat)} {s : Int} {a : Option (Int × Int)} {p : Int × Int} {b : Bd} (h : getB B p = some b) : stepT B s a p = stepB (betterB B s) a p := by unfold stepT; rw [h]

theorem tightL_in {B : List ((Int × Int) × Bd × Nat)} {s : Int} {l : List (Int × Int)} {f : Int × Int} (h : tightL B s l = some f) : ∃ b, getB B f = some b := by
  have : ∀ (l : List (Int × Int)) (a : Option (Int × Int)), (∀ f, a = some f → ∃ b, getB B f = some b) → ∀ f, l.foldl (stepT B s) a = some f → ∃ b, getB B f = some b := by
    intro l
    induction l with
    | nil => intro a ha f hf; exact ha f hf
    | cons x l ih =>
      intro a ha f hf
      refine ih _ (fun g hg => ?_) f hf
      cases hx : getB B x with
      | none => rw [stepT_none hx] at hg; exact ha g hg
      | some b =>
        rw [stepT_some hx] at hg
        cases a with
        | none => cases hg; exact ⟨b, hx⟩
        | some a =>
          simp only [stepB, Option.some.injEq] at hg
          by_cases hb : betterB B s x a = true
          · rw [if_pos hb] at hg; subst hg; exact ⟨b, hx⟩
          · rw [if_neg hb] at hg; subst hg; exact ha _ rfl
  exact this l none (fun _ h => by cases h) f h

/-- A bound that comes of few entries. -/
structure OkQ (q : Int × Int) : Prop where
  num : -20000 ≤ q.1 ∧ q.1 ≤ 20000
  den : 1 ≤ q.2 ∧ q.2 ≤ 200
def OkB (B : List ((Int × Int) × Bd × Nat)) : Prop := ∀ p b, getB B p = some b → (-20000 ≤ b.1.1 ∧ b.1.1 ≤ 20000) ∧ (1 ≤ b.1.2 ∧ b.1.2 ≤ 200) ∧ (-20000 ≤ b.2.1 ∧ b.2.1 ≤ 20000) ∧ (1 ≤ b.2.2 ∧ b.2.2 ≤ 200)

theorem ltB_mapB {n clock : Nat} {B : List ((Int × Int) × Bd × Nat)} : ltB n (.map (mapB B) clock) := by
  intro e he
  unfold mapB at he
  obtain ⟨x, _, rfl⟩ := List.mem_map.1 he
  rfl

theorem keysPair : KeysOk Try.prog 97 key2 := keysOk_two (fs := _) rfl (by kernel_rfl) (by kernel_rfl) rfl

theorem getB_some {B : List ((Int × Int) × Bd × Nat)} {p : Int × Int} {b : Bd} (h : getB B p = some b) : ∃ j c, (B.map (·.1)).findIdx? (fun a => decide (p = a)) = some j ∧ (mapB B)[j]? = some (key2 p, .agg (bL b), c) := by
  unfold getB at h
  induction B with
  | nil => simp at h
  | cons x B ih =>
    rw [List.find?_cons] at h
    rw [List.map_cons, List.findIdx?_cons]
    by_cases hx : p = x.1
    · rw [decide_eq_true hx] at h ⊢
      simp at h
      subst h
      exact ⟨0, x.2.2, by simp, by simp [mapB, hx]⟩
    · rw [decide_eq_false hx] at h ⊢
      obtain ⟨j, c, h1, h2⟩ := ih h
      exact ⟨j + 1, c, by simp [h1], by simpa [mapB] using h2⟩

theorem getB_none {B : List ((Int × Int) × Bd × Nat)} {p : Int × Int} (h : getB B p = none) : (B.map (·.1)).findIdx? (fun a => decide (p = a)) = none := by
  unfold getB at h
  rw [List.findIdx?_eq_none_iff]
  intro x hx
  obtain ⟨y, hy, rfl⟩ := List.mem_map.1 hx
  have := List.find?_eq_none.1 (Option.map_eq_none_iff.1 h) y hy
  simpa using this

theorem mapB_keys (B : List ((Int × Int) × Bd × Nat)) : (mapB B).map (·.1) = (B.map (·.1)).map key2 := by
  unfold mapB; simp [List.map_map]

theorem findB (em : Bool) (B : List ((Int × Int) × Bd × Nat)) (p : Int × Int) : findAt Try.prog em 97 (key2 p) (mapB B) = some ((B.map (·.1)).findIdx? fun a => decide (p = a)) :=
  findAt_ok keysPair em p (B.map (·.1)) (mapB_keys B)

theorem findB_some {B : List ((Int × Int) × Bd × Nat)} {p : Int × Int} {b : Bd} (h : getB B p = some b) : ∃ j c, (∀ em, findAt Try.prog em 97 (key2 p) (mapB B) = some (some j)) ∧ (mapB B)[j]? = some (key2 p, .agg (bL b), c) := by
  obtain ⟨j, c, h1, h2⟩ := getB_some h
  exact ⟨j, c, fun em => (findB em B p).trans (by rw [h1]), h2⟩
theorem findB_none {B : List ((Int × Int) × Bd × Nat)} {p : Int × Int} (h : getB B p = none) (em : Bool) : findAt Try.prog em 97 (key2 p) (mapB B) = some none := (findB em B p).trans (by rw [getB_none h])

theorem InR_mul {a d : Int} (h1 : -20000 ≤ a ∧ a ≤ 20000) (h2 : 1 ≤ d ∧ d ≤ 200) : InR (a * d) := by
  have := Int.mul_le_mul_of_nonneg_right h1.2 (by omega : (0 : Int) ≤ d)
  have := Int.mul_le_mul_of_nonneg_right h1.1 (by omega : (0 : Int) ≤ d)
  unfold InR; omega

theorem tight2_ok (h : H) (s : Int) (a b : Int × Int) (h1 : -20000 ≤ a.1 ∧ a.1 ≤ 20000) (h2 : 1 ≤ a.2 ∧ a.2 ≤ 200) (h3 : -20000 ≤ b.1 ∧ b.1 ≤ 20000) (h4 : 1 ≤ b.2 ∧ b.2 ≤ 200) : CallOk Try.prog 98 [.int .i64 s, .agg [.int .i64 a.1, .int .i64 a.2], .agg [.int .i64 b.1, .int .i64 b.2]] h (.bool (tighterF s a b)) h :=
  tighter_ok h s a.1 a.2 b.1 b.2 (InR_mul h1 h4) (InR_mul h3 h2)

set_option maxHeartbeats 2000000 in
theorem tightest_try (lo hi : Int) (n : Nat) (hn : n ≤ 1000) (L : List V) (hL : ∀ v ∈ L, bare0 v = true) (cap : Nat) (ex : Bool) (B : List ((Int × Int) × Bd × Nat)) (clock : Nat) (hB : OkB B) (s : Int) (hs : s = 0 ∨ s = 1) :
   CallW Try.prog [] 69 [.agg [.int .i64 lo, .int .i64 hi, .sl 0 0 n cap ex, .map 1], .int .i64 s] (hp [.cells (ofL L 0) false none, .map (mapB B) clock]) (RetRO [.cells (ofL L 0) false none, .map (mapB B) clock] (fun _ => []) (fun _ => pV ((tightL B s (pairsL n)).getD (0, 0)))) := by
  have hMap : ∀ n, ltB n (.map (mapB B) clock) := fun _ => ltB_mapB
  refine CallW.inline Try.func69 rfl rfl (Nat.le_of_ble_eq_true rfl) (WpR.of_vc ?_)
  (conv => whnf); (repeat' (first | ((with_reducible refine ifb_mk (fun hc => ?_) (fun hc => ?_)) <;> ((try simp only [decide_eq_true_eq, decide_eq_false_iff_not, Bool.not_eq_true', Bool.not_eq_false', Int.not_lt, Int.not_le, ne_eq, Decidable.not_not, beq_iff_eq, List.cons.injEq, and_true] at hc); (first | (exfalso; omega) | conv => whnf))) | ((with_reducible refine And.intro True.intro ?_); conv => whnf) | ((with_reducible refine CallX.all (f := 96) ?_); refine CallW.inline Try.func96 rfl rfl (Nat.le_of_ble_eq_true rfl) (WpR.of_vc ?_); conv => whnf) | ((with_reducible refine CallX.all (f := 95) ?_); refine CallW.inline Try.func95 rfl rfl (Nat.le_of_ble_eq_true rfl) (WpR.of_vc ?_); conv => whnf) | ((with_reducible refine RangeX.all ?_); conv => whnf) | ((with_reducible refine CallW.inline (f := 111) Try.func111 rfl rfl (Nat.le_of_ble_eq_true rfl) (WpR.of_vc ?_)); conv => whnf) | ((with_reducible refine CallX.all (f := 99) ?_); refine CallW.inline Try.func99 rfl rfl (Nat.le_of_ble_eq_true rfl) (WpR.of_vc ?_); conv => whnf) | ((with_reducible refine And.intro ?hh ?_); (case hh => (unfold InR; (try dsimp only); omega)); conv => whnf) | ((with_reducible refine And.intro ?hh ?_); (case hh => ((try dsimp only); omega)); conv => whnf) | ((with_reducible refine And.intro ?hh ?_); (case hh => ((conv => whnf); (repeat' (first | exact True.intro | rfl | refine And.intro ?_ ?_)); done)); conv => whnf) | fail))
  refine pairs_use hn (fun k => [(8, .cells (ofL [.int .i64 ((tightL B s ((pairsL n).take k)).getD (0, 0)).1, .int .i64 ((tightL B s ((pairsL n).take k)).getD (0, 0)).2] 0) true none), (9, .cells (ofL [.bool (tightL B s ((pairsL n).take k)).isNone] 0) true none)]) 17 [8, 9] [] ⟨(by (conv => whnf); exact rfl), rfl, (by (repeat' (first | exact True.intro | (with_reducible exact avB_nil _) | ((with_reducible refine avB_all ?_); rfl) | ((with_reducible refine avB_ofLb ?_); exact (by first | exact bare0_ints | assumption | (intro v hv; (repeat (rcases List.mem_cons.1 hv with rfl | hv; exact rfl)); cases hv))) | ((with_reducible refine ltB_all ?_); rfl) | ((with_reducible refine ltB_ofLb ?_); exact (by first | exact bare0_ints | assumption | (intro v hv; (repeat (rcases List.mem_cons.1 hv with rfl | hv; exact rfl)); cases hv))) | ((with_reducible refine ltB_loop ?_ ?_) <;> rfl) | (with_reducible exact hMap _) | (with_reducible exact hMap2 _) | (with_reducible exact ltB_mapB) | ((with_reducible refine grB_lt ?_ _); exact (by first | exact bare0_ints | assumption | (intro v hv; (repeat (rcases List.mem_cons.1 hv with rfl | hv; exact rfl)); cases hv))) | (with_reducible assumption) | refine And.intro ?_ ?_ | exact (by first | exact True.intro | exact ltB_all rfl | exact ltB_ofLb (by first | exact bare0_ints | assumption | (intro v hv; (repeat (rcases List.mem_cons.1 hv with rfl | hv; exact rfl)); cases hv)) | exact ltB_loop rfl rfl | exact hMap _ | exact hMap2 _ | exact grB_lt (by first | exact bare0_ints | assumption | (intro v hv; (repeat (rcases List.mem_cons.1 hv with rfl | hv; exact rfl)); cases hv)) _ | exact ltB_mapB | assumption)))), rfl, rfl⟩ [] ⟨(by (repeat' (first | exact True.intro | rfl | refine And.intro ?_ ?_))), (by (repeat' (first | exact True.intro | exact Or.inl rfl | refine And.intro ?_ ?_ | refine Or.inr ⟨_, rfl, ?_⟩ | exact SubQ.same (n := 1000) (Y := []) (fun _ _ _ => rfl) (by first | exact True.intro | exact ltB_all rfl | exact ltB_ofLb (by first | exact bare0_ints | assumption | (intro v hv; (repeat (rcases List.mem_cons.1 hv with rfl | hv; exact rfl)); cases hv)) | exact ltB_loop rfl rfl | exact hMap _ | exact hMap2 _ | exact grB_lt (by first | exact bare0_ints | assumption | (intro v hv; (repeat (rcases List.mem_cons.1 hv with rfl | hv; exact rfl)); cases hv)) _ | exact ltB_mapB | assumption) (avB_nil _) rfl | exact SubQ.ofL (by first | rfl | simp) (by first | exact bare0_ints | assumption | (intro v hv; (repeat (rcases List.mem_cons.1 hv with rfl | hv; exact rfl)); cases hv)) (by first | exact Or.inl rfl | exact Or.inr rfl) | exact SubQ.fin (by (conv => whnf); (repeat' (first | exact True.intro | rfl | refine And.intro ?_ ?_)); done) (fun h => h) (by first | exact Or.inl rfl | exact Or.inr rfl)))), rfl, rfl⟩ (fun k => ⟨rfl, (by (repeat' (first | exact True.intro | rfl | refine And.intro ?_ ?_ | exact (by decide) | exact (by first | exact True.intro | exact hMap _ | exact hMap2 _ | exact grB_lt (by first | exact bare0_ints | assumption | (intro v hv; (repeat (rcases List.mem_cons.1 hv with rfl | hv; exact rfl)); cases hv)) _ | exact ltB_all rfl | exact ltB_ofLb (by first | exact bare0_ints | assumption | (intro v hv; (repeat (rcases List.mem_cons.1 hv with rfl | hv; exact rfl)); cases hv)) | exact ltB_loop rfl rfl | exact ltB_mapB | assumption)))), (by (repeat' (first | exact True.intro | rfl | refine And.intro ?_ ?_)))⟩) (fun k => rfl) (fun k => rfl) rfl rfl rfl ⟨rfl, rfl, rfl⟩ (fun k p hp => ?_) (fun v N hN => ?_)
  · refine YldW.inline rfl rfl rfl (WpR.of_vc ?_)
    conv => whnf
    refine ⟨rfl, _, rfl, rfl, WpR.of_vc ?_⟩
    conv => whnf
    cases hg : getB B p with
    | none =>
      refine som_mk (findB_none hg _) ?_
      conv => whnf
      (conv => whnf); (repeat' (first | ((with_reducible refine ifb_mk (fun hc => ?_) (fun hc => ?_)) <;> ((try simp only [decide_eq_true_eq, decide_eq_false_iff_not, Bool.not_eq_true', Bool.not_eq_false', Int.not_lt, Int.not_le, ne_eq, Decidable.not_not, beq_iff_eq, List.cons.injEq, and_true] at hc); (first | (exfalso; omega) | conv => whnf))) | ((with_reducible refine And.intro True.intro ?_); conv => whnf) | ((with_reducible refine And.intro ?hh ?_); (case hh => (unfold InR; (try dsimp only); omega)); conv => whnf) | ((with_reducible refine And.intro ?hh ?_); (case hh => ((try dsimp only); omega)); conv => whnf) | ((with_reducible refine And.intro ?hh ?_); (case hh => ((conv => whnf); (repeat' (first | exact True.intro | rfl | refine And.intro ?_ ?_)); done)); conv => whnf) | fail))
      rw [tightL_take hp, stepT_none hg]
      exact ⟨_, _, rfl, rfl, [], ⟨(by (repeat' (first | exact True.intro | rfl | refine And.intro ?_ ?_))), (by (repeat' (first | exact True.intro | exact Or.inl rfl | refine And.intro ?_ ?_ | refine Or.inr ⟨_, rfl, ?_⟩ | exact SubQ.same (n := 1000) (Y := []) (fun _ _ _ => rfl) (by first | exact True.intro | exact ltB_all rfl | exact ltB_ofLb (by first | exact bare0_ints | assumption | (intro v hv; (repeat (rcases List.mem_cons.1 hv with rfl | hv; exact rfl)); cases hv)) | exact ltB_loop rfl rfl | exact hMap _ | exact hMap2 _ | exact grB_lt (by first | exact bare0_ints | assumption | (intro v hv; (repeat (rcases List.mem_cons.1 hv with rfl | hv; exact rfl)); cases hv)) _ | exact ltB_mapB | assumption) (avB_nil _) rfl | exact SubQ.ofL (by first | rfl | simp) (by first | exact bare0_ints | assumption | (intro v hv; (repeat (rcases List.mem_cons.1 hv with rfl | hv; exact rfl)); cases hv)) (by first | exact Or.inl rfl | exact Or.inr rfl) | exact SubQ.fin (by (conv => whnf); (repeat' (first | exact True.intro | rfl | refine And.intro ?_ ?_)); done) (fun h => h) (by first | exact Or.inl rfl | exact Or.inr rfl)))), rfl, rfl⟩⟩
    | some b =>
      obtain ⟨j, c, hj1, hj2⟩ := findB_some hg
      refine som_mk (hj1 _) ?_
      conv => whnf
      refine som_mk hj2 ?_
      conv => whnf
      (conv => whnf); (repeat' (first | ((with_reducible refine ifb_mk (fun hc => ?_) (fun hc => ?_)) <;> ((try simp only [decide_eq_true_eq, decide_eq_false_iff_not, Bool.not_eq_true', Bool.not_eq_false', Int.not_lt, Int.not_le, ne_eq, Decidable.not_not, beq_iff_eq, List.cons.injEq, and_true] at hc); (first | (exfalso; omega) | conv => whnf))) | ((with_reducible refine And.intro True.intro ?_); conv => whnf) | ((with_reducible refine And.intro ?hh ?_); (case hh => (unfold InR; (try dsimp only); omega)); conv => whnf) | ((with_reducible refine And.intro ?hh ?_); (case hh => ((try dsimp only); omega)); conv => whnf) | ((with_reducible refine And.intro ?hh ?_); (case hh => ((conv => whnf); (repeat' (first | exact True.intro | rfl | refine And.intro ?_ ?_)); done)); conv => whnf) | fail))
      rw [tightL_take hp, stepT_some hg]
      refine YldX.all ?_
      refine YldW.inline rfl rfl rfl (WpR.of_vc ?_)
      cases hacc : tightL B s (List.take k (pairsL n)) with
      | none =>
        conv => whnf
        refine ⟨rfl, _, rfl, rfl, WpR.of_vc ?_⟩
        (conv => whnf); (repeat' (first | ((with_reducible refine ifb_mk (fun hc => ?_) (fun hc => ?_)) <;> ((try simp only [decide_eq_true_eq, decide_eq_false_iff_not, Bool.not_eq_true', Bool.not_eq_false', Int.not_lt, Int.not_le, ne_eq, Decidable.not_not, beq_iff_eq, List.cons.injEq, and_true] at hc); (first | (exfalso; omega) | conv => whnf))) | ((with_reducible refine And.intro True.intro ?_); conv => whnf) | ((with_reducible refine And.intro ?hh ?_); (case hh => (unfold InR; (try dsimp only); omega)); conv => whnf) | ((with_reducible refine And.intro ?hh ?_); (case hh => ((try dsimp only); omega)); conv => whnf) | ((with_reducible refine And.intro ?hh ?_); (case hh => ((conv => whnf); (repeat' (first | exact True.intro | rfl | refine And.intro ?_ ?_)); done)); conv => whnf) | fail))
        refine ⟨_, _, rfl, ?_⟩
        conv => whnf
        exact ⟨_, _, rfl, rfl, [], ⟨(by (repeat' (first | exact True.intro | rfl | refine And.intro ?_ ?_))), (by (repeat' (first | exact True.intro | exact Or.inl rfl | refine And.intro ?_ ?_ | refine Or.inr ⟨_, rfl, ?_⟩ | exact SubQ.same (n := 1000) (Y := []) (fun _ _ _ => rfl) (by first | exact True.intro | exact ltB_all rfl | exact ltB_ofLb (by first | exact bare0_ints | assumption | (intro v hv; (repeat (rcases List.mem_cons.1 hv with rfl | hv; exact rfl)); cases hv)) | exact ltB_loop rfl rfl | exact hMap _ | exact hMap2 _ | exact grB_lt (by first | exact bare0_ints | assumption | (intro v hv; (repeat (rcases List.mem_cons.1 hv with rfl | hv; exact rfl)); cases hv)) _ | exact ltB_mapB | assumption) (avB_nil _) rfl | exact SubQ.ofL (by first | rfl | simp) (by first | exact bare0_ints | assumption | (intro v hv; (repeat (rcases List.mem_cons.1 hv with rfl | hv; exact rfl)); cases hv)) (by first | exact Or.inl rfl | exact Or.inr rfl) | exact SubQ.fin (by (conv => whnf); (repeat' (first | exact True.intro | rfl | refine And.intro ?_ ?_)); done) (fun h => h) (by first | exact Or.inl rfl | exact Or.inr rfl)))), rfl, rfl⟩⟩
      | some f =>
        obtain ⟨bf, hgf⟩ := tightL_in hacc
        obtain ⟨j', c', hj1', hj2'⟩ := findB_some hgf
        obtain ⟨ob1, ob2, ob3, ob4⟩ := hB p b hg
        obtain ⟨of1, of2, of3, of4⟩ := hB f bf hgf
        conv => whnf
        refine ⟨rfl, _, rfl, rfl, WpR.of_vc ?_⟩
        (conv => whnf); (repeat' (first | ((with_reducible refine ifb_mk (fun hc => ?_) (fun hc => ?_)) <;> ((try simp only [decide_eq_true_eq, decide_eq_false_iff_not, Bool.not_eq_true', Bool.not_eq_false', Int.not_lt, Int.not_le, ne_eq, Decidable.not_not, beq_iff_eq, List.cons.injEq, and_true] at hc); (first | (exfalso; omega) | conv => whnf))) | ((with_reducible refine And.intro True.intro ?_); conv => whnf) | ((with_reducible refine And.intro ?hh ?_); (case hh => (unfold InR; (try dsimp only); omega)); conv => whnf) | ((with_reducible refine And.intro ?hh ?_); (case hh => ((try dsimp only); omega)); conv => whnf) | ((with_reducible refine And.intro ?hh ?_); (case hh => ((conv => whnf); (repeat' (first | exact True.intro | rfl | refine And.intro ?_ ?_)); done)); conv => whnf) | fail))
        rcases hs with rfl | rfl <;> ((conv => whnf); (repeat' (first | ((with_reducible refine ifb_mk (fun hc => ?_) (fun hc => ?_)) <;> ((try simp only [decide_eq_true_eq, decide_eq_false_iff_not, Bool.not_eq_true', Bool.not_eq_false', Int.not_lt, Int.not_le, ne_eq, Decidable.not_not, beq_iff_eq, List.cons.injEq, and_true] at hc); (first | (exfalso; omega) | conv => whnf))) | ((with_reducible refine And.intro True.intro ?_); conv => whnf) | ((with_reducible refine CallX.all (f := 97) ?_); refine CallW.inline Try.func97 rfl rfl (Nat.le_of_ble_eq_true rfl) (WpR.of_vc ?_); conv => whnf) | ((with_reducible refine WpR.draw (id := 1) mixed [0, 1, 2, 3, 4, 5, 6, 7, 8, 9, 10, 11, 12, 13, 14] [0, 0, 2, 0, 14, 0, 62, 0, 128, 0, 896, 0, 3968, 8191, 16383] ?hh ?_); (case hh => kernel_rfl); conv => whnf) | (refine som_mk (hj1 _) ?_; conv => whnf) | (refine som_mk (hj1' _) ?_; conv => whnf) | (refine som_mk (hj2) ?_; conv => whnf) | (refine som_mk (hj2') ?_; conv => whnf) | ((with_reducible refine grd_ex ?_); refine ex_ok (tight2_ok _ 0 b.1 bf.1 ob1 ob2 of1 of2) ?_; conv => whnf) | ((with_reducible refine grd_ex ?_); refine ex_ok (tight2_ok _ 1 b.2 bf.2 ob3 ob4 of3 of4) ?_; conv => whnf) | ((with_reducible refine And.intro ?hh ?_); (case hh => (unfold InR; (try dsimp only); omega)); conv => whnf) | ((with_reducible refine And.intro ?hh ?_); (case hh => ((try dsimp only); omega)); conv => whnf) | ((with_reducible refine And.intro ?hh ?_); (case hh => ((conv => whnf); (repeat' (first | exact True.intro | rfl | refine And.intro ?_ ?_)); done)); conv => whnf) | fail)))
        all_goals (first | rw [stepB_true ((betterB_eq hg hgf).trans hc)] | rw [stepB_false ((betterB_eq hg hgf).trans hc)])
        all_goals (refine ⟨_, _, rfl, ?_⟩; conv => whnf)
        all_goals exact ⟨_, _, rfl, rfl, [], ⟨(by (repeat' (first | exact True.intro | rfl | refine And.intro ?_ ?_))), (by (repeat' (first | exact True.intro | exact Or.inl rfl | refine And.intro ?_ ?_ | refine Or.inr ⟨_, rfl, ?_⟩ | exact SubQ.same (n := 1000) (Y := []) (fun _ _ _ => rfl) (by first | exact True.intro | exact ltB_all rfl | exact ltB_ofLb (by first | exact bare0_ints | assumption | (intro v hv; (repeat (rcases List.mem_cons.1 hv with rfl | hv; exact rfl)); cases hv)) | exact ltB_loop rfl rfl | exact hMap _ | exact hMap2 _ | exact grB_lt (by first | exact bare0_ints | assumption | (intro v hv; (repeat (rcases List.mem_cons.1 hv with rfl | hv; exact rfl)); cases hv)) _ | exact ltB_mapB | assumption) (avB_nil _) rfl | exact SubQ.ofL (by first | rfl | simp) (by first | exact bare0_ints | assumption | (intro v hv; (repeat (rcases List.mem_cons.1 hv with rfl | hv; exact rfl)); cases hv)) (by first | exact Or.inl rfl | exact Or.inr rfl) | exact SubQ.fin (by (conv => whnf); (repeat' (first | exact True.intro | rfl | refine And.intro ?_ ?_)); done) (fun h => h) (by first | exact Or.inl rfl | exact Or.inr rfl)))), rfl, rfl⟩⟩
  · (conv => whnf); (repeat' (first | ((with_reducible refine ifb_mk (fun hc => ?_) (fun hc => ?_)) <;> ((try simp only [decide_eq_true_eq, decide_eq_false_iff_not, Bool.not_eq_true', Bool.not_eq_false', Int.not_lt, Int.not_le, ne_eq, Decidable.not_not, beq_iff_eq, List.cons.injEq, and_true] at hc); (first | (exfalso; omega) | conv => whnf))) | ((with_reducible refine And.intro True.intro ?_); conv => whnf) | ((with_reducible refine And.intro ?hh ?_); (case hh => (unfold InR; (try dsimp only); omega)); conv => whnf) | ((with_reducible refine And.intro ?hh ?_); (case hh => ((try dsimp only); omega)); conv => whnf) | ((with_reducible refine And.intro ?hh ?_); (case hh => ((conv => whnf); (repeat' (first | exact True.intro | rfl | refine And.intro ?_ ?_)); done)); conv => whnf) | fail))
    rw [hN, List.take_length]
    exact ⟨[], rfl, rfl, rfl, trivial, (by (repeat' (first | exact True.intro | rfl | refine And.intro ?_ ?_)))⟩

theorem tightest_ok (h : H) (lo hi : Int) (n : Nat) (hn : n ≤ 1000) (h0 : 0 < n) (L : List V) (hL : ∀ v ∈ L, bare0 v = true) (sv : V) (hsv : SlC h L n sv) (B : List ((Int × Int) × Bd × Nat)) (clock : Nat) (hB : OkB B) (m : Nat) (hm : h.get m = some (.map (mapB B) clock)) (s : Int) (hs : s = 0 ∨ s = 1) :
   CallOk Try.prog 69 [.agg [.int .i64 lo, .int .i64 hi, sv, .map m], .int .i64 s] h (pV ((tightL B s (pairsL n)).getD (0, 0))) h := by
  obtain ⟨vo, svC, hsv', hca, hvw⟩ := hsv.view 0
  obtain ⟨cap, ex, rfl⟩ := Sv.pos hsv' h0
  exact CallOk.of_new (vC := fun _ => pV _) (news := fun _ => []) (tightest_try lo hi n hn L hL cap ex B clock hB s hs) (viewMcm hL hvw hm (fun e he => by obtain ⟨x, _, rfl⟩ := List.mem_map.1 he; rfl)) (.cons (CaL.agg (.cons (.bare rfl) (.cons (.bare rfl) (.cons (hca _ rfl) (.cons (.map rfl) .nil))))) (.cons (.bare rfl) .nil)) (.bare rfl) rfl (fun i b hi => by simp at hi)
end Go.Proofs.D

namespace Go.Proofs.D
open Go.As
set_option maxRecDepth 20000
set_option linter.unusedVariables false
set_option linter.unusedSimpArgs false

/-! ### The bounds of all pairs -/

def bndOf (lo hi : Int) (l : List E) (p : Int × Int) : Bd := if p = (-1, -1) then ((lo, 1), (hi, 1)) else bnd2 (l.getD p.1.toNat (0, 0, 0)) (l.getD p.2.toNat (0, 0, 0))

theorem pairsL_mem {n : Nat} {p : Int × Int} : p ∈ pairsL n ↔ p = (-1, -1) ∨ ∃ i j : Nat, i < j ∧ j < n ∧ p = ((i : Int), (j : Int)) := by
  unfold pairsL rowP
  rw [List.mem_cons, List.mem_flatMap]
  refine or_congr Iff.rfl ⟨fun ⟨i, hi, hp⟩ => ?_, fun ⟨i, j, h1, h2, hp⟩ => ⟨i, ?_, ?_⟩⟩
  · obtain ⟨j, hj, rfl⟩ := List.mem_map.1 hp
    rw [List.mem_range'_1] at hj hi
    exact ⟨i, j, by omega, by omega, rfl⟩
  · rw [List.mem_range'_1]; omega
  · exact List.mem_map.2 ⟨j, by rw [List.mem_range'_1]; omega, hp.symm⟩

theorem bndOf_two {lo hi : Int} {l : List E} {i j : Nat} {e f : E} (h1 : l[i]? = some e) (h2 : l[j]? = some f) : bndOf lo hi l ((i : Int), (j : Int)) = bnd2 e f := by
  unfold bndOf
  rw [if_neg (by intro h; simp only [Prod.mk.injEq] at h; omega)]
  simp [h1, h2, List.getD]

/-- The order of the pairs. -/
def ltP (a b : Int × Int) : Prop := a.1 < b.1 ∨ a.1 = b.1 ∧ a.2 < b.2
theorem pairsL_lt (n : Nat) : (pairsL n).Pairwise ltP := by
  unfold pairsL
  rw [List.pairwise_cons]
  refine ⟨fun p hp => ?_, ?_⟩
  · obtain ⟨i, hi, hp⟩ := List.mem_flatMap.1 hp
    obtain ⟨j, hj, rfl⟩ := List.mem_map.1 hp
    left; dsimp only; omega
  · rw [List.pairwise_flatMap]
    refine ⟨fun i hi => ?_, ?_⟩
    · unfold rowP
      rw [List.pairwise_map]
      exact (List.pairwise_lt_range' (step := 1)).imp fun h => .inr ⟨rfl, by dsimp only; omega⟩
    · refine (List.pairwise_lt_range' (step := 1)).imp fun {a b} h => ?_
      intro x hx y hy
      obtain ⟨j, hj, rfl⟩ := List.mem_map.1 hx
      obtain ⟨j', hj', rfl⟩ := List.mem_map.1 hy
      left; dsimp only; omega

theorem pairsL_fresh {n k : Nat} {p : Int × Int} (h : (pairsL n)[k]? = some p) : p ∉ (pairsL n).take k := by
  intro hm
  obtain ⟨i, hi⟩ := List.mem_iff_getElem?.1 hm
  have hik : i < k := by
    rcases Nat.lt_or_ge i k with h1 | h1
    · exact h1
    · rw [List.getElem?_take_eq_none h1] at hi; cases hi
  rw [List.getElem?_take_of_lt hik] at hi
  obtain ⟨h1, h2⟩ := List.getElem?_eq_some_iff.1 h
  obtain ⟨h3, h4⟩ := List.getElem?_eq_some_iff.1 hi
  have := (List.pairwise_iff_getElem.1 (pairsL_lt n)) i k h3 h1 hik
  rw [h2, h4] at this
  unfold ltP at this; omega

theorem boundsBy_ok (h : H) (lo hi : Int) (l : List E) (hl : OkS lo hi l) (p : Int × Int) (hp : p ∈ pairsL l.length) (sv : V) (hs : SlC h (entVs l) l.length sv) :
    CallOk Try.prog 64 [starV lo hi sv, pV p] h (.agg (bL (bndOf lo hi l p))) h := by
  rcases pairsL_mem.1 hp with rfl | ⟨i, j, h1, h2, rfl⟩
  · exact boundsStar_ok h lo hi _ entVs_bare _ sv (by have := hl.one; omega) hs
  · have hgi : l[i]? = some l[i] := List.getElem?_eq_getElem _
    have hgj : l[j]? = some l[j] := List.getElem?_eq_getElem _
    have hq := bounds2_ok h lo hi l i j _ _ hgi hgj (hl.ent _ _ hgi) (hl.ent _ _ hgj) (hl.inc _ _ _ _ h1 hgi hgj) sv hs
    rw [bndOf_two hgi hgj]
    exact hq

/-- The map behind k pairs. -/
def insL (lo hi : Int) (l : List E) (k : Nat) : List ((Int × Int) × Bd × Nat) := ((pairsL l.length).take k).zipIdx.map fun x => (x.1, bndOf lo hi l x.1, x.2)

theorem insL_none {lo hi : Int} {l : List E} {k : Nat} {p : Int × Int} (h : (pairsL l.length)[k]? = some p) : getB (insL lo hi l k) p = none := by
  unfold getB insL
  rw [Option.map_eq_none_iff, List.find?_eq_none]
  intro x hx hc
  obtain ⟨y, hy, rfl⟩ := List.mem_map.1 hx
  have : y.1 ∈ (pairsL l.length).take k := (List.mem_zipIdx hy).2.2 ▸ List.getElem_mem _
  exact pairsL_fresh h (by rw [of_decide_eq_true hc]; exact this)
theorem insL_succ {lo hi : Int} {l : List E} {k : Nat} {p : Int × Int} (h : (pairsL l.length)[k]? = some p) : insL lo hi l (k + 1) = insL lo hi l k ++ [(p, bndOf lo hi l p, k)] := by
  unfold insL
  have hk := (List.getElem?_eq_some_iff.1 h).1
  rw [List.take_add_one, h, List.zipIdx_append]
  simp [List.length_take, Nat.min_eq_left (Nat.le_of_lt hk)]

theorem getB_insL {lo hi : Int} {l : List E} {k : Nat} {p : Int × Int} {b : Bd} (hb : bndOf lo hi l p = b) (h : p ∈ (pairsL l.length).take k) : getB (insL lo hi l k) p = some b := by
  obtain ⟨i, hgi⟩ := List.mem_iff_getElem?.1 h
  cases hf : (insL lo hi l k).find? (fun x => decide (p = x.1)) with
  | none =>
    have hm : (p, bndOf lo hi l p, i) ∈ insL lo hi l k := List.mem_map.2 ⟨(p, i), List.mem_zipIdx_iff_getElem?.2 hgi, rfl⟩
    exact absurd (decide_eq_true rfl) (List.find?_eq_none.1 hf _ hm)
  | some x =>
    have h1 : p = x.1 := of_decide_eq_true (by simpa using List.find?_some hf)
    obtain ⟨y, hy, hx⟩ := List.mem_map.1 (List.mem_of_find?_eq_some hf)
    unfold getB
    rw [hf, Option.map_some, ← hx, ← hb, show p = y.1 from h1.trans (by rw [← hx])]

theorem one200 : (1 : Int) ≤ 1 ∧ (1 : Int) ≤ 200 := by decide
/-- Bounds are small. -/
theorem fr_den {a b m : Int} (hb : 0 < b) (h : b ≤ m) : 1 ≤ (fr a b).2 ∧ (fr a b).2 ≤ m := by
  have hg := gcd_pos a b hb
  have h1 : (Int.gcd a b : Int) ∣ b := Int.gcd_dvd_right ..
  obtain ⟨c, hc⟩ := h1
  have h2 : (fr a b).2 = c := by
    show b.tdiv _ = c
    have : b.tdiv (Int.gcd a b : Int) = ((Int.gcd a b : Int) * c).tdiv (Int.gcd a b : Int) := by rw [← hc]
    rw [this, Int.mul_tdiv_cancel_left _ (by omega)]
  have hc0 : 0 < c := by
    rcases Int.lt_or_le 0 c with h3 | h3
    · exact h3
    · have := Int.mul_nonpos_of_nonneg_of_nonpos (Int.le_of_lt hg) h3
      omega
  have h4 : c ≤ (Int.gcd a b : Int) * c := by
    have := Int.mul_le_mul_of_nonneg_right (by omega : 1 ≤ (Int.gcd a b : Int)) (Int.le_of_lt hc0)
    omega
  omega
def OkBd (b : Bd) : Prop := (-20000 ≤ b.1.1 ∧ b.1.1 ≤ 20000) ∧ (1 ≤ b.1.2 ∧ b.1.2 ≤ 200) ∧ (-20000 ≤ b.2.1 ∧ b.2.1 ≤ 20000) ∧ (1 ≤ b.2.2 ∧ b.2.2 ≤ 200)
theorem bndOf_bd {lo hi : Int} {l : List E} (hl : OkS lo hi l) {p : Int × Int} (hp : p ∈ pairsL l.length) : OkBd (bndOf lo hi l p) := by
  rcases pairsL_mem.1 hp with rfl | ⟨i, j, h1, h2, rfl⟩
  · have := hl.rate
    exact ⟨⟨by show -20000 ≤ lo; omega, by show lo ≤ 20000; omega⟩, ⟨Int.le_refl 1, (by decide : (1 : Int) ≤ 200)⟩, ⟨by show -20000 ≤ hi; omega, by show hi ≤ 20000; omega⟩, ⟨Int.le_refl 1, (by decide : (1 : Int) ≤ 200)⟩⟩
  · have hgi : l[i]? = some l[i] := List.getElem?_eq_getElem _
    have hgj : l[j]? = some l[j] := List.getElem?_eq_getElem _
    rw [bndOf_two hgi hgj]
    have h1' := hl.ent _ _ hgi
    have h2' := hl.ent _ _ hgj
    have h3' := hl.inc _ _ _ _ h1 hgi hgj
    exact ⟨fr_bd (by omega) (by omega), fr_den (by omega) (by omega), fr_bd (by omega) (by omega), fr_den (by omega) (by omega)⟩

def keepE (lo hi : Int) (x : (Int × Int) × Bd × Nat) : Bool := decide (x.1.1 = -1) || tighterF 0 x.2.1.1 (lo, 1) || tighterF 1 x.2.1.2 (hi, 1)
def fullL (lo hi : Int) (l : List E) : List ((Int × Int) × Bd × Nat) := insL lo hi l (pairsL l.length).length
/-- The map when k pairs have been looked at. -/
def prL (lo hi : Int) (l : List E) (k : Nat) : List ((Int × Int) × Bd × Nat) := ((fullL lo hi l).take k).filter (keepE lo hi) ++ (fullL lo hi l).drop k
theorem fullL_get {lo hi : Int} {l : List E} {k : Nat} {p : Int × Int} (h : (pairsL l.length)[k]? = some p) : (fullL lo hi l)[k]? = some (p, bndOf lo hi l p, k) := by
  unfold fullL insL
  rw [List.take_length, List.getElem?_map, List.getElem?_zipIdx, h]
  simp
theorem prL_at {lo hi : Int} {l : List E} {k : Nat} {p : Int × Int} (h : (pairsL l.length)[k]? = some p) : ∃ A C, prL lo hi l k = A ++ (p, bndOf lo hi l p, k) :: C ∧ (∀ x ∈ A, x.1 ≠ p) ∧
    prL lo hi l (k + 1) = A ++ (if keepE lo hi (p, bndOf lo hi l p, k) then (p, bndOf lo hi l p, k) :: C else C) := by
  have hg := fullL_get (lo := lo) (hi := hi) h
  have hk := (List.getElem?_eq_some_iff.1 hg).1
  refine ⟨((fullL lo hi l).take k).filter (keepE lo hi), (fullL lo hi l).drop (k + 1), ?_, ?_, ?_⟩
  · unfold prL
    rw [List.drop_eq_getElem_cons hk, (List.getElem?_eq_some_iff.1 hg).2]
  · intro x hx hp
    have hx := (List.mem_filter.1 hx).1
    obtain ⟨i, hgi⟩ := List.mem_iff_getElem?.1 hx
    have hik : i < k := by
      rcases Nat.lt_or_ge i k with h1 | h1
      · exact h1
      · rw [List.getElem?_take_eq_none h1] at hgi; cases hgi
    rw [List.getElem?_take_of_lt hik] at hgi
    have hlen : (fullL lo hi l).length = (pairsL l.length).length := by unfold fullL insL; simp
    have hil : i < (pairsL l.length).length := by have := (List.getElem?_eq_some_iff.1 hgi).1; omega
    have hp2 := fullL_get (lo := lo) (hi := hi) (List.getElem?_eq_getElem hil)
    rw [hgi] at hp2
    cases hp2
    exact pairsL_fresh h (List.mem_iff_getElem?.2 ⟨i, by rw [List.getElem?_take_of_lt hik, List.getElem?_eq_getElem hil]; exact congrArg some hp⟩)
  · unfold prL
    rw [List.take_add_one, hg, List.filter_append]
    simp only [Option.toList_some, List.filter_cons, List.filter_nil]
    split <;> simp

def cardL (lo hi : Int) (l : List E) : List ((Int × Int) × Bd × Nat) := (fullL lo hi l).filter (keepE lo hi)
theorem prL_end {lo hi : Int} {l : List E} {N : Nat} (h : N = (pairsL l.length).length) : prL lo hi l N = cardL lo hi l := by
  have hlen : (fullL lo hi l).length = N := by unfold fullL insL; simp [h]
  unfold prL
  rw [List.take_of_length_le (by omega), List.drop_eq_nil_of_le (by omega), List.append_nil]; rfl

theorem findB_at {A C : List ((Int × Int) × Bd × Nat)} {p : Int × Int} {b : Bd} {c : Nat} {em : Bool} (hA : ∀ x ∈ A, x.1 ≠ p) : findAt Try.prog em 97 (key2 p) (mapB (A ++ (p, b, c) :: C)) = some (some A.length) := by
  refine (findB em _ p).trans (congrArg some ?_)
  rw [List.findIdx?_eq_some_iff_findIdx_eq]
  induction A with
  | nil => simp [List.findIdx_cons]
  | cons x A ih =>
    have h1 := ih (fun y hy => hA y (List.mem_cons_of_mem _ hy))
    have h2 := hA x (List.mem_cons_self ..)
    simp only [List.cons_append, List.map_cons, List.findIdx_cons, List.length_cons]
    rw [decide_eq_false (fun h => h2 h.symm)]
    exact ⟨by have := h1.1; omega, by rw [cond_false, h1.2]⟩
theorem mapB_at {A C : List ((Int × Int) × Bd × Nat)} {p : Int × Int} {b : Bd} {c : Nat} : (mapB (A ++ (p, b, c) :: C))[A.length]? = some (key2 p, .agg (bL b), c) := by
  unfold mapB
  rw [List.getElem?_map, List.getElem?_append_right (Nat.le_refl _)]
  simp
theorem mapB_erase {A C : List ((Int × Int) × Bd × Nat)} {p : Int × Int} {b : Bd} {c : Nat} : (mapB (A ++ (p, b, c) :: C)).eraseIdx A.length = mapB (A ++ C) := by
  unfold mapB
  rw [List.map_append, List.eraseIdx_append_of_length_le (by simp)]
  simp

end Go.Proofs.D

namespace Go.Proofs.D
open Go.As
set_option maxRecDepth 20000
set_option linter.unusedVariables false
set_option linter.unusedSimpArgs false

set_option maxHeartbeats 4000000 in
theorem newCard_try (lo hi : Int) (l : List E) (hl : OkS lo hi l) (cap : Nat) (ex : Bool) :
   CallW Try.prog [] 71 [starV lo hi (.sl 0 0 l.length cap ex), .fn 72 [] []] (hp [.cells (ofL (entVs l) 0) false none]) (RetRO [.cells (ofL (entVs l) 0) false none] (fun N => [.map (mapB (cardL lo hi l)) (pairsL l.length).length]) (fun N => .agg [.int .i64 lo, .int .i64 hi, .sl 0 0 l.length cap ex, .map N])) := by
  have hBare := @entVs_bare l
  refine CallW.inline Try.func71 rfl rfl (Nat.le_of_ble_eq_true rfl) (WpR.of_vc ?_)
  (conv => whnf); (repeat' (first | ((with_reducible refine ifb_mk (fun hc => ?_) (fun hc => ?_)) <;> ((try simp only [decide_eq_true_eq, decide_eq_false_iff_not, Bool.not_eq_true', Bool.not_eq_false', Int.not_lt, Int.not_le, ne_eq, Decidable.not_not, beq_iff_eq, List.cons.injEq, and_true] at hc); (first | (exfalso; omega) | conv => whnf))) | ((with_reducible refine And.intro True.intro ?_); conv => whnf) | ((with_reducible refine CallX.all (f := 99) ?_); refine CallW.inline Try.func99 rfl rfl (Nat.le_of_ble_eq_true rfl) (WpR.of_vc ?_); conv => whnf) | ((with_reducible refine RangeX.all ?_); conv => whnf) | ((with_reducible refine And.intro ?hh ?_); (case hh => (unfold InR; (try dsimp only); omega)); conv => whnf) | ((with_reducible refine And.intro ?hh ?_); (case hh => ((try dsimp only); omega)); conv => whnf) | ((with_reducible refine And.intro ?hh ?_); (case hh => ((conv => whnf); (repeat' (first | exact True.intro | rfl | refine And.intro ?_ ?_)); done)); conv => whnf) | fail))
  refine pairs_use (by have := hl.most; omega) (fun k => [(3, .map (mapB (insL lo hi l k)) k)]) 9 [3] [] ⟨(by (conv => whnf); exact rfl), rfl, (by (repeat' (first | exact True.intro | (with_reducible exact avB_nil _) | ((with_reducible refine avB_all ?_); rfl) | ((with_reducible refine avB_ofLb ?_); exact (by first | exact bare0_ints | assumption | (intro v hv; (repeat (rcases List.mem_cons.1 hv with rfl | hv; exact rfl)); cases hv))) | ((with_reducible refine ltB_all ?_); rfl) | ((with_reducible refine ltB_ofLb ?_); exact (by first | exact bare0_ints | assumption | (intro v hv; (repeat (rcases List.mem_cons.1 hv with rfl | hv; exact rfl)); cases hv))) | ((with_reducible refine ltB_loop ?_ ?_) <;> rfl) | (with_reducible exact hMap _) | (with_reducible exact hMap2 _) | (with_reducible exact ltB_mapB) | ((with_reducible refine grB_lt ?_ _); exact (by first | exact bare0_ints | assumption | (intro v hv; (repeat (rcases List.mem_cons.1 hv with rfl | hv; exact rfl)); cases hv))) | (with_reducible assumption) | refine And.intro ?_ ?_ | exact (by first | exact True.intro | exact ltB_all rfl | exact ltB_ofLb (by first | exact bare0_ints | assumption | (intro v hv; (repeat (rcases List.mem_cons.1 hv with rfl | hv; exact rfl)); cases hv)) | exact ltB_loop rfl rfl | exact hMap _ | exact hMap2 _ | exact grB_lt (by first | exact bare0_ints | assumption | (intro v hv; (repeat (rcases List.mem_cons.1 hv with rfl | hv; exact rfl)); cases hv)) _ | exact ltB_mapB | assumption)))), rfl, rfl⟩ [] ⟨(by (repeat' (first | exact True.intro | rfl | refine And.intro ?_ ?_))), (by (repeat' (first | exact True.intro | exact Or.inl rfl | refine And.intro ?_ ?_ | refine Or.inr ⟨_, rfl, ?_⟩ | exact SubQ.same (n := 1000) (Y := []) (fun _ _ _ => rfl) (by first | exact True.intro | exact ltB_all rfl | exact ltB_ofLb (by first | exact bare0_ints | assumption | (intro v hv; (repeat (rcases List.mem_cons.1 hv with rfl | hv; exact rfl)); cases hv)) | exact ltB_loop rfl rfl | exact hMap _ | exact hMap2 _ | exact grB_lt (by first | exact bare0_ints | assumption | (intro v hv; (repeat (rcases List.mem_cons.1 hv with rfl | hv; exact rfl)); cases hv)) _ | exact ltB_mapB | assumption) (avB_nil _) rfl | exact SubQ.ofL (by first | rfl | simp) (by first | exact bare0_ints | assumption | (intro v hv; (repeat (rcases List.mem_cons.1 hv with rfl | hv; exact rfl)); cases hv)) (by first | exact Or.inl rfl | exact Or.inr rfl) | exact SubQ.fin (by (conv => whnf); (repeat' (first | exact True.intro | rfl | refine And.intro ?_ ?_)); done) (fun h => h) (by first | exact Or.inl rfl | exact Or.inr rfl)))), rfl, rfl⟩ (fun k => ⟨rfl, (by (repeat' (first | exact True.intro | rfl | refine And.intro ?_ ?_ | exact (by decide) | exact (by first | exact True.intro | exact hMap _ | exact hMap2 _ | exact grB_lt (by first | exact bare0_ints | assumption | (intro v hv; (repeat (rcases List.mem_cons.1 hv with rfl | hv; exact rfl)); cases hv)) _ | exact ltB_all rfl | exact ltB_ofLb (by first | exact bare0_ints | assumption | (intro v hv; (repeat (rcases List.mem_cons.1 hv with rfl | hv; exact rfl)); cases hv)) | exact ltB_loop rfl rfl | exact ltB_mapB | assumption)))), (by (repeat' (first | exact True.intro | rfl | refine And.intro ?_ ?_)))⟩) (fun k => rfl) (fun k => rfl) rfl rfl rfl ⟨rfl, rfl, rfl⟩ (fun k p hp => ?_) (fun v N hN => ?_)
  · have hMap : ∀ n, ltB n (.map (mapB (insL lo hi l k)) k) := fun _ => ltB_mapB
    refine YldW.inline rfl rfl rfl (WpR.of_vc ?_)
    conv => whnf
    refine ⟨rfl, _, rfl, rfl, WpR.of_vc ?_⟩
    (conv => whnf); (repeat' (first | ((with_reducible refine ifb_mk (fun hc => ?_) (fun hc => ?_)) <;> ((try simp only [decide_eq_true_eq, decide_eq_false_iff_not, Bool.not_eq_true', Bool.not_eq_false', Int.not_lt, Int.not_le, ne_eq, Decidable.not_not, beq_iff_eq, List.cons.injEq, and_true] at hc); (first | (exfalso; omega) | conv => whnf))) | ((with_reducible refine And.intro True.intro ?_); conv => whnf) | ((with_reducible refine WpR.draw (id := 4) mixed [0, 1, 2, 3, 4, 5, 6] [0, 1, 0, 0, 0, 24, 63] ?hh ?_); (case hh => kernel_rfl); conv => whnf) | ((with_reducible refine grd_ex ?_); refine ex_ok (boundsBy_ok _ lo hi l hl p (List.mem_of_getElem? hp) _ (SlC.sl rfl (fun _ _ h => by rw [Nat.zero_add]; exact get_ofL0 h))) ?_; conv => whnf) | (refine som_mk (findB_none (insL_none hp) _) ?_; conv => whnf) | ((with_reducible refine And.intro ?hh ?_); (case hh => (unfold InR; (try dsimp only); omega)); conv => whnf) | ((with_reducible refine And.intro ?hh ?_); (case hh => ((try dsimp only); omega)); conv => whnf) | ((with_reducible refine And.intro ?hh ?_); (case hh => ((conv => whnf); (repeat' (first | exact True.intro | rfl | refine And.intro ?_ ?_)); done)); conv => whnf) | fail))
    have hm : mapB (insL lo hi l (k + 1)) = mapB (insL lo hi l k) ++ [(key2 p, .agg (bL (bndOf lo hi l p)), k)] := by rw [insL_succ hp]; simp [mapB]
    have hMap2 : ∀ n, ltB n (.map (mapB (insL lo hi l k) ++ [(key2 p, .agg (bL (bndOf lo hi l p)), k)]) (k + 1)) := fun n => by rw [← hm]; exact ltB_mapB
    rw [hm]
    exact ⟨_, _, rfl, rfl, [], ⟨(by (repeat' (first | exact True.intro | rfl | refine And.intro ?_ ?_))), (by (repeat' (first | exact True.intro | exact Or.inl rfl | refine And.intro ?_ ?_ | refine Or.inr ⟨_, rfl, ?_⟩ | exact SubQ.same (n := 1000) (Y := []) (fun _ _ _ => rfl) (by first | exact True.intro | exact ltB_all rfl | exact ltB_ofLb (by first | exact bare0_ints | assumption | (intro v hv; (repeat (rcases List.mem_cons.1 hv with rfl | hv; exact rfl)); cases hv)) | exact ltB_loop rfl rfl | exact hMap _ | exact hMap2 _ | exact grB_lt (by first | exact bare0_ints | assumption | (intro v hv; (repeat (rcases List.mem_cons.1 hv with rfl | hv; exact rfl)); cases hv)) _ | exact ltB_mapB | assumption) (avB_nil _) rfl | exact SubQ.ofL (by first | rfl | simp) (by first | exact bare0_ints | assumption | (intro v hv; (repeat (rcases List.mem_cons.1 hv with rfl | hv; exact rfl)); cases hv)) (by first | exact Or.inl rfl | exact Or.inr rfl) | exact SubQ.fin (by (conv => whnf); (repeat' (first | exact True.intro | rfl | refine And.intro ?_ ?_)); done) (fun h => h) (by first | exact Or.inl rfl | exact Or.inr rfl)))), rfl, rfl⟩⟩
  · obtain ⟨j0, c0, hj1, hj2⟩ := findB_some (getB_insL (lo := lo) (hi := hi) (l := l) (k := N) (p := (-1, -1)) (b := ((lo, 1), (hi, 1))) rfl (by rw [hN, List.take_length]; exact List.mem_cons_self ..))
    (conv => whnf); (repeat' (first | ((with_reducible refine ifb_mk (fun hc => ?_) (fun hc => ?_)) <;> ((try simp only [decide_eq_true_eq, decide_eq_false_iff_not, Bool.not_eq_true', Bool.not_eq_false', Int.not_lt, Int.not_le, ne_eq, Decidable.not_not, beq_iff_eq, List.cons.injEq, and_true] at hc); (first | (exfalso; omega) | conv => whnf))) | ((with_reducible refine And.intro True.intro ?_); conv => whnf) | ((with_reducible refine CallX.all (f := 100) ?_); refine CallW.inline Try.func100 rfl rfl (Nat.le_of_ble_eq_true rfl) (WpR.of_vc ?_); conv => whnf) | (refine som_mk (hj1 _) ?_; conv => whnf) | (refine som_mk (hj2) ?_; conv => whnf) | ((with_reducible refine CallX.all (f := 99) ?_); refine CallW.inline Try.func99 rfl rfl (Nat.le_of_ble_eq_true rfl) (WpR.of_vc ?_); conv => whnf) | ((with_reducible refine RangeX.all ?_); conv => whnf) | ((with_reducible refine And.intro ?hh ?_); (case hh => (unfold InR; (try dsimp only); omega)); conv => whnf) | ((with_reducible refine And.intro ?hh ?_); (case hh => ((try dsimp only); omega)); conv => whnf) | ((with_reducible refine And.intro ?hh ?_); (case hh => ((conv => whnf); (repeat' (first | exact True.intro | rfl | refine And.intro ?_ ?_)); done)); conv => whnf) | fail))
    have hz : insL lo hi l N = prL lo hi l 0 := by rw [hN]; rfl
    rw [hz]
    refine pairs_use (by have := hl.most; omega) (fun k => [(3, .map (mapB (prL lo hi l k)) N)]) 15 [3] [] ⟨(by (conv => whnf); exact rfl), rfl, (by (repeat' (first | exact True.intro | (with_reducible exact avB_nil _) | ((with_reducible refine avB_all ?_); rfl) | ((with_reducible refine avB_ofLb ?_); exact (by first | exact bare0_ints | assumption | (intro v hv; (repeat (rcases List.mem_cons.1 hv with rfl | hv; exact rfl)); cases hv))) | ((with_reducible refine ltB_all ?_); rfl) | ((with_reducible refine ltB_ofLb ?_); exact (by first | exact bare0_ints | assumption | (intro v hv; (repeat (rcases List.mem_cons.1 hv with rfl | hv; exact rfl)); cases hv))) | ((with_reducible refine ltB_loop ?_ ?_) <;> rfl) | (with_reducible exact hMap _) | (with_reducible exact hMap2 _) | (with_reducible exact ltB_mapB) | ((with_reducible refine grB_lt ?_ _); exact (by first | exact bare0_ints | assumption | (intro v hv; (repeat (rcases List.mem_cons.1 hv with rfl | hv; exact rfl)); cases hv))) | (with_reducible assumption) | refine And.intro ?_ ?_ | exact (by first | exact True.intro | exact ltB_all rfl | exact ltB_ofLb (by first | exact bare0_ints | assumption | (intro v hv; (repeat (rcases List.mem_cons.1 hv with rfl | hv; exact rfl)); cases hv)) | exact ltB_loop rfl rfl | exact hMap _ | exact hMap2 _ | exact grB_lt (by first | exact bare0_ints | assumption | (intro v hv; (repeat (rcases List.mem_cons.1 hv with rfl | hv; exact rfl)); cases hv)) _ | exact ltB_mapB | assumption)))), rfl, rfl⟩ [] ⟨(by (repeat' (first | exact True.intro | rfl | refine And.intro ?_ ?_))), (by (repeat' (first | exact True.intro | exact Or.inl rfl | refine And.intro ?_ ?_ | refine Or.inr ⟨_, rfl, ?_⟩ | exact SubQ.same (n := 1000) (Y := []) (fun _ _ _ => rfl) (by first | exact True.intro | exact ltB_all rfl | exact ltB_ofLb (by first | exact bare0_ints | assumption | (intro v hv; (repeat (rcases List.mem_cons.1 hv with rfl | hv; exact rfl)); cases hv)) | exact ltB_loop rfl rfl | exact hMap _ | exact hMap2 _ | exact grB_lt (by first | exact bare0_ints | assumption | (intro v hv; (repeat (rcases List.mem_cons.1 hv with rfl | hv; exact rfl)); cases hv)) _ | exact ltB_mapB | assumption) (avB_nil _) rfl | exact SubQ.ofL (by first | rfl | simp) (by first | exact bare0_ints | assumption | (intro v hv; (repeat (rcases List.mem_cons.1 hv with rfl | hv; exact rfl)); cases hv)) (by first | exact Or.inl rfl | exact Or.inr rfl) | exact SubQ.fin (by (conv => whnf); (repeat' (first | exact True.intro | rfl | refine And.intro ?_ ?_)); done) (fun h => h) (by first | exact Or.inl rfl | exact Or.inr rfl)))), rfl, rfl⟩ (fun k => ⟨rfl, (by (repeat' (first | exact True.intro | rfl | refine And.intro ?_ ?_ | exact (by decide) | exact (by first | exact True.intro | exact hMap _ | exact hMap2 _ | exact grB_lt (by first | exact bare0_ints | assumption | (intro v hv; (repeat (rcases List.mem_cons.1 hv with rfl | hv; exact rfl)); cases hv)) _ | exact ltB_all rfl | exact ltB_ofLb (by first | exact bare0_ints | assumption | (intro v hv; (repeat (rcases List.mem_cons.1 hv with rfl | hv; exact rfl)); cases hv)) | exact ltB_loop rfl rfl | exact ltB_mapB | assumption)))), (by (repeat' (first | exact True.intro | rfl | refine And.intro ?_ ?_)))⟩) (fun k => rfl) (fun k => rfl) rfl rfl rfl ⟨rfl, rfl, rfl⟩ (fun k p hp => ?_) (fun v N2 hN2 => ?_)
    · refine YldW.inline rfl rfl rfl (WpR.of_vc ?_)
      conv => whnf
      refine ⟨rfl, _, rfl, rfl, WpR.of_vc ?_⟩
      conv => whnf
      have hMap2 : ∀ n, ltB n (.map (mapB (prL lo hi l (k + 1))) N) := fun n => ltB_mapB
      obtain ⟨ob1, ob2, ob3, ob4⟩ := bndOf_bd hl (List.mem_of_getElem? hp)
      have rt1 : -20000 ≤ lo ∧ lo ≤ 20000 := by have := hl.rate; omega
      have rt2 : -20000 ≤ hi ∧ hi ≤ 20000 := by have := hl.rate; omega
      obtain ⟨A, C, hA, hA2, hA3⟩ := prL_at hp
      rw [hA]
      refine som_mk (findB_at hA2) ?_
      (conv => whnf); (repeat' (first | ((with_reducible refine ifb_mk (fun hc => ?_) (fun hc => ?_)) <;> ((try simp only [decide_eq_true_eq, decide_eq_false_iff_not, Bool.not_eq_true', Bool.not_eq_false', Int.not_lt, Int.not_le, ne_eq, Decidable.not_not, beq_iff_eq, List.cons.injEq, and_true] at hc); (first | (exfalso; omega) | conv => whnf))) | ((with_reducible refine And.intro True.intro ?_); conv => whnf) | (refine som_mk (mapB_at) ?_; conv => whnf) | ((with_reducible refine WpR.loopU 3 ?_); conv => whnf) | (refine som_mk (findB_at hA2) ?_; conv => whnf) | ((with_reducible refine WpR.draw (id := 9) mixed [0, 1, 2, 3, 4, 5, 6, 7] [0, 0, 2, 6, 0, 16, 48, 127] ?hh ?_); (case hh => kernel_rfl); conv => whnf) | ((with_reducible refine grd_ex ?_); refine ex_ok (tight2_ok _ 0 (bndOf lo hi l p).1 (lo, 1) ob1 ob2 rt1 one200) ?_; conv => whnf) | ((with_reducible refine grd_ex ?_); refine ex_ok (tight2_ok _ 1 (bndOf lo hi l p).2 (hi, 1) ob3 ob4 rt2 one200) ?_; conv => whnf) | ((with_reducible refine And.intro ?hh ?_); (case hh => (unfold InR; (try dsimp only); omega)); conv => whnf) | ((with_reducible refine And.intro ?hh ?_); (case hh => ((try dsimp only); omega)); conv => whnf) | ((with_reducible refine And.intro ?hh ?_); (case hh => ((conv => whnf); (repeat' (first | exact True.intro | rfl | refine And.intro ?_ ?_)); done)); conv => whnf) | fail))
      iterate 3
        · have hk : keepE lo hi (p, bndOf lo hi l p, k) = true := by simp only [keepE, Bool.or_eq_true, decide_eq_true_eq]; grind
          have hA4 : prL lo hi l (k + 1) = A ++ (p, bndOf lo hi l p, k) :: C := by rw [hA3, if_pos hk]
          rw [hA4]
          exact ⟨_, _, rfl, rfl, [], ⟨(by (repeat' (first | exact True.intro | rfl | refine And.intro ?_ ?_))), (by (repeat' (first | exact True.intro | exact Or.inl rfl | refine And.intro ?_ ?_ | refine Or.inr ⟨_, rfl, ?_⟩ | exact SubQ.same (n := 1000) (Y := []) (fun _ _ _ => rfl) (by first | exact True.intro | exact ltB_all rfl | exact ltB_ofLb (by first | exact bare0_ints | assumption | (intro v hv; (repeat (rcases List.mem_cons.1 hv with rfl | hv; exact rfl)); cases hv)) | exact ltB_loop rfl rfl | exact hMap _ | exact hMap2 _ | exact grB_lt (by first | exact bare0_ints | assumption | (intro v hv; (repeat (rcases List.mem_cons.1 hv with rfl | hv; exact rfl)); cases hv)) _ | exact ltB_mapB | assumption) (avB_nil _) rfl | exact SubQ.ofL (by first | rfl | simp) (by first | exact bare0_ints | assumption | (intro v hv; (repeat (rcases List.mem_cons.1 hv with rfl | hv; exact rfl)); cases hv)) (by first | exact Or.inl rfl | exact Or.inr rfl) | exact SubQ.fin (by (conv => whnf); (repeat' (first | exact True.intro | rfl | refine And.intro ?_ ?_)); done) (fun h => h) (by first | exact Or.inl rfl | exact Or.inr rfl)))), rfl, rfl⟩⟩
      · have hk : keepE lo hi (p, bndOf lo hi l p, k) = false := by simp only [keepE, Bool.or_eq_false_iff, decide_eq_false_iff_not]; grind
        have hA4 : prL lo hi l (k + 1) = A ++ C := by rw [hA3, hk]; rfl
        have hMap2 : ∀ n, ltB n (.map ((mapB (A ++ (p, bndOf lo hi l p, k) :: C)).eraseIdx A.length) N) := fun n => by rw [mapB_erase]; exact ltB_mapB
        rw [hA4, ← mapB_erase (A := A) (C := C) (p := p) (b := bndOf lo hi l p) (c := k)]
        exact ⟨_, _, rfl, rfl, [], ⟨(by (repeat' (first | exact True.intro | rfl | refine And.intro ?_ ?_))), (by (repeat' (first | exact True.intro | exact Or.inl rfl | refine And.intro ?_ ?_ | refine Or.inr ⟨_, rfl, ?_⟩ | exact SubQ.same (n := 1000) (Y := []) (fun _ _ _ => rfl) (by first | exact True.intro | exact ltB_all rfl | exact ltB_ofLb (by first | exact bare0_ints | assumption | (intro v hv; (repeat (rcases List.mem_cons.1 hv with rfl | hv; exact rfl)); cases hv)) | exact ltB_loop rfl rfl | exact hMap _ | exact hMap2 _ | exact grB_lt (by first | exact bare0_ints | assumption | (intro v hv; (repeat (rcases List.mem_cons.1 hv with rfl | hv; exact rfl)); cases hv)) _ | exact ltB_mapB | assumption) (avB_nil _) rfl | exact SubQ.ofL (by first | rfl | simp) (by first | exact bare0_ints | assumption | (intro v hv; (repeat (rcases List.mem_cons.1 hv with rfl | hv; exact rfl)); cases hv)) (by first | exact Or.inl rfl | exact Or.inr rfl) | exact SubQ.fin (by (conv => whnf); (repeat' (first | exact True.intro | rfl | refine And.intro ?_ ?_)); done) (fun h => h) (by first | exact Or.inl rfl | exact Or.inr rfl)))), rfl, rfl⟩⟩
    · (conv => whnf); (repeat' (first | ((with_reducible refine ifb_mk (fun hc => ?_) (fun hc => ?_)) <;> ((try simp only [decide_eq_true_eq, decide_eq_false_iff_not, Bool.not_eq_true', Bool.not_eq_false', Int.not_lt, Int.not_le, ne_eq, Decidable.not_not, beq_iff_eq, List.cons.injEq, and_true] at hc); (first | (exfalso; omega) | conv => whnf))) | ((with_reducible refine And.intro True.intro ?_); conv => whnf) | ((with_reducible refine And.intro ?hh ?_); (case hh => (unfold InR; (try dsimp only); omega)); conv => whnf) | ((with_reducible refine And.intro ?hh ?_); (case hh => ((try dsimp only); omega)); conv => whnf) | ((with_reducible refine And.intro ?hh ?_); (case hh => ((conv => whnf); (repeat' (first | exact True.intro | rfl | refine And.intro ?_ ?_)); done)); conv => whnf) | fail))
      rw [prL_end hN2, hN]
      exact ⟨[3], rfl, rfl, rfl, ⟨⟨_, rfl, rfl, SubQ.same (n := 0) (Y := []) (fun i hi _ => absurd hi (Nat.not_lt_zero _)) ltB_mapB (avB_nil _) rfl⟩, ltB_mapB, rfl, trivial⟩, (by (repeat' (first | exact True.intro | rfl | refine And.intro ?_ ?_)))⟩
end Go.Proofs.D

