/- What the functions answer that the laws call, one after another (Lst). -/
import Derived.Test.YtgcnflpgolnjeaaAs6
import Derived.Test.YtgcnflpgolnjeaaChk
set_option linter.unusedVariables false
set_option linter.unusedSimpArgs false
namespace Go.Proofs.K
open Go.As
set_option maxRecDepth 20000
def stB (p : Nat → Int) : Bool := decide (p 1 = 0 ∧ p 2 = 0 ∧ p 3 = 0)
theorem isStill_ok (h : As.H) (p : Nat → Int) : CallOk Try.prog 88 [crV p] h (.bool (stB p)) h := by
  have e1 := fun u v => slow_eql (P := Try.prog) (t := 70) (k := 3) (by kernel_rfl) (x := u) (y := v) [p 1, p 2, p 3] [0, 0, 0]
  have e2 : decide ([p 1, p 2, p 3] = [0, 0, 0]) = stB p := by unfold stB; rw [Bool.eq_iff_iff]; simp
  simp only [e2] at e1
  generalize stB p = z at *
  refine CallOk.run0 Try.func88 rfl rfl rfl rfl rfl (WpR.of_vc ?_)
  (conv => whnf); (repeat' (first | ((with_reducible refine ifb_mk (fun hc => ?_) (fun hc => ?_)) <;> ((try simp only [decide_eq_true_eq, decide_eq_false_iff_not, Bool.not_eq_true', Bool.not_eq_false', Int.not_lt, Int.not_le, ne_eq, Decidable.not_not, beq_iff_eq, List.cons.injEq, and_true] at hc); (first | (exfalso; omega) | exact absurd True.intro hc | conv => whnf))) | ((with_reducible refine And.intro True.intro ?_); conv => whnf) | ((with_reducible refine grd_slow ?_); refine som_mk (a := ?_) ?hh ?_; (case hh => exact e1 _ _); conv => whnf) | ((with_reducible refine And.intro ?hh ?_); (case hh => exact condA); conv => whnf) | fail))
  all_goals first | (refine ⟨[], ?_, rfl, rfl, trivial, trivs⟩; simp only [renV, renL]; (first | done | rfl | (simp; done) | (simp; omega) | grind)) | (exfalso; omega)
def dgF (p : Nat → Int) : Nat := if p 3 ≠ 0 then 3 else if p 2 ≠ 0 then 2 else if p 1 ≠ 0 then 1 else 0
theorem degree_ok (h : As.H) (p : Nat → Int) : CallOk Try.prog 76 [crV p] h (.int .i64 (dgF p)) h := by
  have k1 := fun h' => isStill_ok h' p
  by_cases hs : stB p = true
  · rw [hs] at k1
    have e := of_decide_eq_true hs
    have ed : dgF p = 0 := by unfold dgF; rw [if_neg (fun h => h e.2.2), if_neg (fun h => h e.2.1), if_neg (fun h => h e.1)]
    rw [ed]
    refine CallOk.run0 Try.func76 rfl rfl rfl rfl rfl (WpR.of_vc ?_)
    (conv => whnf); (repeat' (first | ((with_reducible refine ifb_mk (fun hc => ?_) (fun hc => ?_)) <;> ((try simp only [decide_eq_true_eq, decide_eq_false_iff_not, Bool.not_eq_true', Bool.not_eq_false', Int.not_lt, Int.not_le, ne_eq, Decidable.not_not, beq_iff_eq, List.cons.injEq, and_true] at hc); (first | (exfalso; omega) | exact absurd True.intro hc | conv => whnf))) | ((with_reducible refine And.intro True.intro ?_); conv => whnf) | ((with_reducible refine CallX.all ?_); refine CallW.of_ok (k1 _) ?_; conv => whnf) | ((with_reducible refine And.intro ?hh ?_); (case hh => exact condA); conv => whnf) | fail))
    all_goals first | (refine ⟨[], ?_, rfl, rfl, trivial, trivs⟩; simp only [renV, renL]; (first | done | rfl | (simp; done) | (simp; omega) | grind)) | (exfalso; omega)
  · rw [Bool.not_eq_true] at hs
    rw [hs] at k1
    have e : ¬ (p 1 = 0 ∧ p 2 = 0 ∧ p 3 = 0) := of_decide_eq_false hs
    have e3 : p 3 ≠ 0 → dgF p = 3 := fun h => by unfold dgF; rw [if_pos h]
    have e2 : p 3 = 0 → p 2 ≠ 0 → dgF p = 2 := fun h3 h => by unfold dgF; rw [if_neg (fun h => h h3), if_pos h]
    have e1 : p 3 = 0 → p 2 = 0 → p 1 ≠ 0 → dgF p = 1 := fun h3 h2 h => by unfold dgF; rw [if_neg (fun h => h h3), if_neg (fun h => h h2), if_pos h]
    generalize dgF p = dg at *
    refine CallOk.run0 Try.func76 rfl rfl rfl rfl rfl (WpR.of_vc ?_)
    (conv => whnf); (repeat' (first | ((with_reducible refine ifb_mk (fun hc => ?_) (fun hc => ?_)) <;> ((try simp only [decide_eq_true_eq, decide_eq_false_iff_not, Bool.not_eq_true', Bool.not_eq_false', Int.not_lt, Int.not_le, ne_eq, Decidable.not_not, beq_iff_eq, List.cons.injEq, and_true] at hc); (first | (exfalso; omega) | exact absurd True.intro hc | conv => whnf))) | ((with_reducible refine And.intro True.intro ?_); conv => whnf) | ((with_reducible refine CallX.all ?_); refine CallW.of_ok (k1 _) ?_; conv => whnf) | ((with_reducible refine And.intro ?hh ?_); (case hh => exact condA); conv => whnf) | fail))
    refine WpR.loopA (ι := Nat) [] [1] [] [] 1 (fun d => [(3, .int .i64 d)]) (fun _ => []) (fun d => d) (fun d => (d = 3 ∨ d = 2 ∧ p 3 = 0 ∨ d = 1 ∧ p 3 = 0 ∧ p 2 = 0)) ?_ (3) (.inl rfl) [] Back.auto
    intro d hd
    refine WpR.of_vc ?_
    rcases hd with rfl | ⟨rfl, z3⟩ | ⟨rfl, z3, z2⟩
    · by_cases h3 : p 3 = 0
      · (conv => whnf); (repeat' (first | ((with_reducible refine ifb_mk (fun hc => ?_) (fun hc => ?_)) <;> ((try simp only [decide_eq_true_eq, decide_eq_false_iff_not, Bool.not_eq_true', Bool.not_eq_false', Int.not_lt, Int.not_le, ne_eq, Decidable.not_not, beq_iff_eq, List.cons.injEq, and_true] at hc); (first | (exfalso; omega) | exact absurd True.intro hc | conv => whnf))) | ((with_reducible refine And.intro True.intro ?_); conv => whnf) | ((with_reducible refine And.intro ?hh ?_); (case hh => exact condA); conv => whnf) | fail))
        all_goals first | (exfalso; omega) | exact ⟨2, [], by omega, by omega, Back.auto⟩
      · rw [e3 h3]
        (conv => whnf); (repeat' (first | ((with_reducible refine ifb_mk (fun hc => ?_) (fun hc => ?_)) <;> ((try simp only [decide_eq_true_eq, decide_eq_false_iff_not, Bool.not_eq_true', Bool.not_eq_false', Int.not_lt, Int.not_le, ne_eq, Decidable.not_not, beq_iff_eq, List.cons.injEq, and_true] at hc); (first | (exfalso; omega) | exact absurd True.intro hc | conv => whnf))) | ((with_reducible refine And.intro True.intro ?_); conv => whnf) | ((with_reducible refine And.intro ?hh ?_); (case hh => exact condA); conv => whnf) | fail))
        all_goals first | (exfalso; omega) | (refine ⟨[], ?_, rfl, rfl, trivial, trivs⟩; simp only [renV, renL]; (first | done | rfl | (simp; done) | (simp; omega) | grind))
    · by_cases h2 : p 2 = 0
      · (conv => whnf); (repeat' (first | ((with_reducible refine ifb_mk (fun hc => ?_) (fun hc => ?_)) <;> ((try simp only [decide_eq_true_eq, decide_eq_false_iff_not, Bool.not_eq_true', Bool.not_eq_false', Int.not_lt, Int.not_le, ne_eq, Decidable.not_not, beq_iff_eq, List.cons.injEq, and_true] at hc); (first | (exfalso; omega) | exact absurd True.intro hc | conv => whnf))) | ((with_reducible refine And.intro True.intro ?_); conv => whnf) | ((with_reducible refine And.intro ?hh ?_); (case hh => exact condA); conv => whnf) | fail))
        all_goals first | (exfalso; omega) | exact ⟨1, [], by omega, by omega, Back.auto⟩
      · rw [e2 z3 h2]
        (conv => whnf); (repeat' (first | ((with_reducible refine ifb_mk (fun hc => ?_) (fun hc => ?_)) <;> ((try simp only [decide_eq_true_eq, decide_eq_false_iff_not, Bool.not_eq_true', Bool.not_eq_false', Int.not_lt, Int.not_le, ne_eq, Decidable.not_not, beq_iff_eq, List.cons.injEq, and_true] at hc); (first | (exfalso; omega) | exact absurd True.intro hc | conv => whnf))) | ((with_reducible refine And.intro True.intro ?_); conv => whnf) | ((with_reducible refine And.intro ?hh ?_); (case hh => exact condA); conv => whnf) | fail))
        all_goals first | (exfalso; omega) | (refine ⟨[], ?_, rfl, rfl, trivial, trivs⟩; simp only [renV, renL]; (first | done | rfl | (simp; done) | (simp; omega) | grind))
    · have h1 : p 1 ≠ 0 := fun h => e ⟨h, z2, z3⟩
      rw [e1 z3 z2 h1]
      (conv => whnf); (repeat' (first | ((with_reducible refine ifb_mk (fun hc => ?_) (fun hc => ?_)) <;> ((try simp only [decide_eq_true_eq, decide_eq_false_iff_not, Bool.not_eq_true', Bool.not_eq_false', Int.not_lt, Int.not_le, ne_eq, Decidable.not_not, beq_iff_eq, List.cons.injEq, and_true] at hc); (first | (exfalso; omega) | exact absurd True.intro hc | conv => whnf))) | ((with_reducible refine And.intro True.intro ?_); conv => whnf) | ((with_reducible refine And.intro ?hh ?_); (case hh => exact condA); conv => whnf) | fail))
      all_goals first | (exfalso; omega) | (refine ⟨[], ?_, rfl, rfl, trivial, trivs⟩; simp only [renV, renL]; (first | done | rfl | (simp; done) | (simp; omega) | grind))
def fi4 (i : Nat) : Bool := decide (i ≤ 3)
theorem leastF_ok (h : As.H) (i : Nat) : CallOk Try.prog 75 [.int .i64 i] h (.bool (fi4 i)) h := by
  unfold fi4
  by_cases e : i ≤ 3
  · rw [decide_eq_true e]
    refine CallOk.run0 Try.func75 rfl rfl rfl rfl rfl (WpR.of_vc ?_)
    (conv => whnf); (repeat' (first | ((with_reducible refine ifb_mk (fun hc => ?_) (fun hc => ?_)) <;> ((try simp only [decide_eq_true_eq, decide_eq_false_iff_not, Bool.not_eq_true', Bool.not_eq_false', Int.not_lt, Int.not_le, ne_eq, Decidable.not_not, beq_iff_eq, List.cons.injEq, and_true] at hc); (first | (exfalso; omega) | exact absurd True.intro hc | conv => whnf))) | ((with_reducible refine And.intro True.intro ?_); conv => whnf) | ((with_reducible refine And.intro ?hh ?_); (case hh => exact condA); conv => whnf) | fail))
    all_goals first | (refine ⟨[], ?_, rfl, rfl, trivial, trivs⟩; simp only [renV, renL]; (first | done | rfl | (simp; done) | (simp; omega) | grind)) | (exfalso; omega)
  · rw [decide_eq_false e]
    refine CallOk.run0 Try.func75 rfl rfl rfl rfl rfl (WpR.of_vc ?_)
    (conv => whnf); (repeat' (first | ((with_reducible refine ifb_mk (fun hc => ?_) (fun hc => ?_)) <;> ((try simp only [decide_eq_true_eq, decide_eq_false_iff_not, Bool.not_eq_true', Bool.not_eq_false', Int.not_lt, Int.not_le, ne_eq, Decidable.not_not, beq_iff_eq, List.cons.injEq, and_true] at hc); (first | (exfalso; omega) | exact absurd True.intro hc | conv => whnf))) | ((with_reducible refine And.intro True.intro ?_); conv => whnf) | ((with_reducible refine And.intro ?hh ?_); (case hh => exact condA); conv => whnf) | fail))
    all_goals first | (refine ⟨[], ?_, rfl, rfl, trivial, trivs⟩; simp only [renV, renL]; (first | done | rfl | (simp; done) | (simp; omega) | grind)) | (exfalso; omega)
theorem fi4_le : ∀ n, cnF fi4 n ≤ 4 := fun n => by
  by_cases e : n ≤ 4
  · exact Nat.le_trans (cnF_le _ _) e
  · have h1 := cnF_add fi4 4 (n - 4)
    rw [show 4 + (n - 4) = n from by omega] at h1
    rw [h1]
    have h2 : ∀ m, cnF (fun i => fi4 (4 + i)) m = 0 := fun m => by
      induction m with
      | zero => rfl
      | succ m ih =>
        have e2 : cnF (fun i => fi4 (4 + i)) (m + 1) = cnF (fun i => fi4 (4 + i)) m + (if fi4 (4 + m) = true then 1 else 0) := rfl
        rw [e2, ih]
        unfold fi4
        rw [decide_eq_false (by omega)]; rfl
    rw [h2]
    decide
set_option maxHeartbeats 16000000 in
theorem throughL_ok (h : As.H) (s : Nat) (D : Int) (ex : Bool) (n : Nat) (a b : Nat → Int) (l : Lg n a b) (mk : Nat → Bool) {w : Bool} {gg : Option (Nat × Nat)} (hs : h.get s = some (.cells (ofL (shL D (.rsl ex 2 n (lkG a b)) mk) 0) w gg)) :
    CallOk Try.prog 61 [.ptr s 0, .fn 75 [] []] h (.tup [crV (thP (cnF fi4 n) (slF fi4 a n) (slF fi4 b n)), .bool (alW (cnF fi4 n) (slF fi4 a n) (slF fi4 b n))]) h := by
  have h4 := fi4_le n
  have kM := fun i (hi : i < n) h' => leastF_ok h' i
  have hn := l.le
  generalize hP : fi4 = P at *
  have kT := fun (h' : As.H) cap ex hcap gg hs => throughS_ok h' (cnF P n) (slF P a n) (slF P b n) (slF_dy h4 l.rg l.up) (slF_pl l.at') 2 cap ex hcap gg hs
  have hyes := fun i hi => slF_yes (p := P) (a := a) (i := i) hi
  have hyesb := fun i hi => (slF_yes (p := P) (a := b) (i := i) hi).2
  have hno := fun i hi => slF_no (p := P) (a := a) (i := i) hi
  have hnob := fun i hi => (slF_no (p := P) (a := b) (i := i) hi).2
  have hmono := fun i (hi : i ≤ n) => cnF_mono (p := P) hi
  have hz1 : slF P a 0 = fun _ => 0 := rfl
  have hz2 : slF P b 0 = fun _ => 0 := rfl
  have hz3 : cnF P 0 = 0 := rfl
  generalize thP (cnF P n) (slF P a n) (slF P b n) = T at *
  generalize alW (cnF P n) (slF P a n) (slF P b n) = W at *
  generalize slF P a = A at *
  generalize slF P b = B at *
  generalize cnF P = C at *
  have hMap : ∀ mk, ltB 3 (shB D (.rsl ex 2 n (lkG a b)) mk) := fun mk => ltB_ofLb (shL_bare rfl)
  have hMapA : ltB 3 (.cells (ofL (shL D (.rsl ex 2 n (lkG a b)) mk) 0) false none) := ltB_ofLb (shL_bare rfl)
  have hMapB : ltB 1000 (.cells (ofL (shL D (.rsl ex 2 n (lkG a b)) mk) 0) false none) := ltB_ofLb (shL_bare rfl)
  have hMap2 : ∀ (X Y : Nat → Int), ltB 3 (.cells (ofL (rmL X Y) 0) true none) := fun X Y => ltB_ofLb rmL_bare
  have hMapC : ∀ (X Y : Nat → Int), ltB 1000 (.cells (ofL (rmL X Y) 0) true none) := fun X Y => ltB_ofLb rmL_bare
  have hself0 : ∀ ρ : Nat → Nat, SubQ ρ (.cells (ofL (rmL (fun _ => 0) (fun _ => 0)) 0) true none) (.cells (ofL (rep 4 [V.int .i64 0, V.int .i64 0]) 0) true none) := fun ρ => SubQ.ofL rfl rmL_bare (.inl rfl)
  have hBare : ∀ v ∈ shL D (.rsl ex 2 n (lkG a b)) mk, bare0 v = true := shL_bare rfl
  refine CallOk.run Try.func61 rfl rfl (argsC := [.ptr 0 0, .fn 75 [] []]) (Nat.le_of_ble_eq_true rfl) [some (s, 0)] (.cons (.ptr (i := 0) rfl) (.cons (.lt0 rfl) .nil)) (one_view hs (shL_bare rfl)) rfl (WpR.of_vc ?_)
  (conv => whnf); (repeat' (first | ((with_reducible refine ifb_mk (fun hc => ?_) (fun hc => ?_)) <;> ((try simp only [decide_eq_true_eq, decide_eq_false_iff_not, Bool.not_eq_true', Bool.not_eq_false', Int.not_lt, Int.not_le, ne_eq, Decidable.not_not, beq_iff_eq, List.cons.injEq, and_true] at hc); (first | (exfalso; omega) | exact absurd True.intro hc | conv => whnf))) | ((with_reducible refine And.intro True.intro ?_); conv => whnf) | ((with_reducible refine And.intro ?hh ?_); (case hh => exact condA); conv => whnf) | fail))
  refine WpR.loopA (ι := Nat × Nat × (Nat → Int) × (Nat → Int)) [] [0, 1, 4, 5, 15, 16] [2] [] 3 (fun q => [(17, .int .i64 q.1), (7, .sl 2 0 q.2.1 4 true)]) (fun q => [(2, .cells (ofL (rmL q.2.2.1 q.2.2.2) 0) true none)]) (fun q => n - q.1) (fun q => q.1 ≤ n ∧ q.2.1 = C q.1 ∧ q.2.2.1 = A q.1 ∧ q.2.2.2 = B q.1) ?_ ((0, 0, (fun _ => 0), (fun _ => 0))) (⟨Nat.zero_le _, hz3.symm, hz1.symm, hz2.symm⟩) [] Back.auto
  rintro ⟨i, k, X, Y⟩ ⟨j1, j2, j3, j4⟩
  dsimp only at j1 j2 j3 j4
  refine WpR.of_vc ?_
  by_cases hi : i < n
  · have kMi := kM i hi
    cases hb : P i with
    | true =>
      rw [hb] at kMi
      have hy := hyes i hb
      have hyb := hyesb i hb
      have hm1 := hmono (i + 1) (by omega)
      rw [← j2, ← j3] at hy
      rw [← j2, ← j4] at hyb
      have hk4 : k < 4 := by omega
      have hput := rm_put (X := X) (Y := Y) (X' := A (i + 1)) (Y' := B (i + 1)) (k := k) (o := 0 + k * 2) (x := a i) (y := b i) hk4 (by omega) hy.2 hyb
      (conv => whnf); (repeat' (first | ((with_reducible refine ifb_mk (fun hc => ?_) (fun hc => ?_)) <;> ((try simp only [decide_eq_true_eq, decide_eq_false_iff_not, Bool.not_eq_true', Bool.not_eq_false', Int.not_lt, Int.not_le, ne_eq, Decidable.not_not, beq_iff_eq, List.cons.injEq, and_true] at hc); (first | (exfalso; omega) | exact absurd True.intro hc | conv => whnf))) | ((with_reducible refine And.intro True.intro ?_); conv => whnf) | ((with_reducible refine grd_and ?_); refine And.intro (hi) ?_; conv => whnf) | ((with_reducible refine CallX.all ?_); refine CallW.of_ok (kMi _) ?_; conv => whnf) | (refine AppX.room (n := 1) (len := k) rfl (by omega) hput ?_; conv => whnf) | ((with_reducible refine And.intro ?hh ?_); (case hh => exact condA); conv => whnf) | fail))
      all_goals first | (exfalso; omega) | exact ⟨(i + 1, k + 1, A (i + 1), B (i + 1)), [], by dsimp only; omega, ⟨by dsimp only; omega, hy.1.symm, rfl, rfl⟩, Back.auto⟩
    | false =>
      rw [hb] at kMi
      have hy := hno i hb
      have hyb := hnob i hb
      (conv => whnf); (repeat' (first | ((with_reducible refine ifb_mk (fun hc => ?_) (fun hc => ?_)) <;> ((try simp only [decide_eq_true_eq, decide_eq_false_iff_not, Bool.not_eq_true', Bool.not_eq_false', Int.not_lt, Int.not_le, ne_eq, Decidable.not_not, beq_iff_eq, List.cons.injEq, and_true] at hc); (first | (exfalso; omega) | exact absurd True.intro hc | conv => whnf))) | ((with_reducible refine And.intro True.intro ?_); conv => whnf) | ((with_reducible refine grd_and ?_); refine And.intro (hi) ?_; conv => whnf) | ((with_reducible refine CallX.all ?_); refine CallW.of_ok (kMi _) ?_; conv => whnf) | ((with_reducible refine And.intro ?hh ?_); (case hh => exact condA); conv => whnf) | fail))
      all_goals first | (exfalso; omega) | exact ⟨(i + 1, k, X, Y), [], by dsimp only; omega, ⟨by dsimp only; omega, j2.trans hy.1.symm, j3.trans hy.2.symm, j4.trans hyb.symm⟩, Back.auto⟩
  · have e : i = n := by omega
    subst e
    rw [← j2, ← j3, ← j4] at kT
    have hk4 : k ≤ 4 := by omega
    (conv => whnf); (repeat' (first | ((with_reducible refine ifb_mk (fun hc => ?_) (fun hc => ?_)) <;> ((try simp only [decide_eq_true_eq, decide_eq_false_iff_not, Bool.not_eq_true', Bool.not_eq_false', Int.not_lt, Int.not_le, ne_eq, Decidable.not_not, beq_iff_eq, List.cons.injEq, and_true] at hc); (first | (exfalso; omega) | exact absurd True.intro hc | conv => whnf))) | ((with_reducible refine And.intro True.intro ?_); conv => whnf) | ((with_reducible refine grd_and ?_); refine And.intro (hi) ?_; conv => whnf) | ((with_reducible refine CallX.all ?_); refine CallW.of_ok (kT _ _ _ hk4 _ rfl) ?_; conv => whnf) | ((with_reducible refine And.intro ?hh ?_); (case hh => exact condA); conv => whnf) | fail))
    all_goals first | (exfalso; omega) | (refine ⟨[], ?_, rfl, rfl, trivial, trivs⟩; simp only [renV, renL]; (first | done | rfl | (simp; done) | (simp; omega) | grind))
theorem leastP_ok (h : As.H) (D : Int) (ex : Bool) (n : Nat) (a b : Nat → Int) (hn9 : n ≤ 9223372036854775807) (hv : ckL D n a b = 0) (p : Nat → Int) (hp : p = thP (cnF fi4 n) (slF fi4 a n) (slF fi4 b n)) (z : Bool) (hz : z = (alW (cnF fi4 n) (slF fi4 a n) (slF fi4 b n) && decide (cnF (psF p a b) n = n))) :
    CallOk Try.prog 38 [lgV D ex n a b] h (.tup [.int .i64 (if z = true then (dgF p : Nat) else 0), .int .i64 (if z = true then 0 else 23)]) h := by
  obtain ⟨hD, l⟩ := ckL_lg hv
  have kS : ∀ (h' : As.H) (s : Nat), s = h'.n + 0 → CallOk Try.prog 59 [lgV D ex n a b] h' (.tup [.ptr s 0, .int .i64 0]) (addBs h' [shB D (.rsl ex 2 n (lkG a b)) fun _ => false]) := fun h' s e => by subst e; exact sheetFor_new h' D ex n a b hn9 hv
  have kT := fun (h' : As.H) mk (hs : h'.get 1 = some (shB D (.rsl ex 2 n (lkG a b)) mk)) => throughL_ok h' 1 D ex n a b l mk hs
  have hsm : Sm 8796093022208 4 p := fun k hk => by
    have := csP_sm (slF_dy (p := fi4) (fi4_le n) l.rg l.up) (slF_pl l.at') k hk
    rw [hp]; omega
  have kD := fun (h' : As.H) mk hs => draw_ok h' 1 D ex n l.le a b l.rg p hsm mk hs
  have kG := fun h' => degree_ok h' p
  have hle : cnF (psF p a b) n ≤ n := cnF_le _ _
  rw [← hp] at kT
  generalize dgF p = dg at *
  generalize alW (cnF fi4 n) (slF fi4 a n) (slF fi4 b n) = W at *
  generalize cnF (psF p a b) n = N at *
  generalize mkP (psF p a b) n = mk2 at *
  clear hp hsm
  cases W with
  | false =>
    have ez : z = false := by rw [hz]; rfl
    subst ez
    simp only [Bool.false_eq_true, if_false]
    refine CallOk.run0 Try.func38 rfl rfl rfl rfl rfl (WpR.of_vc ?_)
    (conv => whnf); (repeat' (first | ((with_reducible refine ifb_mk (fun hc => ?_) (fun hc => ?_)) <;> ((try simp only [decide_eq_true_eq, decide_eq_false_iff_not, Bool.not_eq_true', Bool.not_eq_false', Int.not_lt, Int.not_le, ne_eq, Decidable.not_not, beq_iff_eq, List.cons.injEq, and_true] at hc); (first | (exfalso; omega) | exact absurd True.intro hc | conv => whnf))) | ((with_reducible refine And.intro True.intro ?_); conv => whnf) | ((with_reducible refine CallX.all ?_); refine CallW.of_ok (kS _ 1 (by rfl)) ?_; conv => whnf) | ((with_reducible refine CallX.all ?_); refine CallW.of_ok (kT _ _ rfl) ?_; conv => whnf) | ((with_reducible refine grd_ex ?_); refine ex_ok (kD _ _ rfl) ?_; conv => whnf) | ((with_reducible refine CallX.all ?_); refine CallW.of_ok (kD _ _ rfl) ?_; conv => whnf) | ((with_reducible refine WpR.draw (id := 5) mixed [0, 1, 2, 3, 4, 6, 7, 8, 9, 10, 11, 5, 12, 13] [0, 1, 3, 7, 7, 31, 7, 71, 199, 455, 967, 1991, 4095, 8191] ?hh ?_); (case hh => kernel_rfl); conv => whnf) | ((with_reducible refine And.intro ?hh ?_); (case hh => exact condA); conv => whnf) | fail))
    all_goals first | (refine ⟨[], ?_, rfl, rfl, trivial, trivs⟩; simp only [renV, renL]; (first | done | rfl | (simp; done) | (simp; omega) | grind)) | (exfalso; omega)
  | true =>
    by_cases hN : N = n
    · have ez : z = true := by rw [hz, decide_eq_true hN]; rfl
      subst ez
      simp only [if_true]
      refine CallOk.run0 Try.func38 rfl rfl rfl rfl rfl (WpR.of_vc ?_)
      (conv => whnf); (repeat' (first | ((with_reducible refine ifb_mk (fun hc => ?_) (fun hc => ?_)) <;> ((try simp only [decide_eq_true_eq, decide_eq_false_iff_not, Bool.not_eq_true', Bool.not_eq_false', Int.not_lt, Int.not_le, ne_eq, Decidable.not_not, beq_iff_eq, List.cons.injEq, and_true] at hc); (first | (exfalso; omega) | exact absurd True.intro hc | conv => whnf))) | ((with_reducible refine And.intro True.intro ?_); conv => whnf) | ((with_reducible refine CallX.all ?_); refine CallW.of_ok (kS _ 1 (by rfl)) ?_; conv => whnf) | ((with_reducible refine CallX.all ?_); refine CallW.of_ok (kT _ _ rfl) ?_; conv => whnf) | ((with_reducible refine grd_ex ?_); refine ex_ok (kD _ _ rfl) ?_; conv => whnf) | ((with_reducible refine CallX.all ?_); refine CallW.of_ok (kD _ _ rfl) ?_; conv => whnf) | ((with_reducible refine WpR.draw (id := 5) mixed [0, 1, 2, 3, 4, 6, 7, 8, 9, 10, 11, 5, 12, 13] [0, 1, 3, 7, 7, 31, 7, 71, 199, 455, 967, 1991, 4095, 8191] ?hh ?_); (case hh => kernel_rfl); conv => whnf) | ((with_reducible refine CallX.all ?_); refine CallW.of_ok (kG _) ?_; conv => whnf) | ((with_reducible refine And.intro ?hh ?_); (case hh => exact condA); conv => whnf) | fail))
      all_goals first | (refine ⟨[], ?_, rfl, rfl, trivial, trivs⟩; simp only [renV, renL]; (first | done | rfl | (simp; done) | (simp; omega) | grind)) | (exfalso; omega)
    · have ez : z = false := by rw [hz, decide_eq_false hN]; rfl
      subst ez
      simp only [Bool.false_eq_true, if_false]
      refine CallOk.run0 Try.func38 rfl rfl rfl rfl rfl (WpR.of_vc ?_)
      (conv => whnf); (repeat' (first | ((with_reducible refine ifb_mk (fun hc => ?_) (fun hc => ?_)) <;> ((try simp only [decide_eq_true_eq, decide_eq_false_iff_not, Bool.not_eq_true', Bool.not_eq_false', Int.not_lt, Int.not_le, ne_eq, Decidable.not_not, beq_iff_eq, List.cons.injEq, and_true] at hc); (first | (exfalso; omega) | exact absurd True.intro hc | conv => whnf))) | ((with_reducible refine And.intro True.intro ?_); conv => whnf) | ((with_reducible refine CallX.all ?_); refine CallW.of_ok (kS _ 1 (by rfl)) ?_; conv => whnf) | ((with_reducible refine CallX.all ?_); refine CallW.of_ok (kT _ _ rfl) ?_; conv => whnf) | ((with_reducible refine grd_ex ?_); refine ex_ok (kD _ _ rfl) ?_; conv => whnf) | ((with_reducible refine CallX.all ?_); refine CallW.of_ok (kD _ _ rfl) ?_; conv => whnf) | ((with_reducible refine WpR.draw (id := 5) mixed [0, 1, 2, 3, 4, 6, 7, 8, 9, 10, 11, 5, 12, 13] [0, 1, 3, 7, 7, 31, 7, 71, 199, 455, 967, 1991, 4095, 8191] ?hh ?_); (case hh => kernel_rfl); conv => whnf) | ((with_reducible refine And.intro ?hh ?_); (case hh => exact condA); conv => whnf) | fail))
      all_goals first | (refine ⟨[], ?_, rfl, rfl, trivial, trivs⟩; simp only [renV, renL]; (first | done | rfl | (simp; done) | (simp; omega) | grind)) | (exfalso; omega)
end Go.Proofs.K
