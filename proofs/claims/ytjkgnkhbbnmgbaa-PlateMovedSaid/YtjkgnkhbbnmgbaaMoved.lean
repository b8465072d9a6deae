/- What the functions answer that the laws call, one after another (Moved). -/
import Derived.Test.YtjkgnkhbbnmgbaaAs6
import Derived.Test.YtjkgnkhbbnmgbaaMv

set_option linter.unusedVariables false
namespace Go.Proofs.P
open Go.As
set_option maxRecDepth 20000
set_option linter.unusedVariables false
set_option linter.unusedSimpArgs false

set_option maxHeartbeats 8000000 in
theorem plateMoved_ok (h : H) (n : Int) (D : List Int) (hl : D.length ≤ 9223372036854775807) (dv : V) (hs : SlC h (iVs D) D.length dv) (a : Int) (ha : 0 ≤ a ∧ a ≤ 255) (b : Int) (hb : 0 ≤ b ∧ b ≤ 255) (c : Int) (hc : 0 ≤ c ∧ c ≤ 255) :
    CallOk Try.prog 10 [plateV n dv, .int .u8 a, .int .u8 b, .int .u8 c] h (.bool true) h := by
  obtain ⟨vo, svC, hsv, hca, hvw⟩ := hs.view 0
  refine CallOk.run Try.func10 rfl rfl (argsC := [plateV n svC, .int .u8 a, .int .u8 b, .int .u8 c]) (Nat.le_of_ble_eq_true rfl) [vo] (.cons (CaL.agg (.cons (.bare rfl) (.cons (hca _ rfl) .nil))) (.cons (.bare rfl) (.cons (.bare rfl) (.cons (.bare rfl) .nil)))) (viewMc1 iVs_bare hvw) rfl (WpR.of_vc ?_)
  have kF := fun h' dv hs => fine_ok h' n D hl dv hs
  cases hf : fineB n D with
  | false =>
    rw [hf] at kF
    cases hsv
    all_goals
      (conv => whnf); (repeat' (first | ((with_reducible refine ifb_mk (fun hc => ?_) (fun hc => ?_)) <;> ((try simp only [decide_eq_true_eq, decide_eq_false_iff_not, Bool.not_eq_true', Bool.not_eq_false', Int.not_lt, Int.not_le, ne_eq, Decidable.not_not, beq_iff_eq, List.cons.injEq, and_true] at hc); (first | (exfalso; omega) | conv => whnf))) | ((with_reducible refine And.intro True.intro ?_); conv => whnf) | ((with_reducible refine CallX.all ?_); refine CallW.of_ok (kF _ _ (by first | exact SlC.own rfl | exact iNil (by omega))) ?_; conv => whnf) | ((with_reducible refine CallX.all ?_); refine CallW.of_ok (works_any _) ?_; conv => whnf) | ((with_reducible refine And.intro ?hh ?_); (case hh => (unfold InR; (try dsimp only); omega)); conv => whnf) | ((with_reducible refine And.intro ?hh ?_); (case hh => ((try dsimp only); omega)); conv => whnf) | ((with_reducible refine And.intro ?hh ?_); (case hh => ((conv => whnf); (repeat' (first | exact True.intro | rfl | refine And.intro ?_ ?_)); done)); conv => whnf) | fail))
      (refine ⟨[], ?_, rfl, rfl, trivial, (by (repeat' (first | exact True.intro | rfl | refine And.intro ?_ ?_)))⟩; simp only [renV, renL]; (first | done | rfl | simp | grind))
  | true =>
    rw [hf] at kF
    obtain ⟨k, rfl, hk, hD, hw⟩ := ck_valid (fine_ck hf)
    cases hsv with
    | nil h0 => exfalso; rw [hD] at h0; have := Nat.mul_le_mul hk.1 hk.1; omega
    | @sl cap ex =>
      (conv => whnf); (repeat' (first | ((with_reducible refine ifb_mk (fun hc => ?_) (fun hc => ?_)) <;> ((try simp only [decide_eq_true_eq, decide_eq_false_iff_not, Bool.not_eq_true', Bool.not_eq_false', Int.not_lt, Int.not_le, ne_eq, Decidable.not_not, beq_iff_eq, List.cons.injEq, and_true] at hc); (first | (exfalso; omega) | conv => whnf))) | ((with_reducible refine And.intro True.intro ?_); conv => whnf) | ((with_reducible refine CallX.all ?_); refine CallW.of_ok (kF _ _ (SlC.own rfl)) ?_; conv => whnf) | ((with_reducible refine And.intro ?hh ?_); (case hh => (unfold InR; (try dsimp only); omega)); conv => whnf) | ((with_reducible refine And.intro ?hh ?_); (case hh => ((try dsimp only); omega)); conv => whnf) | ((with_reducible refine And.intro ?hh ?_); (case hh => ((conv => whnf); (repeat' (first | exact True.intro | rfl | refine And.intro ?_ ?_)); done)); conv => whnf) | fail))
      obtain ⟨x, hx, ex1⟩ := x8 ha
      obtain ⟨y, hy, ey1⟩ := x8 hb
      obtain ⟨z, hz, ez1⟩ := x8 hc
      rw [ex1, ey1, ez1]
      have hlt : D.length ≤ 64 := by rw [hD]; exact Nat.mul_le_mul hk.2 hk.2
      have k1 := fun h' => aftP_ok h' x y hx hy
      have k2 := fun h' => aftP_ok h' y z hy hz
      have k3 := fun h' => invP_ok h' x hx
      have hp := aft_lt hx hy
      have hq := aft_lt hy hz
      have hi := inv_lt hx
      have k4 := fun h' => aftP_ok h' (aftN x y) z hp hz
      have k5 := fun h' => aftP_ok h' x (aftN y z) hx hq
      have k6 := fun h' => aftP_ok h' x (invN x) hx hi
      have k7 := fun h' => aftP_ok h' (invN x) x hi hx
      rw [aft_assoc hx hy hz] at k4
      rw [(aft_inv hx).1] at k6
      rw [(aft_inv hx).2] at k7
      have m1 := fun h' => isM_ok h' (aftN x y) hp
      have m2 := fun h' => isM_ok h' (aftN y z) hq
      have m3 := fun h' => isM_ok h' (invN x) hi
      have e1 : movL k y (movL k x D) = movL k (aftN x y) D := mov_mov hk.2 hx hy hD
      have e2 : movL k (invN x) (movL k x D) = D := by rw [mov_mov hk.2 hx hi hD, (aft_inv hx).1, mov_zero]
      have hDx : (movL k x D).length = k * k := by rw [movL_len]; exact hD
      have hwx : wi 0 3 (movL k x D) = true := wi_mov hw
      have a1 := fun h' hs' => moveP_ok h' k x hk hx D hD hw 0 0 cap ex hs'
      have a2 := fun h' b cap ex hs' => moveP_ok h' k y hk hy (movL k x D) hDx hwx b 0 cap ex hs'
      have a3 := fun h' hs' => moveP_ok h' k (aftN x y) hk hp D hD hw 0 0 cap ex hs'
      have a4 := fun h' b cap ex hs' => moveP_ok h' k (invN x) hk hi (movL k x D) hDx hwx b 0 cap ex hs'
      have r1 := fun h' hs' => moveOf_ok h' k x hk hx D hD 0 0 cap ex hs'
      rw [e1] at a2
      rw [e2] at a4
      rw [movL_len] at a2 a4
      have s1 := fun h' av bv g1 g2 => samePlate_ok h' k k (movL k x D) (movL k x D) av bv (by rw [movL_len]; omega) g1 g2
      have s2 := fun h' av bv g1 g2 => samePlate_ok h' k k (movL k (aftN x y) D) (movL k (aftN x y) D) av bv (by rw [movL_len]; omega) g1 g2
      have s3 := fun h' av bv g1 g2 => samePlate_ok h' k k D D av bv (by omega) g1 g2
      rw [decide_eq_true rfl, decide_eq_true rfl, movL_len] at s1 s2
      rw [decide_eq_true rfl, decide_eq_true rfl] at s3
      clear e1 e2
      generalize aftN x (aftN y z) = u at *
      generalize aftN y z = q at *
      generalize movL k (aftN x y) D = P1 at *
      generalize aftN x y = p at *
      generalize invN x = i at *
      generalize movL k x D = X1 at *
      have wA : ∀ {K : V → H → Prop} (h' : H) (hs' : SlC h' (iVs D) D.length (.sl 0 0 D.length cap ex)), (addNP h' (fun _ => [.cells (ofL (iVs X1) 0) true none]) fun N h' => K (.tup [plateV k (.sl N 0 D.length D.length true), .int .i64 0]) h') → CallW Try.prog [] 19 [plateV k (.sl 0 0 D.length cap ex), nV x] h' K := fun h' hs' hK => CallW.of_new (a1 h' hs') hK
      have wB : ∀ {K : V → H → Prop} (h' : H) (b cap : Nat) (ex : Bool) (hs' : SlC h' (iVs X1) D.length (.sl b 0 D.length cap ex)), (addNP h' (fun _ => [.cells (ofL (iVs P1) 0) true none]) fun N h' => K (.tup [plateV k (.sl N 0 D.length D.length true), .int .i64 0]) h') → CallW Try.prog [] 19 [plateV k (.sl b 0 D.length cap ex), nV y] h' K := fun h' b cap ex hs' hK => CallW.of_new (a2 h' b cap ex hs') hK
      have wC : ∀ {K : V → H → Prop} (h' : H) (hs' : SlC h' (iVs D) D.length (.sl 0 0 D.length cap ex)), (addNP h' (fun _ => [.cells (ofL (iVs P1) 0) true none]) fun N h' => K (.tup [plateV k (.sl N 0 D.length D.length true), .int .i64 0]) h') → CallW Try.prog [] 19 [plateV k (.sl 0 0 D.length cap ex), nV p] h' K := fun h' hs' hK => CallW.of_new (a3 h' hs') hK
      have wD : ∀ {K : V → H → Prop} (h' : H) (b cap : Nat) (ex : Bool) (hs' : SlC h' (iVs X1) D.length (.sl b 0 D.length cap ex)), (addNP h' (fun _ => [.cells (ofL (iVs D) 0) true none]) fun N h' => K (.tup [plateV k (.sl N 0 D.length D.length true), .int .i64 0]) h') → CallW Try.prog [] 19 [plateV k (.sl b 0 D.length cap ex), nV i] h' K := fun h' b cap ex hs' hK => CallW.of_new (a4 h' b cap ex hs') hK
      (conv => whnf); (repeat' (first | ((with_reducible refine ifb_mk (fun hc => ?_) (fun hc => ?_)) <;> ((try simp only [decide_eq_true_eq, decide_eq_false_iff_not, Bool.not_eq_true', Bool.not_eq_false', Int.not_lt, Int.not_le, ne_eq, Decidable.not_not, beq_iff_eq, List.cons.injEq, and_true] at hc); (first | (exfalso; omega) | conv => whnf))) | ((with_reducible refine And.intro True.intro ?_); conv => whnf) | ((with_reducible refine CallX.all ?_); refine CallW.of_ok (k1 _) ?_; conv => whnf) | ((with_reducible refine CallX.all ?_); refine CallW.of_ok (k2 _) ?_; conv => whnf) | ((with_reducible refine CallX.all ?_); refine CallW.of_ok (k3 _) ?_; conv => whnf) | ((with_reducible refine CallX.all ?_); refine CallW.of_ok (k4 _) ?_; conv => whnf) | ((with_reducible refine CallX.all ?_); refine CallW.of_ok (k5 _) ?_; conv => whnf) | ((with_reducible refine CallX.all ?_); refine CallW.of_ok (k6 _) ?_; conv => whnf) | ((with_reducible refine CallX.all ?_); refine CallW.of_ok (k7 _) ?_; conv => whnf) | ((with_reducible refine CallX.all ?_); refine CallW.of_ok (m1 _) ?_; conv => whnf) | ((with_reducible refine CallX.all ?_); refine CallW.of_ok (m2 _) ?_; conv => whnf) | ((with_reducible refine CallX.all ?_); refine CallW.of_ok (m3 _) ?_; conv => whnf) | ((with_reducible refine CallX.all ?_); refine wA _ (SlC.own rfl) ?_; conv => whnf) | ((with_reducible refine CallX.all ?_); refine wC _ (SlC.own rfl) ?_; conv => whnf) | ((with_reducible refine CallX.all ?_); refine wB _ _ _ _ (SlC.own rfl) ?_; conv => whnf) | ((with_reducible refine CallX.all ?_); refine wD _ _ _ _ (SlC.own rfl) ?_; conv => whnf) | ((with_reducible refine WpR.draw (id := 16) mixed [0, 1, 2, 3, 4, 5, 6, 7, 8, 9] [0, 1, 3, 7, 7, 7, 55, 127, 255, 511] ?hh ?_); (case hh => kernel_rfl); conv => whnf) | ((with_reducible refine grd_ex ?_); refine ex_ok (s1 _ _ _ (SlC.own rfl) (SlC.own rfl)) ?_; conv => whnf) | ((with_reducible refine CallX.all ?_); refine CallW.of_ok (s2 _ _ _ (SlC.own rfl) (SlC.own rfl)) ?_; conv => whnf) | ((with_reducible refine CallX.all ?_); refine CallW.of_ok (s3 _ _ _ (SlC.own rfl) (SlC.own rfl)) ?_; conv => whnf) | ((with_reducible refine CallX.all ?_); refine CallW.of_ok (works_any _) ?_; conv => whnf) | ((with_reducible refine grd_ex ?_); refine ex_new (vC := fun N => plateV k (.sl N 0 D.length D.length true)) (news := fun _ => [.cells (ofL (iVs X1) 0) true none]) (r1 _ (SlC.own rfl)) ?_; conv => whnf) | ((with_reducible refine And.intro ?hh ?_); (case hh => (unfold InR; (try dsimp only); omega)); conv => whnf) | ((with_reducible refine And.intro ?hh ?_); (case hh => ((try dsimp only); omega)); conv => whnf) | ((with_reducible refine And.intro ?hh ?_); (case hh => ((conv => whnf); (repeat' (first | exact True.intro | rfl | refine And.intro ?_ ?_)); done)); conv => whnf) | fail))
      all_goals first | exact absurd trivial (by assumption) | (refine ⟨[], ?_, rfl, rfl, trivial, (by (repeat' (first | exact True.intro | rfl | refine And.intro ?_ ?_)))⟩; simp only [renV, renL]; (first | done | rfl | simp | grind))
end Go.Proofs.P
