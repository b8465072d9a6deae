/- What the functions answer that the laws call, one after another (Lb). -/
import Derived.Test.YtgopneibaajgbaaAs6
import Derived.Test.YtgopneibaajgbaaNx
import Derived.Test.YtgopneibaajgbaaWk

set_option linter.unusedVariables false
namespace Go.Proofs.H
open Go.As
set_option maxRecDepth 20000
set_option linter.unusedVariables false
set_option linter.unusedSimpArgs false

/-! ### MendBurns -/

theorem burn_both (W H : Int) (k : Nat) (d : Nat → Int) (hk : k ≤ 9223372036854775807) : ∃ (n : Nat) (v : Nat → Int) (b : Bool) (e : Int), n ≤ 64 ∧ (∀ h, CallOk Try.prog 31 [plV W H false k d] h (.tup [.rsl true 1 n (iG v), .int .i64 e]) h) ∧ (∀ h, CallOk Try.prog 32 [plV W H false k d] h (.tup [.rsl false 1 n (iG v), .int .i64 e]) h) ∧
    (∀ h, CallOk Try.prog 33 [plV W H false k d] h (.tup [.bool b, .int .i64 e]) h) ∧ ∀ h, CallOk Try.prog 34 [plV W H false k d] h (.tup [.bool b, .int .i64 e]) h := by
  have hnil : ∀ (ex : Bool) (e : Int), Lk (.tup [.nils, .int .i64 e]) (.tup [.rsl ex 1 0 (iG z0), .int .i64 e]) := fun ex e => LkL.tup (.cons .nil (.cons (.same _) .nil))
  by_cases hc : ckP W H k d = 0
  · obtain ⟨w, h, rfl, rfl, p⟩ := Pv.of hc
    have hle := p.le
    by_cases hf : ∀ i, i < k → d i ≤ 3
    · have hb := (brn_le w h k d).le
      exact ⟨(brn w h k d).length, fun j => ((brn w h k d).reverse.getD j 0 : Nat), _, 0, by omega, fun h' => burn_ok p hf false h', fun h' => burnR_ok p hf h', fun h' => back_ok p hf false h', fun h' => backR_ok p hf h'⟩
    · exact ⟨0, z0, false, 9, by omega, fun h' => CallOk.like (burn_state p hf false h') (hnil _ _), fun h' => CallOk.like (burnR_state p hf h') (hnil _ _), fun h' => back_no h' 9 (by decide) w h false k d fun h2 => burn_state p hf false h2, fun h' => backR_no h' .nils .nils 9 (by decide) rfl w h k d fun h2 => burnR_state p hf h2⟩
  · exact ⟨0, z0, false, _, by omega, fun h' => CallOk.like (burn_err h' W H false k d hk hc) (hnil _ _), fun h' => CallOk.like (burnR_err h' W H false k d hk hc) (hnil _ _), fun h' => back_no h' _ hc W H false k d fun h2 => burn_err h2 W H false k d hk hc, fun h' => backR_no h' .nils .nils _ hc rfl W H k d fun h2 => burnR_err h2 W H false k d hk hc⟩
set_option maxHeartbeats 4000000 in
theorem lawBurns (h : As.H) (W H : Int) (k : Nat) (d : Nat → Int) (hk : k ≤ 9223372036854775807) :
    CallOk Try.prog 5 [plV W H false k d] h (.bool true) h := by
  have kWk : ∀ h, CallOk Try.prog 19 [] h (.bool true) h := fun h => wwhole.everywhere rfl h
  have k0 := fun h' => great_ok h' W H false k d hk
  obtain ⟨n, v, b, e, hn, k1, k2, k3, k4⟩ := burn_both W H k d hk
  have k5 := fun h' => ints_ok h' true false n n v v (by omega) (by omega)
  rw [eqB_t rfl fun _ _ => rfl] at k5
  by_cases hg : 50 < k
  · rw [decide_eq_true hg] at k0
    refine CallOk.run0 Try.func5 rfl rfl rfl rfl rfl (WpR.of_vc ?_)
    (conv => whnf); (repeat' (first | ((with_reducible refine ifb_mk (fun hc => ?_) (fun hc => ?_)) <;> ((try simp only [decide_eq_true_eq, decide_eq_false_iff_not, Bool.not_eq_true', Bool.not_eq_false', Int.not_lt, Int.not_le, ne_eq, Decidable.not_not, beq_iff_eq, List.cons.injEq, and_true] at hc); (first | (exfalso; omega) | exact absurd True.intro hc | conv => whnf))) | ((with_reducible refine And.intro True.intro ?_); conv => whnf) | ((with_reducible refine CallX.all ?_); refine CallW.of_ok (k0 _) ?_; conv => whnf) | ((with_reducible refine CallX.all ?_); refine CallW.of_ok (kWk _) ?_; conv => whnf) | ((with_reducible refine And.intro ?hh ?_); (case hh => exact condA); conv => whnf) | fail))
    all_goals (refine ⟨[], ?_, rfl, rfl, trivial, trivs⟩; simp only [renV, renL]; (first | done | rfl | (simp; done) | (simp; omega) | grind))
  · rw [decide_eq_false hg] at k0
    cases b
    · refine CallOk.run0 Try.func5 rfl rfl rfl rfl rfl (WpR.of_vc ?_)
      (conv => whnf); (repeat' (first | ((with_reducible refine ifb_mk (fun hc => ?_) (fun hc => ?_)) <;> ((try simp only [decide_eq_true_eq, decide_eq_false_iff_not, Bool.not_eq_true', Bool.not_eq_false', Int.not_lt, Int.not_le, ne_eq, Decidable.not_not, beq_iff_eq, List.cons.injEq, and_true] at hc); (first | (exfalso; omega) | exact absurd True.intro hc | conv => whnf))) | ((with_reducible refine And.intro True.intro ?_); conv => whnf) | ((with_reducible refine CallX.all ?_); refine CallW.of_ok (k0 _) ?_; conv => whnf) | ((with_reducible refine CallX.all ?_); refine CallW.of_ok (k1 _) ?_; conv => whnf) | ((with_reducible refine CallX.all ?_); refine CallW.of_ok (k2 _) ?_; conv => whnf) | ((with_reducible refine CallX.all ?_); refine CallW.of_ok (k3 _) ?_; conv => whnf) | ((with_reducible refine CallX.all ?_); refine CallW.of_ok (k4 _) ?_; conv => whnf) | ((with_reducible refine CallX.all ?_); refine CallW.of_ok (k5 _) ?_; conv => whnf) | ((with_reducible refine CallX.all ?_); refine CallW.of_ok (kWk _) ?_; conv => whnf) | ((with_reducible refine grd_ex ?_); refine ex_ok (k5 _) ?_; conv => whnf) | ((with_reducible refine grd_ex ?_); refine ex_ok (kWk _) ?_; conv => whnf) | ((with_reducible refine And.intro ?hh ?_); (case hh => exact condA); conv => whnf) | fail))
      all_goals first | (refine ⟨[], ?_, rfl, rfl, trivial, trivs⟩; simp only [renV, renL]; (first | done | rfl | (simp; done) | (simp; omega) | grind)) | (exfalso; omega)
    · refine CallOk.run0 Try.func5 rfl rfl rfl rfl rfl (WpR.of_vc ?_)
      (conv => whnf); (repeat' (first | ((with_reducible refine ifb_mk (fun hc => ?_) (fun hc => ?_)) <;> ((try simp only [decide_eq_true_eq, decide_eq_false_iff_not, Bool.not_eq_true', Bool.not_eq_false', Int.not_lt, Int.not_le, ne_eq, Decidable.not_not, beq_iff_eq, List.cons.injEq, and_true] at hc); (first | (exfalso; omega) | exact absurd True.intro hc | conv => whnf))) | ((with_reducible refine And.intro True.intro ?_); conv => whnf) | ((with_reducible refine CallX.all ?_); refine CallW.of_ok (k0 _) ?_; conv => whnf) | ((with_reducible refine CallX.all ?_); refine CallW.of_ok (k1 _) ?_; conv => whnf) | ((with_reducible refine CallX.all ?_); refine CallW.of_ok (k2 _) ?_; conv => whnf) | ((with_reducible refine CallX.all ?_); refine CallW.of_ok (k3 _) ?_; conv => whnf) | ((with_reducible refine CallX.all ?_); refine CallW.of_ok (k4 _) ?_; conv => whnf) | ((with_reducible refine CallX.all ?_); refine CallW.of_ok (k5 _) ?_; conv => whnf) | ((with_reducible refine CallX.all ?_); refine CallW.of_ok (kWk _) ?_; conv => whnf) | ((with_reducible refine grd_ex ?_); refine ex_ok (k5 _) ?_; conv => whnf) | ((with_reducible refine grd_ex ?_); refine ex_ok (kWk _) ?_; conv => whnf) | ((with_reducible refine And.intro ?hh ?_); (case hh => exact condA); conv => whnf) | fail))
      all_goals first | (refine ⟨[], ?_, rfl, rfl, trivial, trivs⟩; simp only [renV, renL]; (first | done | rfl | (simp; done) | (simp; omega) | grind)) | (exfalso; omega)
end Go.Proofs.H
