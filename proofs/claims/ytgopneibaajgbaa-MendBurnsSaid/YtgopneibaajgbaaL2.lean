/- What the functions answer that the laws call, one after another (L2). -/
import Derived.Test.YtgopneibaajgbaaAs6
import Derived.Test.YtgopneibaajgbaaL1

set_option linter.unusedVariables false
namespace Go.Proofs.H
open Go.As
set_option maxRecDepth 20000
set_option linter.unusedVariables false
set_option linter.unusedSimpArgs false

/-! ### MendFlats -/

theorem xF_out {W H : Nat} (hW : 1 ≤ W ∧ W ≤ 6) (hH : 1 ≤ H ∧ H ≤ 6) (d : Nat → Int) {k : Nat} (hk : W * H ≤ k) : xF W H d k = d k ∧ uF W H d k = 0 := fin_out hW hH d hk
theorem flatten_both (W H : Int) (k : Nat) (d : Nat → Int) (hk : k ≤ 9223372036854775807) : ∃ (n : Nat) (x v : Nat → Int) (e : Int), n ≤ 64 ∧ (∀ h, CallOk Try.prog 27 [plV W H false k d] h (.tup [.rsl true 1 n (iG x), .rsl true 1 n (iG v), .int .i64 e]) h) ∧
    ∀ h, CallOk Try.prog 28 [plV W H false k d] h (.tup [.rsl false 1 n (iG x), .rsl false 1 n (iG v), .int .i64 e]) h := by
  have hnil : ∀ (ex : Bool) (e : Int), Lk (.tup [.nils, .nils, .int .i64 e]) (.tup [.rsl ex 1 0 (iG z0), .rsl ex 1 0 (iG z0), .int .i64 e]) := fun ex e => LkL.tup (.cons .nil (.cons .nil (.cons (.same _) .nil)))
  by_cases hc : ckP W H k d = 0
  · obtain ⟨w, h, rfl, rfl, hW, hH, hk2⟩ := ckP_nat hc
    obtain ⟨_, _, hd⟩ := ckP_n hc
    have hwh := wh_le hW hH
    exact ⟨w * h, _, _, 0, by omega, fun h' => flatten_ok h' w h hW hH false k d hk2 hd, fun h' => by have := flattenR_ok h' w h hW hH false k d hk2 hd; rw [hk2] at this ⊢; exact this⟩
  · exact ⟨0, z0, z0, _, by omega, fun h' => CallOk.like (flatten_err h' W H false k d hk hc) (hnil _ _), fun h' => CallOk.like (flattenR_err h' W H false k d hk hc) (hnil _ _)⟩
theorem lost_both (W H : Int) (k : Nat) (d : Nat → Int) (hk : k ≤ 9223372036854775807) : ∃ (m e : Int), (∀ h, CallOk Try.prog 29 [plV W H false k d] h (.tup [.int .i64 m, .int .i64 e]) h) ∧
    ∀ h, CallOk Try.prog 30 [plV W H false k d] h (.tup [.int .i64 m, .int .i64 e]) h := by
  by_cases hc : ckP W H k d = 0
  · obtain ⟨w, h, rfl, rfl, hW, hH, hk2⟩ := ckP_nat hc
    obtain ⟨_, _, hd⟩ := ckP_n hc
    exact ⟨_, _, fun h' => lost_ok h' w h hW hH false k d hk2 hd, fun h' => by have := lostR_ok h' w h hW hH false k d hk2 hd; rw [hk2] at this ⊢; exact this⟩
  · exact ⟨_, _, fun h' => lost_err h' W H false k d hk hc, fun h' => lostR_err h' W H false k d hk hc⟩
set_option maxHeartbeats 4000000 in
theorem mendFlats_ok (kWk : ∀ h, CallOk Try.prog 19 [] h (.bool true) h) (h : As.H) (W H : Int) (k : Nat) (d : Nat → Int) (hk : k ≤ 9223372036854775807) :
    CallOk Try.prog 4 [plV W H false k d] h (.bool true) h := by
  have k0 := fun h' => great_ok h' W H false k d hk
  obtain ⟨n, x, v, e, hn, k1, k2⟩ := flatten_both W H k d hk
  obtain ⟨m, e2, k3, k4⟩ := lost_both W H k d hk
  have k5 := fun h' => longs_ok h' true false n n x x (by omega) (by omega)
  have k6 := fun h' => longs_ok h' true false n n v v (by omega) (by omega)
  rw [eqB_t rfl fun _ _ => rfl] at k5 k6
  by_cases hg : 50 < k
  · rw [decide_eq_true hg] at k0
    refine CallOk.run0 Try.func4 rfl rfl rfl rfl rfl (WpR.of_vc ?_)
    (conv => whnf); (repeat' (first | ((with_reducible refine ifb_mk (fun hc => ?_) (fun hc => ?_)) <;> ((try simp only [decide_eq_true_eq, decide_eq_false_iff_not, Bool.not_eq_true', Bool.not_eq_false', Int.not_lt, Int.not_le, ne_eq, Decidable.not_not, beq_iff_eq, List.cons.injEq, and_true] at hc); (first | (exfalso; omega) | exact absurd True.intro hc | conv => whnf))) | ((with_reducible refine And.intro True.intro ?_); conv => whnf) | ((with_reducible refine CallX.all ?_); refine CallW.of_ok (k0 _) ?_; conv => whnf) | ((with_reducible refine CallX.all ?_); refine CallW.of_ok (kWk _) ?_; conv => whnf) | ((with_reducible refine And.intro ?hh ?_); (case hh => exact condA); conv => whnf) | fail))
    all_goals (refine ⟨[], ?_, rfl, rfl, trivial, trivs⟩; simp only [renV, renL]; (first | done | rfl | (simp; done) | (simp; omega) | grind))
  · rw [decide_eq_false hg] at k0
    refine CallOk.run0 Try.func4 rfl rfl rfl rfl rfl (WpR.of_vc ?_)
    (conv => whnf); (repeat' (first | ((with_reducible refine ifb_mk (fun hc => ?_) (fun hc => ?_)) <;> ((try simp only [decide_eq_true_eq, decide_eq_false_iff_not, Bool.not_eq_true', Bool.not_eq_false', Int.not_lt, Int.not_le, ne_eq, Decidable.not_not, beq_iff_eq, List.cons.injEq, and_true] at hc); (first | (exfalso; omega) | exact absurd True.intro hc | conv => whnf))) | ((with_reducible refine And.intro True.intro ?_); conv => whnf) | ((with_reducible refine CallX.all ?_); refine CallW.of_ok (k0 _) ?_; conv => whnf) | ((with_reducible refine CallX.all ?_); refine CallW.of_ok (k1 _) ?_; conv => whnf) | ((with_reducible refine CallX.all ?_); refine CallW.of_ok (k2 _) ?_; conv => whnf) | ((with_reducible refine CallX.all ?_); refine CallW.of_ok (k3 _) ?_; conv => whnf) | ((with_reducible refine CallX.all ?_); refine CallW.of_ok (k4 _) ?_; conv => whnf) | ((with_reducible refine CallX.all ?_); refine CallW.of_ok (k5 _) ?_; conv => whnf) | ((with_reducible refine CallX.all ?_); refine CallW.of_ok (k6 _) ?_; conv => whnf) | ((with_reducible refine CallX.all ?_); refine CallW.of_ok (kWk _) ?_; conv => whnf) | ((with_reducible refine grd_ex ?_); refine ex_ok (k5 _) ?_; conv => whnf) | ((with_reducible refine grd_ex ?_); refine ex_ok (k6 _) ?_; conv => whnf) | ((with_reducible refine grd_ex ?_); refine ex_ok (kWk _) ?_; conv => whnf) | ((with_reducible refine And.intro ?hh ?_); (case hh => exact condA); conv => whnf) | fail))
    all_goals first | (refine ⟨[], ?_, rfl, rfl, trivial, trivs⟩; simp only [renV, renL]; (first | done | rfl | (simp; done) | (simp; omega) | grind)) | (exfalso; omega)
end Go.Proofs.H
