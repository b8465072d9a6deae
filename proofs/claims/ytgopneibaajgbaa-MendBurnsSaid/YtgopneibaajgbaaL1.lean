/- What the functions answer that the laws call, one after another (L1). -/
import Derived.Test.YtgopneibaajgbaaAs6
import Derived.Test.YtgopneibaajgbaaR2

set_option linter.unusedVariables false
namespace Go.Proofs.H
open Go.As
set_option maxRecDepth 20000
set_option linter.unusedVariables false
set_option linter.unusedSimpArgs false

/-! ### MendPlates -/

theorem blow_both (W H : Int) (k : Nat) (d : Nat → Int) (hk : k ≤ 9223372036854775807) (p : Int) : ∃ (n : Nat) (x y : Nat → Int) (e : Int), n ≤ 64 ∧ eqB n x n y = true ∧ (∀ h, CallOk Try.prog 20 [plV W H false k d, .int .i64 p] h (.tup [.rsl true 1 n (iG x), .int .i64 e]) h) ∧
    ∀ h, CallOk Try.prog 21 [plV W H false k d, .int .i64 p] h (.tup [.rsl false 1 n (iG y), .int .i64 e]) h := by
  have hnil : ∀ (ex : Bool) (e : Int), Lk (.tup [.nils, .int .i64 e]) (.tup [.rsl ex 1 0 (iG z0), .int .i64 e]) := fun ex e => LkL.tup (.cons .nil (.cons (.same _) .nil))
  by_cases hc : ckP W H k d = 0
  · obtain ⟨w, h, rfl, rfl, hW, hH, hk2⟩ := ckP_nat hc
    obtain ⟨_, _, hd⟩ := ckP_n hc
    have hwh := wh_le hW hH
    by_cases hp : 0 ≤ p ∧ p < (k : Int)
    · obtain ⟨i, rfl⟩ : ∃ i : Nat, p = i := ⟨p.toNat, by omega⟩
      by_cases h3 : 3 < d i
      · exact ⟨w * h, hitA (adI w h) d i 1, hitA (adI w h) d i 1, 0, by omega, eqB_t rfl fun _ _ => rfl, fun h' => blow_ok h' w h hW hH false k d hk2 hd i (by omega) h3, fun h' => by rw [← hk2]; exact blowR_ok h' w h hW hH false k d hk2 hd i (by omega) h3⟩
      · exact ⟨0, z0, z0, 9, by omega, rfl, fun h' => CallOk.like (blow_flat h' w h hW hH false k d hk2 hd i (by omega) h3) (hnil _ _), fun h' => CallOk.like (blowR_bad h' w h hW hH false k d hk2 hd i 9 (.inr ⟨rfl, i, rfl, by omega, h3⟩)) (hnil _ _)⟩
    · exact ⟨0, z0, z0, 2, by omega, rfl, fun h' => CallOk.like (blow_out h' w h hW hH false k d hk2 hd p (by rw [← hk2]; exact hp)) (hnil _ _), fun h' => CallOk.like (blowR_bad h' w h hW hH false k d hk2 hd p 2 (.inl ⟨rfl, hp⟩)) (hnil _ _)⟩
  · exact ⟨0, z0, z0, ckP W H k d, by omega, rfl, fun h' => CallOk.like (blow_err h' W H false k d hk hc p) (hnil _ _), fun h' => CallOk.like (blowR_err h' W H false k d hk hc p) (hnil _ _)⟩
theorem checkBlows_both (W H : Int) (k : Nat) (d : Nat → Int) (hk : k ≤ 9223372036854775807) (ex2 : Bool) (kb : Nat) (bl : Nat → Int) (hkb : kb ≤ 9223372036854775807) : ∃ e : Int, (∀ h, CallOk Try.prog 25 [plV W H false k d, .rsl ex2 1 kb (iG bl)] h (.int .i64 e) h) ∧
    ∀ h, CallOk Try.prog 26 [plV W H false k d, .rsl ex2 1 kb (iG bl)] h (.int .i64 e) h := by
  by_cases hc : ckP W H k d = 0
  · obtain ⟨w, h, rfl, rfl, hW, hH, hk2⟩ := ckP_nat hc
    obtain ⟨_, _, hd⟩ := ckP_n hc
    by_cases hb : kb = w * h ∧ wiR 0 1000000 kb bl = true
    · have hbl : ∀ i, i < kb → 0 ≤ bl i ∧ bl i ≤ 1000000 := fun i hi => of_decide_eq_true (allF_iff.1 hb.2 i hi)
      exact ⟨_, fun h' => checkBlows_ok h' w h hW hH false k d hk2 hd ex2 kb bl hb.1 hbl _ rfl, fun h' => checkBlowsR_ok h' w h hW hH k d hk2 hd ex2 kb bl hb.1 hbl _ rfl⟩
    · have hbad : kb ≠ w * h ∨ wiR 0 1000000 kb bl = false := by
        by_cases h1 : kb = w * h
        · exact .inr (Bool.eq_false_iff.2 fun h2 => hb ⟨h1, h2⟩)
        · exact .inl h1
      exact ⟨_, fun h' => checkBlows_bad h' w h hW hH false k d hk2 hd ex2 kb bl hkb hbad, fun h' => checkBlowsR_bad h' w h hW hH false k d hk2 hd ex2 kb bl hkb hbad⟩
  · exact ⟨_, fun h' => checkBlows_err h' W H false k d hk hc ex2 kb bl, fun h' => checkBlowsR_err h' W H false k d hk hc ex2 kb bl⟩
set_option maxHeartbeats 4000000 in
theorem mendPlates_ok (kWk : ∀ h, CallOk Try.prog 19 [] h (.bool true) h) (h : As.H) (W H : Int) (k : Nat) (d : Nat → Int) (hk : k ≤ 9223372036854775807) (p : Int) (kb : Nat) (bl : Nat → Int) (hkb : kb ≤ 9223372036854775807) :
    CallOk Try.prog 3 [plV W H false k d, .int .i64 p, .rsl false 1 kb (iG bl)] h (.bool true) h := by
  have k0 := fun h' => great_ok h' W H false k d hk
  obtain ⟨n, x, y, e, hn, hxy, k1, k2⟩ := blow_both W H k d hk p
  obtain ⟨c, k3, k4⟩ := checkBlows_both W H k d hk false kb bl hkb
  have k5 := fun h' => checkPlate_ok h' W H false k d hk
  have k6 := fun h' => checkPlateR_ok h' W H false k d hk
  have k7 := fun h' => longs_ok h' true false n n x y (by omega) (by omega)
  rw [hxy] at k7
  generalize ckP W H k d = ck at *
  by_cases hg : 50 < k
  · rw [decide_eq_true hg] at k0
    refine CallOk.run0 Try.func3 rfl rfl rfl rfl rfl (WpR.of_vc ?_)
    (conv => whnf); (repeat' (first | ((with_reducible refine ifb_mk (fun hc => ?_) (fun hc => ?_)) <;> ((try simp only [decide_eq_true_eq, decide_eq_false_iff_not, Bool.not_eq_true', Bool.not_eq_false', Int.not_lt, Int.not_le, ne_eq, Decidable.not_not, beq_iff_eq, List.cons.injEq, and_true] at hc); (first | (exfalso; omega) | exact absurd True.intro hc | conv => whnf))) | ((with_reducible refine And.intro True.intro ?_); conv => whnf) | ((with_reducible refine CallX.all ?_); refine CallW.of_ok (k0 _) ?_; conv => whnf) | ((with_reducible refine CallX.all ?_); refine CallW.of_ok (kWk _) ?_; conv => whnf) | ((with_reducible refine grd_ex ?_); refine ex_ok (k0 _) ?_; conv => whnf) | ((with_reducible refine And.intro ?hh ?_); (case hh => exact condA); conv => whnf) | fail))
    all_goals (refine ⟨[], ?_, rfl, rfl, trivial, trivs⟩; simp only [renV, renL]; (first | done | rfl | (simp; done) | (simp; omega) | grind))
  · rw [decide_eq_false hg] at k0
    by_cases hb : 50 < kb
    · refine CallOk.run0 Try.func3 rfl rfl rfl rfl rfl (WpR.of_vc ?_)
      (conv => whnf); (repeat' (first | ((with_reducible refine ifb_mk (fun hc => ?_) (fun hc => ?_)) <;> ((try simp only [decide_eq_true_eq, decide_eq_false_iff_not, Bool.not_eq_true', Bool.not_eq_false', Int.not_lt, Int.not_le, ne_eq, Decidable.not_not, beq_iff_eq, List.cons.injEq, and_true] at hc); (first | (exfalso; omega) | exact absurd True.intro hc | conv => whnf))) | ((with_reducible refine And.intro True.intro ?_); conv => whnf) | ((with_reducible refine CallX.all ?_); refine CallW.of_ok (k0 _) ?_; conv => whnf) | ((with_reducible refine CallX.all ?_); refine CallW.of_ok (kWk _) ?_; conv => whnf) | ((with_reducible refine grd_ex ?_); refine ex_ok (k0 _) ?_; conv => whnf) | ((with_reducible refine And.intro ?hh ?_); (case hh => exact condA); conv => whnf) | fail))
      all_goals first | (refine ⟨[], ?_, rfl, rfl, trivial, trivs⟩; simp only [renV, renL]; (first | done | rfl | (simp; done) | (simp; omega) | grind)) | (exfalso; omega)
    · refine CallOk.run0 Try.func3 rfl rfl rfl rfl rfl (WpR.of_vc ?_)
      (conv => whnf); (repeat' (first | ((with_reducible refine ifb_mk (fun hc => ?_) (fun hc => ?_)) <;> ((try simp only [decide_eq_true_eq, decide_eq_false_iff_not, Bool.not_eq_true', Bool.not_eq_false', Int.not_lt, Int.not_le, ne_eq, Decidable.not_not, beq_iff_eq, List.cons.injEq, and_true] at hc); (first | (exfalso; omega) | exact absurd True.intro hc | conv => whnf))) | ((with_reducible refine And.intro True.intro ?_); conv => whnf) | ((with_reducible refine CallX.all ?_); refine CallW.of_ok (k0 _) ?_; conv => whnf) | ((with_reducible refine CallX.all ?_); refine CallW.of_ok (k1 _) ?_; conv => whnf) | ((with_reducible refine CallX.all ?_); refine CallW.of_ok (k2 _) ?_; conv => whnf) | ((with_reducible refine CallX.all ?_); refine CallW.of_ok (k3 _) ?_; conv => whnf) | ((with_reducible refine CallX.all ?_); refine CallW.of_ok (k4 _) ?_; conv => whnf) | ((with_reducible refine CallX.all ?_); refine CallW.of_ok (k5 _) ?_; conv => whnf) | ((with_reducible refine CallX.all ?_); refine CallW.of_ok (k6 _) ?_; conv => whnf) | ((with_reducible refine CallX.all ?_); refine CallW.of_ok (k7 _) ?_; conv => whnf) | ((with_reducible refine CallX.all ?_); refine CallW.of_ok (kWk _) ?_; conv => whnf) | ((with_reducible refine WpR.draw (id := 5) mixed [0, 2, 1, 3, 4, 5, 6, 7, 8, 9, 10, 11, 12, 13, 14, 15, 16, 17, 19, 20, 18, 21, 22, 23, 24, 25, 26, 27] [0, 1, 0, 7, 15, 31, 63, 63, 255, 511, 1023, 2047, 2047, 8191, 16383, 32767, 65535, 65535, 262143, 65535, 65535, 2097151, 4194303, 8388607, 16777215, 33554431, 67108863, 134217727] ?hh ?_); (case hh => kernel_rfl); conv => whnf) | ((with_reducible refine grd_ex ?_); refine ex_ok (k1 _) ?_; conv => whnf) | ((with_reducible refine grd_ex ?_); refine ex_ok (k2 _) ?_; conv => whnf) | ((with_reducible refine grd_ex ?_); refine ex_ok (k3 _) ?_; conv => whnf) | ((with_reducible refine grd_ex ?_); refine ex_ok (k4 _) ?_; conv => whnf) | ((with_reducible refine grd_ex ?_); refine ex_ok (k5 _) ?_; conv => whnf) | ((with_reducible refine grd_ex ?_); refine ex_ok (k6 _) ?_; conv => whnf) | ((with_reducible refine grd_ex ?_); refine ex_ok (k7 _) ?_; conv => whnf) | ((with_reducible refine grd_ex ?_); refine ex_ok (kWk _) ?_; conv => whnf) | ((with_reducible refine And.intro ?hh ?_); (case hh => exact condA); conv => whnf) | fail))
      all_goals first | (refine ⟨[], ?_, rfl, rfl, trivial, trivs⟩; simp only [renV, renL]; (first | done | rfl | (simp; done) | (simp; omega) | grind)) | (exfalso; omega)
end Go.Proofs.H
