/- What the functions answer that the laws call, one after another, part 8. -/
import Derived.Test.YtcfblgemkgijmaaOwn7

set_option linter.unusedVariables false
namespace Go.Proofs.D
open Go.As
set_option maxRecDepth 20000
set_option linter.unusedVariables false
set_option linter.unusedSimpArgs false

theorem around_len (m : Mo) (wd ys : List Int) : (aroundL m wd ys).length ≤ 12 := by
  have key : ∀ (R : List Nat) (l : List E), l.length ≤ 12 → (R.foldl (arS m wd (mkL ys)) l).length ≤ 12 := by
    intro R
    induction R with
    | nil => intro l h; exact h
    | cons y R ih =>
      intro l h
      refine ih _ ?_
      unfold arS
      split
      · rw [List.length_append]; simp; omega
      · exact h
  exact key _ [] (by simp)

theorem uNil {h : H} {L : List Int} (h0 : L.length = 0) : SlC h (uVs L) L.length .nils := by
  have : L = [] := List.eq_nil_of_length_eq_zero h0
  subst this
  exact .nil rfl rfl
theorem viewMc3 {h : H} {l1 l2 l3 : List V} {o1 o2 o3} (b1 : ∀ v ∈ l1, bare0 v = true) (h1 : Vw1 h l1 o1) (b2 : ∀ v ∈ l2, bare0 v = true) (h2 : Vw1 h l2 o2) (b3 : ∀ v ∈ l3, bare0 v = true) (h3 : Vw1 h l3 o3) :
    ViewM h [o1, o2, o3] [.cells (ofL l1 0) false none, .cells (ofL l2 0) false none, .cells (ofL l3 0) false none] :=
  viewM_of ⟨viewM1 b1 h1, viewM1 b2 h2, viewM1 b3 h3, trivial⟩ (fun k k' j o o' hk hk' ⟨es, c, hg⟩ => by
    match k with
    | 0 => simp at hk; exact (h1.noMap hk hg).elim
    | 1 => simp at hk; exact (h2.noMap hk hg).elim
    | 2 => simp at hk; exact (h3.noMap hk hg).elim
    | k + 3 => simp at hk)

/-- What the law compares, of a motion that agrees. -/
structure RchOk (m : Mo) (lo hi : Int) (l : List E) (y : Int) : Prop where
  a : ∀ h', CallOk Try.prog 46 [qV m.2, qV (loQ lo hi l)] h' (.bool false) h'
  b : ∀ h', CallOk Try.prog 46 [qV (hiQ lo hi l), qV m.2] h' (.bool false) h'
  c : ∀ h', CallOk Try.prog 46 [qV (plcQ m y), qV (plcQ (farA 0 lo hi l y) y)] h' (.bool false) h'
  d : ∀ h', CallOk Try.prog 46 [qV (plcQ (farA 1 lo hi l y) y), qV (plcQ m y)] h' (.bool false) h'

theorem inR_mul2 {a b m n : Int} (hm : 0 ≤ m) (hmn : m * n ≤ 9000000000000000000) (ha : -m ≤ a ∧ a ≤ m) (hb : 0 ≤ b ∧ b ≤ n) : InR (a * b) := by
  have := mul_bd hm ha hb
  unfold InR; omega

theorem reach_ok {mp mr : Int} (hG : OkG mp mr) {lo hi : Int} {l : List E} (h : MotIn lo hi l (gmo mp mr)) {y : Int} (hy : 0 ≤ y ∧ y ≤ 200) : RchOk (gmo mp mr) lo hi l y := by
  have hS := starErr_ok h.st
  have hm := mot_has h
  have la := loQ_bd hS
  have lb := hiQ_bd hS
  obtain ⟨oa, ob, _⟩ := ends_small h.st hm hy
  have na := oa.n
  have da := oa.d
  have nb := ob.n
  have db := ob.d
  have hr := mot_rate h
  have hp := mot_place h y
  have hg := (plc_g hG hy).b
  have hR := hG.r
  rw [rq_le (by omega) (show (0 : Int) < 5 by decide), rq_le (show (0 : Int) < 5 by decide) (by omega)] at hr
  rw [rq_le (by omega) (by omega), rq_le (by omega) (by omega)] at hp
  have e1 : (gmo mp mr).2.1 = mr := rfl
  have e2 : (gmo mp mr).2.2 = 5 := rfl
  rw [e1, e2] at hr
  refine ⟨fun h' => ?_, fun h' => ?_, fun h' => ?_, fun h' => ?_⟩
  · have := refLess_ok h' (gmo mp mr).2.1 (gmo mp mr).2.2 (loQ lo hi l).1 (loQ lo hi l).2 (by rw [e1]; exact inR_mul2 (m := 100) (n := 200) (by decide) (by decide) (by omega) (by omega)) (by rw [e2]; exact inR_mul2 (m := 20000) (n := 5) (by decide) (by decide) (by omega) (by omega))
    rw [e1, e2, decide_eq_false (by omega)] at this
    exact this
  · have := refLess_ok h' (hiQ lo hi l).1 (hiQ lo hi l).2 (gmo mp mr).2.1 (gmo mp mr).2.2 (by rw [e2]; exact inR_mul2 (m := 20000) (n := 5) (by decide) (by decide) (by omega) (by omega)) (by rw [e1]; exact inR_mul2 (m := 100) (n := 200) (by decide) (by decide) (by omega) (by omega))
    rw [e1, e2, decide_eq_false (by omega)] at this
    exact this
  · have := refLess_ok h' (plcQ (gmo mp mr) y).1 (plcQ (gmo mp mr) y).2 (plcQ (farA 0 lo hi l y) y).1 (plcQ (farA 0 lo hi l y) y).2 (inR_mul2 (m := 100000) (n := 200) (by decide) (by decide) (by omega) (by omega)) (inR_mul2 (m := 6000000) (n := 5) (by decide) (by decide) (by omega) (by omega))
    rw [decide_eq_false (by omega)] at this
    exact this
  · have := refLess_ok h' (plcQ (farA 1 lo hi l y) y).1 (plcQ (farA 1 lo hi l y) y).2 (plcQ (gmo mp mr) y).1 (plcQ (gmo mp mr) y).2 (inR_mul2 (m := 6000000) (n := 5) (by decide) (by decide) (by omega) (by omega)) (inR_mul2 (m := 100000) (n := 200) (by decide) (by decide) (by omega) (by omega))
    rw [decide_eq_false (by omega)] at this
    exact this

end Go.Proofs.D

namespace Go.Proofs.D
open Go.As
set_option maxRecDepth 20000
set_option linter.unusedVariables false
set_option linter.unusedSimpArgs false
set_option maxHeartbeats 4000000 in
theorem reachF_ok (hw : ∀ h, CallOk Try.prog 16 [] h (.bool true) h) (h : H) (lo hi : Int) (l : List E) (sv : V)  (pl : Int) (hpl : -32768 ≤ pl ∧ pl ≤ 32767) (rt : Int) (hrt : 0 ≤ rt ∧ rt ≤ 255) (ys : List Int) (yv : V) (wd : List Int) (wv : V) (yr : Int) (hyr : 0 ≤ yr ∧ yr ≤ 255) (hl : l.length ≤ 9223372036854775807) (hs : SlC h (entVs l) l.length sv)
    (hys : u8s ys) (hwd : u8s wd) (hyl : ys.length ≤ 9223372036854775807) (hwl0 : wd.length ≤ 9223372036854775807) (h1 : SlC h (uVs ys) ys.length yv) (h2 : SlC h (uVs wd) wd.length wv) :
    CallOk Try.prog 8 [starV lo hi sv, .bool false, .int .i16 pl, .int .u8 rt, yv, wv, .int .u8 yr] h (.bool true) h := by
  obtain ⟨vo, svC, hsv, hca, hvw⟩ := hs.view 0
  obtain ⟨o1, s1, q1, c1, w1⟩ := h1.view 1
  obtain ⟨o2, s2, q2, c2, w2⟩ := h2.view 2
  refine CallOk.run Try.func8 rfl rfl (argsC := [starV lo hi svC, .bool false, .int .i16 pl, .int .u8 rt, s1, s2, .int .u8 yr]) (Nat.le_of_ble_eq_true rfl) [vo, o1, o2] (.cons (CaL.agg (.cons (.bare rfl) (.cons (.bare rfl) (.cons (hca _ rfl) .nil)))) (.cons (.bare rfl) (.cons (.bare rfl) (.cons (.bare rfl) (.cons (c1 _ rfl) (.cons (c2 _ rfl) (.cons (.bare rfl) .nil))))))) (viewMc3 entVs_bare hvw uVs_bare w1 uVs_bare w2) rfl (WpR.of_vc ?_)
  have hBare := @entVs_bare l
  have hB1 := @uVs_bare ys
  have hB2 := @uVs_bare wd
  have kg := fun h' => given_ok h' pl rt hrt hpl
  have hY := year_bd hyr
  have hyy : InR ((IntKind.i64.wrap yr).tmod 201) := by unfold InR; omega
  have hG : OkG ((IntKind.i64.wrap pl).tmod 5001) ((IntKind.i64.wrap rt).tmod 201 - 100) := by
    have hy := year_bd hrt
    refine ⟨?_, by omega⟩
    have e : IntKind.i64.wrap pl = pl := wrap_in (inR_of (by unfold InR; omega))
    rw [e]
    rcases Int.le_total 0 pl with h | h
    · have := Int.tmod_nonneg 5001 h; have := Int.tmod_lt_of_pos pl (show (0 : Int) < 5001 by decide); omega
    · have := Int.tmod_nonneg 5001 (show 0 ≤ -pl by omega); have := Int.tmod_lt_of_pos (-pl) (show (0 : Int) < 5001 by decide); rw [Int.neg_tmod] at *; omega
  obtain ⟨P, hP⟩ : ∃ P, P = (IntKind.i64.wrap pl).tmod 5001 := ⟨_, rfl⟩
  obtain ⟨R, hR⟩ : ∃ R, R = (IntKind.i64.wrap rt).tmod 201 - 100 := ⟨_, rfl⟩
  rw [← hP, ← hR] at kg hG
  have kf := fun h' sv' hs' => fine_ok h' lo hi l sv' hl hs'
  cases hsv with
  | nil h0 =>
    have e1 : starErr lo hi l = 6 := by unfold starErr; rw [if_pos (by omega)]
    rw [decide_eq_false (by omega)] at kf
    cases q1 <;> cases q2 <;> ((conv => whnf); (repeat' (first | ((with_reducible refine ifb_mk (fun hc => ?_) (fun hc => ?_)) <;> ((try simp only [decide_eq_true_eq, decide_eq_false_iff_not, Bool.not_eq_true', Bool.not_eq_false', Int.not_lt, Int.not_le, ne_eq, Decidable.not_not, beq_iff_eq, List.cons.injEq, and_true] at hc); (first | (exfalso; omega) | conv => whnf))) | ((with_reducible refine And.intro True.intro ?_); conv => whnf) | ((with_reducible refine CallX.all ?_); refine CallW.of_ok (kg _) ?_; conv => whnf) | ((with_reducible refine CallX.all ?_); refine CallW.of_ok (kf _ _ (SlC.none h0)) ?_; conv => whnf) | ((with_reducible refine CallX.all ?_); refine CallW.of_ok (hw _) ?_; conv => whnf) | ((with_reducible refine And.intro ?hh ?_); (case hh => (unfold InR; (try dsimp only); omega)); conv => whnf) | ((with_reducible refine And.intro ?hh ?_); (case hh => ((try dsimp only); omega)); conv => whnf) | ((with_reducible refine And.intro ?hh ?_); (case hh => ((conv => whnf); (repeat' (first | exact True.intro | rfl | refine And.intro ?_ ?_)); done)); conv => whnf) | fail))) <;> (first | (exfalso; omega) | (refine ⟨[], ?_, rfl, rfl, trivial, (by (repeat' (first | exact True.intro | rfl | refine And.intro ?_ ?_)))⟩; simp only [renV, renL]; (first | done | rfl | simp | grind)))
  | @sl cap ex =>
    by_cases h0 : starErr lo hi l = 0
    · rw [decide_eq_true h0] at kf
      cases q1 <;> cases q2 <;> ((conv => whnf); (repeat' (first | ((with_reducible refine ifb_mk (fun hc => ?_) (fun hc => ?_)) <;> ((try simp only [decide_eq_true_eq, decide_eq_false_iff_not, Bool.not_eq_true', Bool.not_eq_false', Int.not_lt, Int.not_le, ne_eq, Decidable.not_not, beq_iff_eq, List.cons.injEq, and_true] at hc); (first | (exfalso; omega) | conv => whnf))) | ((with_reducible refine And.intro True.intro ?_); conv => whnf) | ((with_reducible refine CallX.all ?_); refine CallW.of_ok (kg _) ?_; conv => whnf) | ((with_reducible refine CallX.all ?_); refine CallW.of_ok (kf _ _ (SlC.own rfl)) ?_; conv => whnf) | ((with_reducible refine CallX.all ?_); refine CallW.of_ok (hw _) ?_; conv => whnf) | ((with_reducible refine And.intro ?hh ?_); (case hh => (unfold InR; (try dsimp only); omega)); conv => whnf) | ((with_reducible refine And.intro ?hh ?_); (case hh => ((try dsimp only); omega)); conv => whnf) | ((with_reducible refine And.intro ?hh ?_); (case hh => ((conv => whnf); (repeat' (first | exact True.intro | rfl | refine And.intro ?_ ?_)); done)); conv => whnf) | fail)))
      all_goals first | (refine ⟨[], ?_, rfl, rfl, trivial, (by (repeat' (first | exact True.intro | rfl | refine And.intro ?_ ?_)))⟩; rfl) | skip
      all_goals clear kf
      all_goals (
        have k5 := fun h' sv' hs' => ends_ok h' lo hi l h0 sv' ((IntKind.i64.wrap yr).tmod 201) hY hl hs'
        have k6 := fun h' sv' hs' => checkMotion_ok h' lo hi l sv' (gmo P R) hl hs'
        have k7 := fun h' sv' hs' => refCheckMotion_ok h' lo hi l sv' (gmo P R) hl hs'
        have k8 := fun h' => at_ok h' (gmo P R) ((IntKind.i64.wrap yr).tmod 201) hG.f1 hG.f2 hY
        by_cases hin : motErr lo hi l (gmo P R) = 0
        · have hI := mot_in hin
          have hm := mot_has hI
          have e6 : endsA lo hi l ((IntKind.i64.wrap yr).tmod 201) = (((loQ lo hi l, hiQ lo hi l), (plcQ (farA 0 lo hi l ((IntKind.i64.wrap yr).tmod 201)) ((IntKind.i64.wrap yr).tmod 201), plcQ (farA 1 lo hi l ((IntKind.i64.wrap yr).tmod 201)) ((IntKind.i64.wrap yr).tmod 201))), 0) := by unfold endsA; rw [hm]; rfl
          obtain ⟨r1, r2, r3, r4⟩ := reach_ok hG hI hY
          rw [e6] at k5
          rw [hin] at k6 k7
          clear e6
          (conv => whnf); (repeat' (first | ((with_reducible refine ifb_mk (fun hc => ?_) (fun hc => ?_)) <;> ((try simp only [decide_eq_true_eq, decide_eq_false_iff_not, Bool.not_eq_true', Bool.not_eq_false', Int.not_lt, Int.not_le, ne_eq, Decidable.not_not, beq_iff_eq, List.cons.injEq, and_true] at hc); (first | (exfalso; omega) | conv => whnf))) | ((with_reducible refine And.intro True.intro ?_); conv => whnf) | ((with_reducible refine grd_and ?_); refine And.intro (hyy) ?_; conv => whnf) | ((with_reducible refine CallX.all ?_); refine CallW.of_ok (k5 _ _ (SlC.own rfl)) ?_; conv => whnf) | ((with_reducible refine WpR.draw (id := 11) mixed [0, 1, 2, 3, 4, 5, 6, 7, 8, 9, 10, 11, 13, 14, 12, 15, 16, 17] [0, 1, 3, 7, 15, 31, 63, 127, 255, 511, 1023, 1023, 4095, 1023, 1023, 32767, 65535, 131071] ?hh ?_); (case hh => kernel_rfl); conv => whnf) | ((with_reducible refine grd_ex ?_); refine ex_ok (k6 _ _ (SlC.own rfl)) ?_; conv => whnf) | ((with_reducible refine grd_ex ?_); refine ex_ok (k7 _ _ (SlC.own rfl)) ?_; conv => whnf) | ((with_reducible refine CallX.all ?_); refine CallW.of_ok (k7 _ _ (SlC.own rfl)) ?_; conv => whnf) | ((with_reducible refine CallX.all ?_); refine CallW.of_ok (k8 _) ?_; conv => whnf) | ((with_reducible refine CallX.all ?_); refine CallW.of_ok (r1 _) ?_; conv => whnf) | ((with_reducible refine CallX.all ?_); refine CallW.of_ok (r2 _) ?_; conv => whnf) | ((with_reducible refine CallX.all ?_); refine CallW.of_ok (r3 _) ?_; conv => whnf) | ((with_reducible refine CallX.all ?_); refine CallW.of_ok (r4 _) ?_; conv => whnf) | ((with_reducible refine CallX.all ?_); refine CallW.of_ok (hw _) ?_; conv => whnf) | ((with_reducible refine And.intro ?hh ?_); (case hh => (unfold InR; (try dsimp only); omega)); conv => whnf) | ((with_reducible refine And.intro ?hh ?_); (case hh => ((try dsimp only); omega)); conv => whnf) | ((with_reducible refine And.intro ?hh ?_); (case hh => ((conv => whnf); (repeat' (first | exact True.intro | rfl | refine And.intro ?_ ?_)); done)); conv => whnf) | fail))
          all_goals (first | (exfalso; exact hc trivial) | (exfalso; exact hc rfl) | (exfalso; omega) | (refine ⟨[], ?_, rfl, rfl, trivial, (by (repeat' (first | exact True.intro | rfl | refine And.intro ?_ ?_)))⟩; simp only [renV, renL]; (first | done | rfl | simp | grind)))
        · cases hm : hasM lo hi l with
          | true =>
            have e6 : endsA lo hi l ((IntKind.i64.wrap yr).tmod 201) = (((loQ lo hi l, hiQ lo hi l), (plcQ (farA 0 lo hi l ((IntKind.i64.wrap yr).tmod 201)) ((IntKind.i64.wrap yr).tmod 201), plcQ (farA 1 lo hi l ((IntKind.i64.wrap yr).tmod 201)) ((IntKind.i64.wrap yr).tmod 201))), 0) := by unfold endsA; rw [hm]; rfl
            rw [e6] at k5
            clear e6
            generalize motErr lo hi l (gmo P R) = er at k6 k7 hin
            (conv => whnf); (repeat' (first | ((with_reducible refine ifb_mk (fun hc => ?_) (fun hc => ?_)) <;> ((try simp only [decide_eq_true_eq, decide_eq_false_iff_not, Bool.not_eq_true', Bool.not_eq_false', Int.not_lt, Int.not_le, ne_eq, Decidable.not_not, beq_iff_eq, List.cons.injEq, and_true] at hc); (first | (exfalso; omega) | conv => whnf))) | ((with_reducible refine And.intro True.intro ?_); conv => whnf) | ((with_reducible refine grd_and ?_); refine And.intro (hyy) ?_; conv => whnf) | ((with_reducible refine CallX.all ?_); refine CallW.of_ok (k5 _ _ (SlC.own rfl)) ?_; conv => whnf) | ((with_reducible refine WpR.draw (id := 11) mixed [0, 1, 2, 3, 4, 5, 6, 7, 8, 9, 10, 11, 13, 14, 12, 15, 16, 17] [0, 1, 3, 7, 15, 31, 63, 127, 255, 511, 1023, 1023, 4095, 1023, 1023, 32767, 65535, 131071] ?hh ?_); (case hh => kernel_rfl); conv => whnf) | ((with_reducible refine grd_ex ?_); refine ex_ok (k6 _ _ (SlC.own rfl)) ?_; conv => whnf) | ((with_reducible refine grd_ex ?_); refine ex_ok (k7 _ _ (SlC.own rfl)) ?_; conv => whnf) | ((with_reducible refine CallX.all ?_); refine CallW.of_ok (k7 _ _ (SlC.own rfl)) ?_; conv => whnf) | ((with_reducible refine CallX.all ?_); refine CallW.of_ok (k8 _) ?_; conv => whnf) | ((with_reducible refine CallX.all ?_); refine CallW.of_ok (hw _) ?_; conv => whnf) | ((with_reducible refine And.intro ?hh ?_); (case hh => (unfold InR; (try dsimp only); omega)); conv => whnf) | ((with_reducible refine And.intro ?hh ?_); (case hh => ((try dsimp only); omega)); conv => whnf) | ((with_reducible refine And.intro ?hh ?_); (case hh => ((conv => whnf); (repeat' (first | exact True.intro | rfl | refine And.intro ?_ ?_)); done)); conv => whnf) | fail))
            all_goals (first | (exfalso; exact hc trivial) | (exfalso; exact hc rfl) | (exfalso; omega) | (refine ⟨[], ?_, rfl, rfl, trivial, (by (repeat' (first | exact True.intro | rfl | refine And.intro ?_ ?_)))⟩; simp only [renV, renL]; (first | done | rfl | simp | grind)))
          | false =>
            have e6 : endsA lo hi l ((IntKind.i64.wrap yr).tmod 201) = ((((0, 0), (0, 0)), ((0, 0), (0, 0))), 17) := by unfold endsA; rw [hm]; rfl
            rw [e6] at k5
            clear e6
            generalize motErr lo hi l (gmo P R) = er at k6 k7 hin
            (conv => whnf); (repeat' (first | ((with_reducible refine ifb_mk (fun hc => ?_) (fun hc => ?_)) <;> ((try simp only [decide_eq_true_eq, decide_eq_false_iff_not, Bool.not_eq_true', Bool.not_eq_false', Int.not_lt, Int.not_le, ne_eq, Decidable.not_not, beq_iff_eq, List.cons.injEq, and_true] at hc); (first | (exfalso; omega) | conv => whnf))) | ((with_reducible refine And.intro True.intro ?_); conv => whnf) | ((with_reducible refine grd_and ?_); refine And.intro (hyy) ?_; conv => whnf) | ((with_reducible refine CallX.all ?_); refine CallW.of_ok (k5 _ _ (SlC.own rfl)) ?_; conv => whnf) | ((with_reducible refine WpR.draw (id := 11) mixed [0, 1, 2, 3, 4, 5, 6, 7, 8, 9, 10, 11, 13, 14, 12, 15, 16, 17] [0, 1, 3, 7, 15, 31, 63, 127, 255, 511, 1023, 1023, 4095, 1023, 1023, 32767, 65535, 131071] ?hh ?_); (case hh => kernel_rfl); conv => whnf) | ((with_reducible refine grd_ex ?_); refine ex_ok (k6 _ _ (SlC.own rfl)) ?_; conv => whnf) | ((with_reducible refine grd_ex ?_); refine ex_ok (k7 _ _ (SlC.own rfl)) ?_; conv => whnf) | ((with_reducible refine CallX.all ?_); refine CallW.of_ok (k7 _ _ (SlC.own rfl)) ?_; conv => whnf) | ((with_reducible refine CallX.all ?_); refine CallW.of_ok (k8 _) ?_; conv => whnf) | ((with_reducible refine CallX.all ?_); refine CallW.of_ok (hw _) ?_; conv => whnf) | ((with_reducible refine And.intro ?hh ?_); (case hh => (unfold InR; (try dsimp only); omega)); conv => whnf) | ((with_reducible refine And.intro ?hh ?_); (case hh => ((try dsimp only); omega)); conv => whnf) | ((with_reducible refine And.intro ?hh ?_); (case hh => ((conv => whnf); (repeat' (first | exact True.intro | rfl | refine And.intro ?_ ?_)); done)); conv => whnf) | fail))
            all_goals (first | (exfalso; exact hc trivial) | (exfalso; exact hc rfl) | (exfalso; omega) | (refine ⟨[], ?_, rfl, rfl, trivial, (by (repeat' (first | exact True.intro | rfl | refine And.intro ?_ ?_)))⟩; simp only [renV, renL]; (first | done | rfl | simp | grind)))
      )
    · rw [decide_eq_false h0] at kf
      cases q1 <;> cases q2 <;> ((conv => whnf); (repeat' (first | ((with_reducible refine ifb_mk (fun hc => ?_) (fun hc => ?_)) <;> ((try simp only [decide_eq_true_eq, decide_eq_false_iff_not, Bool.not_eq_true', Bool.not_eq_false', Int.not_lt, Int.not_le, ne_eq, Decidable.not_not, beq_iff_eq, List.cons.injEq, and_true] at hc); (first | (exfalso; omega) | conv => whnf))) | ((with_reducible refine And.intro True.intro ?_); conv => whnf) | ((with_reducible refine CallX.all ?_); refine CallW.of_ok (kg _) ?_; conv => whnf) | ((with_reducible refine CallX.all ?_); refine CallW.of_ok (kf _ _ (SlC.own rfl)) ?_; conv => whnf) | ((with_reducible refine CallX.all ?_); refine CallW.of_ok (hw _) ?_; conv => whnf) | ((with_reducible refine And.intro ?hh ?_); (case hh => (unfold InR; (try dsimp only); omega)); conv => whnf) | ((with_reducible refine And.intro ?hh ?_); (case hh => ((try dsimp only); omega)); conv => whnf) | ((with_reducible refine And.intro ?hh ?_); (case hh => ((conv => whnf); (repeat' (first | exact True.intro | rfl | refine And.intro ?_ ?_)); done)); conv => whnf) | fail))) <;> (first | (exfalso; omega) | (refine ⟨[], ?_, rfl, rfl, trivial, (by (repeat' (first | exact True.intro | rfl | refine And.intro ?_ ?_)))⟩; simp only [renV, renL]; (first | done | rfl | simp | grind)))
end Go.Proofs.D

namespace Go.Proofs.D
open Go.As
set_option maxRecDepth 20000
set_option linter.unusedVariables false
set_option linter.unusedSimpArgs false
set_option maxHeartbeats 4000000 in
theorem reachN_ok (hw : ∀ h, CallOk Try.prog 16 [] h (.bool true) h) (h : H) (lo hi : Int) (l : List E) (sv : V)  (pl : Int) (hpl : -32768 ≤ pl ∧ pl ≤ 32767) (rt : Int) (hrt : 0 ≤ rt ∧ rt ≤ 255) (ys : List Int) (yv : V) (wd : List Int) (wv : V) (yr : Int) (hyr : 0 ≤ yr ∧ yr ≤ 255) (hl : l.length ≤ 9223372036854775807) (hs : SlC h (entVs l) l.length sv)
    (hys : u8s ys) (hwd : u8s wd) (hyl : ys.length ≤ 9223372036854775807) (hwl0 : wd.length ≤ 9223372036854775807) (h1 : SlC h (uVs ys) ys.length yv) (h2 : SlC h (uVs wd) wd.length wv) :
    CallOk Try.prog 8 [starV lo hi sv, .bool true, .int .i16 pl, .int .u8 rt, yv, wv, .int .u8 yr] h (.bool true) h := by
  obtain ⟨vo, svC, hsv, hca, hvw⟩ := hs.view 0
  obtain ⟨o1, s1, q1, c1, w1⟩ := h1.view 1
  obtain ⟨o2, s2, q2, c2, w2⟩ := h2.view 2
  refine CallOk.run Try.func8 rfl rfl (argsC := [starV lo hi svC, .bool true, .int .i16 pl, .int .u8 rt, s1, s2, .int .u8 yr]) (Nat.le_of_ble_eq_true rfl) [vo, o1, o2] (.cons (CaL.agg (.cons (.bare rfl) (.cons (.bare rfl) (.cons (hca _ rfl) .nil)))) (.cons (.bare rfl) (.cons (.bare rfl) (.cons (.bare rfl) (.cons (c1 _ rfl) (.cons (c2 _ rfl) (.cons (.bare rfl) .nil))))))) (viewMc3 entVs_bare hvw uVs_bare w1 uVs_bare w2) rfl (WpR.of_vc ?_)
  have hBare := @entVs_bare l
  have hB1 := @uVs_bare ys
  have hB2 := @uVs_bare wd
  have kg := fun h' => given_ok h' pl rt hrt hpl
  have hY := year_bd hyr
  have hyy : InR ((IntKind.i64.wrap yr).tmod 201) := by unfold InR; omega
  have hG : OkG ((IntKind.i64.wrap pl).tmod 5001) ((IntKind.i64.wrap rt).tmod 201 - 100) := by
    have hy := year_bd hrt
    refine ⟨?_, by omega⟩
    have e : IntKind.i64.wrap pl = pl := wrap_in (inR_of (by unfold InR; omega))
    rw [e]
    rcases Int.le_total 0 pl with h | h
    · have := Int.tmod_nonneg 5001 h; have := Int.tmod_lt_of_pos pl (show (0 : Int) < 5001 by decide); omega
    · have := Int.tmod_nonneg 5001 (show 0 ≤ -pl by omega); have := Int.tmod_lt_of_pos (-pl) (show (0 : Int) < 5001 by decide); rw [Int.neg_tmod] at *; omega
  obtain ⟨P, hP⟩ : ∃ P, P = (IntKind.i64.wrap pl).tmod 5001 := ⟨_, rfl⟩
  obtain ⟨R, hR⟩ : ∃ R, R = (IntKind.i64.wrap rt).tmod 201 - 100 := ⟨_, rfl⟩
  rw [← hP, ← hR] at kg hG
  have kf := fun h' sv' hs' => fine_ok h' lo hi l sv' hl hs'
  by_cases ha : aroundL (gmo P R) wd ys = []
  · have kN := fun h' yv' wv' q1' q2' => aroundN_ok h' hG ys wd hys hwd yv' wv' hyl hwl0 q1' q2' ha
    have kfN : ∀ h', CallOk Try.prog 41 [starV (-50) 50 .nils] h' (.bool false) h' := fun h' => by
      have := fine_ok h' (-50) 50 [] .nils (by decide) (SlC.none rfl)
      rwa [decide_eq_false (by decide)] at this
    cases hsv <;> cases q1 <;> cases q2 <;> ((conv => whnf); (repeat' (first | ((with_reducible refine ifb_mk (fun hc => ?_) (fun hc => ?_)) <;> ((try simp only [decide_eq_true_eq, decide_eq_false_iff_not, Bool.not_eq_true', Bool.not_eq_false', Int.not_lt, Int.not_le, ne_eq, Decidable.not_not, beq_iff_eq, List.cons.injEq, and_true] at hc); (first | (exfalso; omega) | conv => whnf))) | ((with_reducible refine And.intro True.intro ?_); conv => whnf) | ((with_reducible refine CallX.all ?_); refine CallW.of_ok (kg _) ?_; conv => whnf) | ((with_reducible refine CallX.all ?_); refine CallW.of_ok (kN _ _ _ (by first | exact SlC.own rfl | exact uNil (by omega)) (by first | exact SlC.own rfl | exact uNil (by omega))) ?_; conv => whnf) | ((with_reducible refine CallX.all ?_); refine CallW.of_ok (kfN _) ?_; conv => whnf) | ((with_reducible refine CallX.all ?_); refine CallW.of_ok (hw _) ?_; conv => whnf) | ((with_reducible refine And.intro ?hh ?_); (case hh => (unfold InR; (try dsimp only); omega)); conv => whnf) | ((with_reducible refine And.intro ?hh ?_); (case hh => ((try dsimp only); omega)); conv => whnf) | ((with_reducible refine And.intro ?hh ?_); (case hh => ((conv => whnf); (repeat' (first | exact True.intro | rfl | refine And.intro ?_ ?_)); done)); conv => whnf) | fail))) <;> (first | (exfalso; omega) | (refine ⟨[], ?_, rfl, rfl, trivial, (by (repeat' (first | exact True.intro | rfl | refine And.intro ?_ ?_)))⟩; simp only [renV, renL]; (first | done | rfl | simp | grind)))
  · have hAl : (aroundL (gmo P R) wd ys).length ≤ 9223372036854775807 := by have := around_len (gmo P R) wd ys; omega
    have kC := fun h' yv' wv' q1' q2' => aroundC_ok h' hG ys wd hys hwd yv' wv' hyl hwl0 q1' q2' ha
    have around_agr2 : starErr (-50) 50 (aroundL (gmo P R) wd ys) = 0 → motErr (-50) 50 (aroundL (gmo P R) wd ys) (gmo P R) = 0 := around_agr hG hwd ys
    generalize aroundL (gmo P R) wd ys = al at kC ha hAl around_agr2
    have hB3 := @entVs_bare al
    have kf2 := fun h' sv' hs' => fine_ok h' (-50) 50 al sv' hAl hs'
    by_cases h0 : starErr (-50) 50 al = 0
    · rw [decide_eq_true h0] at kf2
      cases hsv <;> cases q1 <;> cases q2 <;> ((conv => whnf); (repeat' (first | ((with_reducible refine ifb_mk (fun hc => ?_) (fun hc => ?_)) <;> ((try simp only [decide_eq_true_eq, decide_eq_false_iff_not, Bool.not_eq_true', Bool.not_eq_false', Int.not_lt, Int.not_le, ne_eq, Decidable.not_not, beq_iff_eq, List.cons.injEq, and_true] at hc); (first | (exfalso; omega) | conv => whnf))) | ((with_reducible refine And.intro True.intro ?_); conv => whnf) | ((with_reducible refine CallX.all ?_); refine CallW.of_ok (kg _) ?_; conv => whnf) | ((with_reducible refine CallX.all ?_); refine CallW.of_new (vC := fun N => starV (-50) 50 (.sl N 0 al.length al.length false)) (news := fun _ => [.cells (ofL (entVs al) 0) true (some (3, al.length * 3))]) (kC _ _ _ (by first | exact SlC.own rfl | exact uNil (by omega)) (by first | exact SlC.own rfl | exact uNil (by omega))) ?_; conv => whnf) | ((with_reducible refine CallX.all ?_); refine CallW.of_ok (kf2 _ _ (SlC.own rfl)) ?_; conv => whnf) | ((with_reducible refine CallX.all ?_); refine CallW.of_ok (hw _) ?_; conv => whnf) | ((with_reducible refine And.intro ?hh ?_); (case hh => (unfold InR; (try dsimp only); omega)); conv => whnf) | ((with_reducible refine And.intro ?hh ?_); (case hh => ((try dsimp only); omega)); conv => whnf) | ((with_reducible refine And.intro ?hh ?_); (case hh => ((conv => whnf); (repeat' (first | exact True.intro | rfl | refine And.intro ?_ ?_)); done)); conv => whnf) | fail)))
      all_goals first | (refine ⟨[], ?_, rfl, rfl, trivial, (by (repeat' (first | exact True.intro | rfl | refine And.intro ?_ ?_)))⟩; rfl) | skip
      all_goals clear kf2
      all_goals (
        have k5 := fun h' sv' hs' => ends_ok h' (-50) 50 al h0 sv' ((IntKind.i64.wrap yr).tmod 201) hY hAl hs'
        have k6 := fun h' sv' hs' => checkMotion_ok h' (-50) 50 al sv' (gmo P R) hAl hs'
        have k7 := fun h' sv' hs' => refCheckMotion_ok h' (-50) 50 al sv' (gmo P R) hAl hs'
        have k8 := fun h' => at_ok h' (gmo P R) ((IntKind.i64.wrap yr).tmod 201) hG.f1 hG.f2 hY
        have hag := around_agr2 h0
        by_cases hin : motErr (-50) 50 al (gmo P R) = 0
        · have hI := mot_in hin
          have hm := mot_has hI
          have e6 : endsA (-50) 50 al ((IntKind.i64.wrap yr).tmod 201) = (((loQ (-50) 50 al, hiQ (-50) 50 al), (plcQ (farA 0 (-50) 50 al ((IntKind.i64.wrap yr).tmod 201)) ((IntKind.i64.wrap yr).tmod 201), plcQ (farA 1 (-50) 50 al ((IntKind.i64.wrap yr).tmod 201)) ((IntKind.i64.wrap yr).tmod 201))), 0) := by unfold endsA; rw [hm]; rfl
          obtain ⟨r1, r2, r3, r4⟩ := reach_ok hG hI hY
          rw [e6] at k5
          rw [hin] at k6 k7
          clear e6
          (conv => whnf); (repeat' (first | ((with_reducible refine ifb_mk (fun hc => ?_) (fun hc => ?_)) <;> ((try simp only [decide_eq_true_eq, decide_eq_false_iff_not, Bool.not_eq_true', Bool.not_eq_false', Int.not_lt, Int.not_le, ne_eq, Decidable.not_not, beq_iff_eq, List.cons.injEq, and_true] at hc); (first | (exfalso; omega) | conv => whnf))) | ((with_reducible refine And.intro True.intro ?_); conv => whnf) | ((with_reducible refine grd_and ?_); refine And.intro (hyy) ?_; conv => whnf) | ((with_reducible refine CallX.all ?_); refine CallW.of_ok (k5 _ _ (SlC.own rfl)) ?_; conv => whnf) | ((with_reducible refine WpR.draw (id := 11) mixed [0, 1, 2, 3, 4, 5, 6, 7, 8, 9, 10, 11, 13, 14, 12, 15, 16, 17] [0, 1, 3, 7, 15, 31, 63, 127, 255, 511, 1023, 1023, 4095, 1023, 1023, 32767, 65535, 131071] ?hh ?_); (case hh => kernel_rfl); conv => whnf) | ((with_reducible refine grd_ex ?_); refine ex_ok (k6 _ _ (SlC.own rfl)) ?_; conv => whnf) | ((with_reducible refine grd_ex ?_); refine ex_ok (k7 _ _ (SlC.own rfl)) ?_; conv => whnf) | ((with_reducible refine CallX.all ?_); refine CallW.of_ok (k7 _ _ (SlC.own rfl)) ?_; conv => whnf) | ((with_reducible refine CallX.all ?_); refine CallW.of_ok (k8 _) ?_; conv => whnf) | ((with_reducible refine CallX.all ?_); refine CallW.of_ok (r1 _) ?_; conv => whnf) | ((with_reducible refine CallX.all ?_); refine CallW.of_ok (r2 _) ?_; conv => whnf) | ((with_reducible refine CallX.all ?_); refine CallW.of_ok (r3 _) ?_; conv => whnf) | ((with_reducible refine CallX.all ?_); refine CallW.of_ok (r4 _) ?_; conv => whnf) | ((with_reducible refine CallX.all ?_); refine CallW.of_ok (hw _) ?_; conv => whnf) | ((with_reducible refine And.intro ?hh ?_); (case hh => (unfold InR; (try dsimp only); omega)); conv => whnf) | ((with_reducible refine And.intro ?hh ?_); (case hh => ((try dsimp only); omega)); conv => whnf) | ((with_reducible refine And.intro ?hh ?_); (case hh => ((conv => whnf); (repeat' (first | exact True.intro | rfl | refine And.intro ?_ ?_)); done)); conv => whnf) | fail))
          all_goals (first | (exfalso; exact hc trivial) | (exfalso; exact hc rfl) | (exfalso; omega) | (refine ⟨[], ?_, rfl, rfl, trivial, (by (repeat' (first | exact True.intro | rfl | refine And.intro ?_ ?_)))⟩; simp only [renV, renL]; (first | done | rfl | simp | grind)))
        · exact absurd hag hin
      )
    · rw [decide_eq_false h0] at kf2
      cases hsv <;> cases q1 <;> cases q2 <;> ((conv => whnf); (repeat' (first | ((with_reducible refine ifb_mk (fun hc => ?_) (fun hc => ?_)) <;> ((try simp only [decide_eq_true_eq, decide_eq_false_iff_not, Bool.not_eq_true', Bool.not_eq_false', Int.not_lt, Int.not_le, ne_eq, Decidable.not_not, beq_iff_eq, List.cons.injEq, and_true] at hc); (first | (exfalso; omega) | conv => whnf))) | ((with_reducible refine And.intro True.intro ?_); conv => whnf) | ((with_reducible refine CallX.all ?_); refine CallW.of_ok (kg _) ?_; conv => whnf) | ((with_reducible refine CallX.all ?_); refine CallW.of_new (vC := fun N => starV (-50) 50 (.sl N 0 al.length al.length false)) (news := fun _ => [.cells (ofL (entVs al) 0) true (some (3, al.length * 3))]) (kC _ _ _ (by first | exact SlC.own rfl | exact uNil (by omega)) (by first | exact SlC.own rfl | exact uNil (by omega))) ?_; conv => whnf) | ((with_reducible refine CallX.all ?_); refine CallW.of_ok (kf2 _ _ (SlC.own rfl)) ?_; conv => whnf) | ((with_reducible refine CallX.all ?_); refine CallW.of_ok (hw _) ?_; conv => whnf) | ((with_reducible refine And.intro ?hh ?_); (case hh => (unfold InR; (try dsimp only); omega)); conv => whnf) | ((with_reducible refine And.intro ?hh ?_); (case hh => ((try dsimp only); omega)); conv => whnf) | ((with_reducible refine And.intro ?hh ?_); (case hh => ((conv => whnf); (repeat' (first | exact True.intro | rfl | refine And.intro ?_ ?_)); done)); conv => whnf) | fail))) <;> (first | (exfalso; omega) | (refine ⟨[], ?_, rfl, rfl, trivial, (by (repeat' (first | exact True.intro | rfl | refine And.intro ?_ ?_)))⟩; simp only [renV, renL]; (first | done | rfl | simp | grind)))
end Go.Proofs.D

namespace Go.Proofs.D
open Go.As
set_option maxRecDepth 20000
set_option linter.unusedVariables false
set_option linter.unusedSimpArgs false
theorem driftReached_ok (hw : ∀ h, CallOk Try.prog 16 [] h (.bool true) h) (h : H) (lo hi : Int) (l : List E) (sv : V) (ar : Bool) (pl : Int) (hpl : -32768 ≤ pl ∧ pl ≤ 32767) (rt : Int) (hrt : 0 ≤ rt ∧ rt ≤ 255) (ys : List Int) (yv : V) (wd : List Int) (wv : V) (yr : Int) (hyr : 0 ≤ yr ∧ yr ≤ 255) (hl : l.length ≤ 9223372036854775807) (hs : SlC h (entVs l) l.length sv)
    (hys : u8s ys) (hwd : u8s wd) (hyl : ys.length ≤ 9223372036854775807) (hwl0 : wd.length ≤ 9223372036854775807) (h1 : SlC h (uVs ys) ys.length yv) (h2 : SlC h (uVs wd) wd.length wv) :
    CallOk Try.prog 8 [starV lo hi sv, .bool ar, .int .i16 pl, .int .u8 rt, yv, wv, .int .u8 yr] h (.bool true) h :=
  match ar with
  | false => reachF_ok hw h lo hi l sv pl hpl rt hrt ys yv wd wv yr hyr hl hs hys hwd hyl hwl0 h1 h2
  | true => reachN_ok hw h lo hi l sv pl hpl rt hrt ys yv wd wv yr hyr hl hs hys hwd hyl hwl0 h1 h2
end Go.Proofs.D

