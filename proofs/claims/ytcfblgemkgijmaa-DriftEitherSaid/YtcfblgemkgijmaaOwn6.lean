/- What the functions answer that the laws call, one after another, part 6. -/
import Derived.Test.YtcfblgemkgijmaaOwn5

set_option linter.unusedVariables false
namespace Go.Proofs.D
open Go.As
set_option maxRecDepth 20000
set_option linter.unusedVariables false
set_option linter.unusedSimpArgs false

theorem turned_W {X : List Nat} {K : V → H → Prop} {h : H} (lo hi : Int) (l : List E) (hS : OkS lo hi l) (sv : V) (hs : SlC h (entVs l) l.length sv)
    (hK : addNP h (fun _ => [.cells (ofL (entVs (turnL l)) 0) true (some (3, l.length * 3))]) fun N h' => K (starV (-hi) (-lo) (.sl N 0 l.length l.length false)) h') : CallW Try.prog X 49 [starV lo hi sv] h K :=
  CallW.of_new (vC := fun N => starV (-hi) (-lo) (.sl N 0 l.length l.length false)) (news := fun _ => [.cells (ofL (entVs (turnL l)) 0) true (some (3, l.length * 3))]) (turned_ok h lo hi l hS sv hs) hK

theorem refPlaceOf_ok (h : H) (lo hi : Int) (l : List E) (hS : OkS lo hi l) (hm : hasM lo hi l = true) (sv : V) (t : Int) (ht : 0 ≤ t ∧ t ≤ 200) (hs : SlC h (entVs l) l.length sv) :
    CallOk Try.prog 79 [starV lo hi sv, .int .i64 t] h (.tup [qV (plcQ (farA 0 lo hi l t) t), qV (plcQ (farA 1 lo hi l t) t)]) h := by
  obtain ⟨vo, svC, hsv, hca, hvw⟩ := hs.view 0
  obtain ⟨cap, ex, rfl⟩ := Sv.pos hsv hS.one
  have hBare := @entVs_bare l
  have hBare2 := @entVs_bare (turnL l)
  have hT := turn_OkS hS
  have kT : ∀ h' sv', SlC h' (entVs (turnL l)) l.length sv' → CallOk Try.prog 103 [starV (-hi) (-lo) sv', .int .i64 t] h' (qV (hiQt t (loQ (-hi) (-lo) (turnL l)) (hiQ (-hi) (-lo) (turnL l)) (turnL l))) h' := fun h' sv' hs' => highest_ok h' (-hi) (-lo) (turnL l) hT sv' t ht (by rw [turn_len]; exact hs')
  have kH := fun h' sv' hs' => highest_ok h' lo hi l hS sv' t ht hs'
  have e0 := place0 hS hm t
  have e1 := place1 hS hm t
  have b0 := (plc_ok (farA_ok hS 0 t) ht).num
  rw [e0, e1]
  rw [e0] at b0
  generalize hiQt t (loQ (-hi) (-lo) (turnL l)) (hiQ (-hi) (-lo) (turnL l)) (turnL l) = q0 at *
  generalize hiQt t (loQ lo hi l) (hiQ lo hi l) l = q1 at *
  have b1 : -2000000000 ≤ -q0.1 ∧ -q0.1 ≤ 2000000000 := b0
  refine CallOk.run Try.func79 rfl rfl (argsC := [starV lo hi (.sl 0 0 l.length cap ex), .int .i64 t]) (Nat.le_of_ble_eq_true rfl) [vo] (.cons (CaL.agg (.cons (.bare rfl) (.cons (.bare rfl) (.cons (hca _ rfl) .nil)))) (CaL.lt0 rfl)) (viewMc1 entVs_bare hvw) rfl (WpR.of_vc ?_)
  (conv => whnf); (repeat' (first | ((with_reducible refine ifb_mk (fun hc => ?_) (fun hc => ?_)) <;> ((try simp only [decide_eq_true_eq, decide_eq_false_iff_not, Bool.not_eq_true', Bool.not_eq_false', Int.not_lt, Int.not_le, ne_eq, Decidable.not_not, beq_iff_eq, List.cons.injEq, and_true] at hc); (first | (exfalso; omega) | conv => whnf))) | ((with_reducible refine And.intro True.intro ?_); conv => whnf) | ((with_reducible refine CallX.all ?_); refine turned_W lo hi l hS _ (SlC.own rfl) ?_; conv => whnf) | ((with_reducible refine CallX.all ?_); refine CallW.of_ok (kT _ _ (SlC.own rfl)) ?_; conv => whnf) | ((with_reducible refine WpR.draw (id := 2) mixed [0, 1, 2, 3, 4, 5, 6, 7, 8, 9, 10] [0, 1, 3, 0, 8, 31, 0, 0, 192, 511, 1023] ?hh ?_); (case hh => kernel_rfl); conv => whnf) | ((with_reducible refine grd_ex ?_); refine ex_ok (kH _ _ (SlC.own rfl)) ?_; conv => whnf) | ((with_reducible refine And.intro ?hh ?_); (case hh => (unfold InR; (try dsimp only); omega)); conv => whnf) | ((with_reducible refine And.intro ?hh ?_); (case hh => ((try dsimp only); omega)); conv => whnf) | ((with_reducible refine And.intro ?hh ?_); (case hh => ((conv => whnf); (repeat' (first | exact True.intro | rfl | refine And.intro ?_ ?_)); done)); conv => whnf) | fail))
  all_goals (refine ⟨[], ?_, rfl, rfl, trivial, (by (repeat' (first | exact True.intro | rfl | refine And.intro ?_ ?_)))⟩; first | rfl | (simp only [renV, renL]; first | done | rfl | (congr 1; grind [negQ]) | grind [negQ]))

theorem refPlace_ok (h : H) (lo hi : Int) (l : List E) (sv : V) (y : Int) (hl : l.length ≤ 9223372036854775807) (hs : SlC h (entVs l) l.length sv) :
    CallOk Try.prog 30 [starV lo hi sv, .int .i64 y] h (.tup [qV (plcA lo hi l y).1.1, qV (plcA lo hi l y).1.2, .int .i64 (plcA lo hi l y).2]) h := by
  obtain ⟨vo, svC, hsv, hca, hvw⟩ := hs.view 0
  refine CallOk.run Try.func30 rfl rfl (argsC := [starV lo hi svC, .int .i64 y]) (Nat.le_of_ble_eq_true rfl) [vo] (.cons (CaL.agg (.cons (.bare rfl) (.cons (.bare rfl) (.cons (hca _ rfl) .nil)))) (CaL.lt0 rfl)) (viewMc1 entVs_bare hvw) rfl (WpR.of_vc ?_)
  have hBare := @entVs_bare l
  have k0 := fun h' sv' hs' => refPlaceError_ok h' lo hi l sv' y hl hs'
  cases hsv with
  | nil h0 =>
    have e1 : starErr lo hi l = 6 := by unfold starErr; rw [if_pos (by omega)]
    have e2 : plErr lo hi l y = starErr lo hi l := by unfold plErr; rw [if_neg (by omega)]
    have e4 : plcA lo hi l y = (((0, 0), (0, 0)), starErr lo hi l) := by unfold plcA; rw [if_neg (by omega), e2]
    rw [e2] at k0
    (conv => whnf); (repeat' (first | ((with_reducible refine ifb_mk (fun hc => ?_) (fun hc => ?_)) <;> ((try simp only [decide_eq_true_eq, decide_eq_false_iff_not, Bool.not_eq_true', Bool.not_eq_false', Int.not_lt, Int.not_le, ne_eq, Decidable.not_not, beq_iff_eq, List.cons.injEq, and_true] at hc); (first | (exfalso; omega) | conv => whnf))) | ((with_reducible refine And.intro True.intro ?_); conv => whnf) | ((with_reducible refine CallX.all ?_); refine CallW.of_ok (k0 _ _ (SlC.none h0)) ?_; conv => whnf) | ((with_reducible refine And.intro ?hh ?_); (case hh => (unfold InR; (try dsimp only); omega)); conv => whnf) | ((with_reducible refine And.intro ?hh ?_); (case hh => ((try dsimp only); omega)); conv => whnf) | ((with_reducible refine And.intro ?hh ?_); (case hh => ((conv => whnf); (repeat' (first | exact True.intro | rfl | refine And.intro ?_ ?_)); done)); conv => whnf) | fail))
    all_goals (first | (exfalso; omega) | (refine ⟨[], ?_, rfl, rfl, trivial, (by (repeat' (first | exact True.intro | rfl | refine And.intro ?_ ?_)))⟩; simp only [renV, renL]; rw [e4]))
  | @sl cap ex =>
  by_cases he : plErr lo hi l y = 0
  · obtain ⟨h0, hy, h3⟩ := plErr_ok he
    have hS := starErr_ok h0
    have hm := (staErr_OkS h3).2
    have e4 : plcA lo hi l y = ((plcQ (farA 0 lo hi l y) y, plcQ (farA 1 lo hi l y) y), 0) := by unfold plcA; rw [if_pos he]
    have k1 := fun h' sv' hs' => refPlaceOf_ok h' lo hi l hS hm sv' y hy hs'
    rw [he] at k0
    (conv => whnf); (repeat' (first | ((with_reducible refine ifb_mk (fun hc => ?_) (fun hc => ?_)) <;> ((try simp only [decide_eq_true_eq, decide_eq_false_iff_not, Bool.not_eq_true', Bool.not_eq_false', Int.not_lt, Int.not_le, ne_eq, Decidable.not_not, beq_iff_eq, List.cons.injEq, and_true] at hc); (first | (exfalso; omega) | conv => whnf))) | ((with_reducible refine And.intro True.intro ?_); conv => whnf) | ((with_reducible refine CallX.all ?_); refine CallW.of_ok (k0 _ _ (SlC.own rfl)) ?_; conv => whnf) | ((with_reducible refine CallX.all ?_); refine CallW.of_ok (k1 _ _ (SlC.own rfl)) ?_; conv => whnf) | ((with_reducible refine WpR.draw (id := 4) mixed [0, 1, 2, 3, 4] [0, 0, 1, 7, 15] ?hh ?_); (case hh => kernel_rfl); conv => whnf) | ((with_reducible refine And.intro ?hh ?_); (case hh => (unfold InR; (try dsimp only); omega)); conv => whnf) | ((with_reducible refine And.intro ?hh ?_); (case hh => ((try dsimp only); omega)); conv => whnf) | ((with_reducible refine And.intro ?hh ?_); (case hh => ((conv => whnf); (repeat' (first | exact True.intro | rfl | refine And.intro ?_ ?_)); done)); conv => whnf) | fail))
    all_goals (first | (exfalso; omega) | (refine ⟨[], ?_, rfl, rfl, trivial, (by (repeat' (first | exact True.intro | rfl | refine And.intro ?_ ?_)))⟩; simp only [renV, renL]; rw [e4]))
  · have e4 : plcA lo hi l y = (((0, 0), (0, 0)), plErr lo hi l y) := by unfold plcA; rw [if_neg he]
    (conv => whnf); (repeat' (first | ((with_reducible refine ifb_mk (fun hc => ?_) (fun hc => ?_)) <;> ((try simp only [decide_eq_true_eq, decide_eq_false_iff_not, Bool.not_eq_true', Bool.not_eq_false', Int.not_lt, Int.not_le, ne_eq, Decidable.not_not, beq_iff_eq, List.cons.injEq, and_true] at hc); (first | (exfalso; omega) | conv => whnf))) | ((with_reducible refine And.intro True.intro ?_); conv => whnf) | ((with_reducible refine CallX.all ?_); refine CallW.of_ok (k0 _ _ (SlC.own rfl)) ?_; conv => whnf) | ((with_reducible refine And.intro ?hh ?_); (case hh => (unfold InR; (try dsimp only); omega)); conv => whnf) | ((with_reducible refine And.intro ?hh ?_); (case hh => ((try dsimp only); omega)); conv => whnf) | ((with_reducible refine And.intro ?hh ?_); (case hh => ((conv => whnf); (repeat' (first | exact True.intro | rfl | refine And.intro ?_ ?_)); done)); conv => whnf) | fail))
    all_goals (first | (exfalso; omega) | (refine ⟨[], ?_, rfl, rfl, trivial, (by (repeat' (first | exact True.intro | rfl | refine And.intro ?_ ?_)))⟩; simp only [renV, renL]; rw [e4]))
end Go.Proofs.D

namespace Go.Proofs.D
open Go.As
set_option maxRecDepth 20000
set_option linter.unusedVariables false
set_option linter.unusedSimpArgs false

theorem chk_far {lo hi : Int} {l : List E} {y : Int} (he : plErr lo hi l y = 0) {s : Int} (hs : s = 0 ∨ s = 1) : motErr lo hi l (farA s lo hi l y) = 0 ∧ okF (farA s lo hi l y).1 = true ∧ okF (farA s lo hi l y).2 = true := by
  obtain ⟨h0, hy, h3⟩ := plErr_ok he
  exact far_err h0 (staErr_OkS h3).2 hs

theorem slow_neq_self {t : TypeId} {k : Nat} (hk : eqOk Try.prog t k = true) {x y : Operand} (a : List Int) (ha : a.length = k := by rfl) : slow Try.prog .neq t x y (.agg (a.map (V.int .i64))) (.agg (a.map (V.int .i64))) = some (.bool false) := by
  rw [slow_neq hk a a ha ha, decide_eq_true rfl]; rfl
theorem slow_eql_self {t : TypeId} {k : Nat} (hk : eqOk Try.prog t k = true) {x y : Operand} (a : List Int) (ha : a.length = k := by rfl) : slow Try.prog .eql t x y (.agg (a.map (V.int .i64))) (.agg (a.map (V.int .i64))) = some (.bool true) := by
  rw [slow_eql hk a a ha ha, decide_eq_true rfl]

set_option maxHeartbeats 1000000 in
theorem driftRates_ok (hw : ∀ h, CallOk Try.prog 16 [] h (.bool true) h) (h : H) (lo hi : Int) (l : List E) (sv : V) (y : Int) (high : Bool) (hl : l.length ≤ 9223372036854775807) (hs : SlC h (entVs l) l.length sv) :
    CallOk Try.prog 5 [starV lo hi sv, .int .i64 y, .bool high] h (.bool true) h := by
  obtain ⟨vo, svC, hsv, hca, hvw⟩ := hs.view 0
  refine CallOk.run Try.func5 rfl rfl (argsC := [starV lo hi svC, .int .i64 y, .bool high]) (Nat.le_of_ble_eq_true rfl) [vo] (.cons (CaL.agg (.cons (.bare rfl) (.cons (.bare rfl) (.cons (hca _ rfl) .nil)))) (CaL.lt0 rfl)) (viewMc1 entVs_bare hvw) rfl (WpR.of_vc ?_)
  have q2 : eqOk Try.prog 30 2 = true := by kernel_rfl
  have q4 : eqOk Try.prog 49 4 = true := by kernel_rfl
  have hBare := @entVs_bare l
  have k0 := fun h' sv' hs' => great_ok h' lo hi l sv' hl hs'
  have k1 := fun h' sv' hs' => rate_ok h' lo hi l sv' hl hs'
  have k2 := fun h' sv' hs' => refRate_ok h' lo hi l sv' hl hs'
  have k3 := fun h' sv' hs' => place_ok h' lo hi l sv' y hl hs'
  have k4 := fun h' sv' hs' => refPlace_ok h' lo hi l sv' y hl hs'
  have k5 := fun h' sv' hs' => motion_ok h' lo hi l sv' y high hl hs'
  generalize rateA lo hi l = R at k1 k2
  obtain ⟨Z, hZ⟩ : ∃ Z : Bd, Z = ((0, 0), (0, 0)) := ⟨_, rfl⟩
  cases hsv with
  | nil h0 =>
    have e1 : starErr lo hi l = 6 := by unfold starErr; rw [if_pos (by omega)]
    have e2 : plErr lo hi l y = 6 := by unfold plErr; rw [if_neg (by omega)]; exact e1
    have e3 : motA lo hi l y high = (Z, 6) := by unfold motA; rw [if_neg (by omega), e2, hZ]
    have e4 : plcA lo hi l y = (Z, 6) := by unfold plcA; rw [if_neg (by omega), e2, hZ]
    rw [e3] at k5
    rw [e4] at k3 k4
    have hd : decide ((20 : Int) < (l.length : Int)) = false := by rw [h0]; rfl
    simp only [hd] at k0
    (conv => whnf); (repeat' (first | ((with_reducible refine ifb_mk (fun hc => ?_) (fun hc => ?_)) <;> ((try simp only [decide_eq_true_eq, decide_eq_false_iff_not, Bool.not_eq_true', Bool.not_eq_false', Int.not_lt, Int.not_le, ne_eq, Decidable.not_not, beq_iff_eq, List.cons.injEq, and_true] at hc); (first | (exfalso; omega) | conv => whnf))) | ((with_reducible refine And.intro True.intro ?_); conv => whnf) | ((with_reducible refine grd_slow ?_); refine som_mk (a := ?_) ?hh ?_; (case hh => exact slow_neq_self q2 [_, _]); conv => whnf) | ((with_reducible refine grd_slow ?_); refine som_mk (a := ?_) ?hh ?_; (case hh => exact slow_eql_self q2 [_, _]); conv => whnf) | ((with_reducible refine CallX.all ?_); refine CallW.of_ok (k0 _ _ (SlC.none h0)) ?_; conv => whnf) | ((with_reducible refine CallX.all ?_); refine CallW.of_ok (hw _) ?_; conv => whnf) | ((with_reducible refine CallX.all ?_); refine CallW.of_ok (k1 _ _ (SlC.none h0)) ?_; conv => whnf) | ((with_reducible refine CallX.all ?_); refine CallW.of_ok (k2 _ _ (SlC.none h0)) ?_; conv => whnf) | ((with_reducible refine CallX.all ?_); refine CallW.of_ok (k3 _ _ (SlC.none h0)) ?_; conv => whnf) | ((with_reducible refine CallX.all ?_); refine CallW.of_ok (k4 _ _ (SlC.none h0)) ?_; conv => whnf) | ((with_reducible refine CallX.all ?_); refine CallW.of_ok (k5 _ _ (SlC.none h0)) ?_; conv => whnf) | ((with_reducible refine grd_slow ?_); refine som_mk (a := ?_) ?hh ?_; (case hh => exact slow_eql q4 [Z.1.1, Z.1.2, Z.2.1, Z.2.2] [0, 0, 0, 0]); conv => whnf) | ((with_reducible refine And.intro ?hh ?_); (case hh => (unfold InR; (try dsimp only); omega)); conv => whnf) | ((with_reducible refine And.intro ?hh ?_); (case hh => ((try dsimp only); omega)); conv => whnf) | ((with_reducible refine And.intro ?hh ?_); (case hh => ((conv => whnf); (repeat' (first | exact True.intro | rfl | refine And.intro ?_ ?_)); done)); conv => whnf) | fail))
    all_goals (first | (exfalso; exact hc trivial) | (exfalso; apply hc; rw [hZ]; exact ⟨rfl, rfl, rfl, rfl⟩) | (exfalso; omega) | (refine ⟨[], ?_, rfl, rfl, trivial, (by (repeat' (first | exact True.intro | rfl | refine And.intro ?_ ?_)))⟩; simp only [renV, renL]; (first | done | rfl | simp | grind)))
  | @sl cap ex =>
    by_cases he : plErr lo hi l y = 0
    · obtain ⟨h0, hy, h3⟩ := plErr_ok he
      have e3 : motA lo hi l y high = (farA (sideN high) lo hi l y, 0) := by unfold motA; rw [if_pos he]
      have e4 : plcA lo hi l y = ((plcQ (farA 0 lo hi l y) y, plcQ (farA 1 lo hi l y) y), 0) := by unfold plcA; rw [if_pos he]
      obtain ⟨c1, c2, c3⟩ := chk_far (y := y) he (s := sideN high) (by cases high <;> simp [sideN])
      have k6 := fun h' sv' hs' => refCheckMotion_ok h' lo hi l sv' (farA (sideN high) lo hi l y) hl hs'
      have k7 := fun h' => at_ok h' (farA (sideN high) lo hi l y) y c2 c3 hy
      rw [c1] at k6
      rw [e3] at k5
      rw [e4] at k3 k4
      cases high with
      | false =>
        have hside : sideN false = 0 := rfl
        rw [hside] at k5 k6 k7
        clear c1 c2 c3 e3 e4
        generalize plcQ (farA 0 lo hi l y) y = A at k3 k4 k7
        generalize plcQ (farA 1 lo hi l y) y = B at k3 k4
        generalize farA 0 lo hi l y = m at k5 k6 k7
        (conv => whnf); (repeat' (first | ((with_reducible refine ifb_mk (fun hc => ?_) (fun hc => ?_)) <;> ((try simp only [decide_eq_true_eq, decide_eq_false_iff_not, Bool.not_eq_true', Bool.not_eq_false', Int.not_lt, Int.not_le, ne_eq, Decidable.not_not, beq_iff_eq, List.cons.injEq, and_true] at hc); (first | (exfalso; omega) | conv => whnf))) | ((with_reducible refine And.intro True.intro ?_); conv => whnf) | ((with_reducible refine grd_slow ?_); refine som_mk (a := ?_) ?hh ?_; (case hh => exact slow_neq_self q2 [_, _]); conv => whnf) | ((with_reducible refine grd_slow ?_); refine som_mk (a := ?_) ?hh ?_; (case hh => exact slow_eql_self q2 [_, _]); conv => whnf) | ((with_reducible refine CallX.all ?_); refine CallW.of_ok (k0 _ _ (SlC.own rfl)) ?_; conv => whnf) | ((with_reducible refine CallX.all ?_); refine CallW.of_ok (hw _) ?_; conv => whnf) | ((with_reducible refine CallX.all ?_); refine CallW.of_ok (k1 _ _ (SlC.own rfl)) ?_; conv => whnf) | ((with_reducible refine CallX.all ?_); refine CallW.of_ok (k2 _ _ (SlC.own rfl)) ?_; conv => whnf) | ((with_reducible refine CallX.all ?_); refine CallW.of_ok (k3 _ _ (SlC.own rfl)) ?_; conv => whnf) | ((with_reducible refine CallX.all ?_); refine CallW.of_ok (k4 _ _ (SlC.own rfl)) ?_; conv => whnf) | ((with_reducible refine CallX.all ?_); refine CallW.of_ok (k5 _ _ (SlC.own rfl)) ?_; conv => whnf) | ((with_reducible refine WpR.draw (id := 15) mixed [0, 1, 2, 3, 4, 5, 6, 8, 7, 9, 10, 11, 12, 13, 14] [0, 0, 3, 7, 15, 31, 31, 127, 31, 511, 1023, 2047, 4095, 8191, 16383] ?hh ?_); (case hh => kernel_rfl); conv => whnf) | ((with_reducible refine grd_ex ?_); refine ex_ok (k6 _ _ (SlC.own rfl)) ?_; conv => whnf) | ((with_reducible refine grd_ex ?_); refine ex_ok (k7 _) ?_; conv => whnf) | ((with_reducible refine grd_ex ?_); refine ex_ok (hw _) ?_; conv => whnf) | ((with_reducible refine And.intro ?hh ?_); (case hh => (unfold InR; (try dsimp only); omega)); conv => whnf) | ((with_reducible refine And.intro ?hh ?_); (case hh => ((try dsimp only); omega)); conv => whnf) | ((with_reducible refine And.intro ?hh ?_); (case hh => ((conv => whnf); (repeat' (first | exact True.intro | rfl | refine And.intro ?_ ?_)); done)); conv => whnf) | fail))
        all_goals (first | (exfalso; exact hc trivial) | (exfalso; apply hc; rw [hZ]; exact ⟨rfl, rfl, rfl, rfl⟩) | (exfalso; omega) | (refine ⟨[], ?_, rfl, rfl, trivial, (by (repeat' (first | exact True.intro | rfl | refine And.intro ?_ ?_)))⟩; simp only [renV, renL]; (first | done | rfl | simp | grind)))
      | true =>
        have hside : sideN true = 1 := rfl
        rw [hside] at k5 k6 k7
        clear c1 c2 c3 e3 e4
        generalize plcQ (farA 0 lo hi l y) y = A at k3 k4
        generalize plcQ (farA 1 lo hi l y) y = B at k3 k4 k7
        generalize farA 1 lo hi l y = m at k5 k6 k7
        (conv => whnf); (repeat' (first | ((with_reducible refine ifb_mk (fun hc => ?_) (fun hc => ?_)) <;> ((try simp only [decide_eq_true_eq, decide_eq_false_iff_not, Bool.not_eq_true', Bool.not_eq_false', Int.not_lt, Int.not_le, ne_eq, Decidable.not_not, beq_iff_eq, List.cons.injEq, and_true] at hc); (first | (exfalso; omega) | conv => whnf))) | ((with_reducible refine And.intro True.intro ?_); conv => whnf) | ((with_reducible refine grd_slow ?_); refine som_mk (a := ?_) ?hh ?_; (case hh => exact slow_neq_self q2 [_, _]); conv => whnf) | ((with_reducible refine grd_slow ?_); refine som_mk (a := ?_) ?hh ?_; (case hh => exact slow_eql_self q2 [_, _]); conv => whnf) | ((with_reducible refine CallX.all ?_); refine CallW.of_ok (k0 _ _ (SlC.own rfl)) ?_; conv => whnf) | ((with_reducible refine CallX.all ?_); refine CallW.of_ok (hw _) ?_; conv => whnf) | ((with_reducible refine CallX.all ?_); refine CallW.of_ok (k1 _ _ (SlC.own rfl)) ?_; conv => whnf) | ((with_reducible refine CallX.all ?_); refine CallW.of_ok (k2 _ _ (SlC.own rfl)) ?_; conv => whnf) | ((with_reducible refine CallX.all ?_); refine CallW.of_ok (k3 _ _ (SlC.own rfl)) ?_; conv => whnf) | ((with_reducible refine CallX.all ?_); refine CallW.of_ok (k4 _ _ (SlC.own rfl)) ?_; conv => whnf) | ((with_reducible refine CallX.all ?_); refine CallW.of_ok (k5 _ _ (SlC.own rfl)) ?_; conv => whnf) | ((with_reducible refine WpR.draw (id := 15) mixed [0, 1, 2, 3, 4, 5, 6, 8, 7, 9, 10, 11, 12, 13, 14] [0, 0, 3, 7, 15, 31, 31, 127, 31, 511, 1023, 2047, 4095, 8191, 16383] ?hh ?_); (case hh => kernel_rfl); conv => whnf) | ((with_reducible refine grd_ex ?_); refine ex_ok (k6 _ _ (SlC.own rfl)) ?_; conv => whnf) | ((with_reducible refine grd_ex ?_); refine ex_ok (k7 _) ?_; conv => whnf) | ((with_reducible refine grd_ex ?_); refine ex_ok (hw _) ?_; conv => whnf) | ((with_reducible refine And.intro ?hh ?_); (case hh => (unfold InR; (try dsimp only); omega)); conv => whnf) | ((with_reducible refine And.intro ?hh ?_); (case hh => ((try dsimp only); omega)); conv => whnf) | ((with_reducible refine And.intro ?hh ?_); (case hh => ((conv => whnf); (repeat' (first | exact True.intro | rfl | refine And.intro ?_ ?_)); done)); conv => whnf) | fail))
        all_goals (first | (exfalso; exact hc trivial) | (exfalso; apply hc; rw [hZ]; exact ⟨rfl, rfl, rfl, rfl⟩) | (exfalso; omega) | (refine ⟨[], ?_, rfl, rfl, trivial, (by (repeat' (first | exact True.intro | rfl | refine And.intro ?_ ?_)))⟩; simp only [renV, renL]; (first | done | rfl | simp | grind)))
    · have e3 : motA lo hi l y high = (Z, plErr lo hi l y) := by unfold motA; rw [if_neg he, hZ]
      have e4 : plcA lo hi l y = (Z, plErr lo hi l y) := by unfold plcA; rw [if_neg he, hZ]
      rw [e3] at k5
      rw [e4] at k3 k4
      clear e3 e4
      generalize plErr lo hi l y = e at k3 k4 k5 he
      (conv => whnf); (repeat' (first | ((with_reducible refine ifb_mk (fun hc => ?_) (fun hc => ?_)) <;> ((try simp only [decide_eq_true_eq, decide_eq_false_iff_not, Bool.not_eq_true', Bool.not_eq_false', Int.not_lt, Int.not_le, ne_eq, Decidable.not_not, beq_iff_eq, List.cons.injEq, and_true] at hc); (first | (exfalso; omega) | conv => whnf))) | ((with_reducible refine And.intro True.intro ?_); conv => whnf) | ((with_reducible refine grd_slow ?_); refine som_mk (a := ?_) ?hh ?_; (case hh => exact slow_neq_self q2 [_, _]); conv => whnf) | ((with_reducible refine grd_slow ?_); refine som_mk (a := ?_) ?hh ?_; (case hh => exact slow_eql_self q2 [_, _]); conv => whnf) | ((with_reducible refine CallX.all ?_); refine CallW.of_ok (k0 _ _ (SlC.own rfl)) ?_; conv => whnf) | ((with_reducible refine CallX.all ?_); refine CallW.of_ok (hw _) ?_; conv => whnf) | ((with_reducible refine CallX.all ?_); refine CallW.of_ok (k1 _ _ (SlC.own rfl)) ?_; conv => whnf) | ((with_reducible refine CallX.all ?_); refine CallW.of_ok (k2 _ _ (SlC.own rfl)) ?_; conv => whnf) | ((with_reducible refine CallX.all ?_); refine CallW.of_ok (k3 _ _ (SlC.own rfl)) ?_; conv => whnf) | ((with_reducible refine CallX.all ?_); refine CallW.of_ok (k4 _ _ (SlC.own rfl)) ?_; conv => whnf) | ((with_reducible refine CallX.all ?_); refine CallW.of_ok (k5 _ _ (SlC.own rfl)) ?_; conv => whnf) | ((with_reducible refine grd_slow ?_); refine som_mk (a := ?_) ?hh ?_; (case hh => exact slow_eql q4 [Z.1.1, Z.1.2, Z.2.1, Z.2.2] [0, 0, 0, 0]); conv => whnf) | ((with_reducible refine And.intro ?hh ?_); (case hh => (unfold InR; (try dsimp only); omega)); conv => whnf) | ((with_reducible refine And.intro ?hh ?_); (case hh => ((try dsimp only); omega)); conv => whnf) | ((with_reducible refine And.intro ?hh ?_); (case hh => ((conv => whnf); (repeat' (first | exact True.intro | rfl | refine And.intro ?_ ?_)); done)); conv => whnf) | fail))
      all_goals (first | (exfalso; exact hc trivial) | (exfalso; apply hc; rw [hZ]; exact ⟨rfl, rfl, rfl, rfl⟩) | (exfalso; omega) | (refine ⟨[], ?_, rfl, rfl, trivial, (by (repeat' (first | exact True.intro | rfl | refine And.intro ?_ ?_)))⟩; simp only [renV, renL]; (first | done | rfl | simp | grind)))
end Go.Proofs.D

namespace Go.Proofs.D
open Go.As
set_option maxRecDepth 20000
set_option linter.unusedVariables false
set_option linter.unusedSimpArgs false

/-! ### What every motion that agrees keeps to -/

structure MotIn (lo hi : Int) (l : List E) (m : Mo) : Prop where
  p1 : 0 < m.1.2
  p2 : 0 < m.2.2
  st : starErr lo hi l = 0
  f1 : okF m.1 = true
  f2 : okF m.2 = true
  rate : (lo : Rat) ≤ rq m.2 ∧ rq m.2 ≤ (hi : Rat)
  ent : ∀ e ∈ l, (e.2.1 : Rat) ≤ rq m.1 + rq m.2 * (e.1 : Rat) ∧ rq m.1 + rq m.2 * (e.1 : Rat) ≤ (e.2.2 : Rat)

theorem rq_int (n : Int) : rq (n, 1) = (n : Rat) := by
  have := rq_mul (x := (n, 1)) (Int.zero_lt_one : (0 : Int) < 1)
  simpa using this

theorem mot_in {lo hi : Int} {l : List E} {m : Mo} (h : motErr lo hi l m = 0) : MotIn lo hi l m := by
  unfold motErr at h
  have h0 : starErr lo hi l = 0 := by grind
  rw [if_pos h0] at h
  have h1 : (okF m.1 && okF m.2) = true := by grind
  rw [if_pos h1] at h
  have h2 : agr lo hi l m = true := by grind
  rw [Bool.and_eq_true] at h1
  have f1 := okF_iff h1.1
  have f2 := okF_iff h1.2
  have p1 : 0 < m.1.2 := by omega
  have p2 : 0 < m.2.2 := by omega
  unfold agr at h2
  rw [Bool.and_eq_true, Bool.and_eq_true, decide_eq_true_eq, decide_eq_true_eq, List.all_eq_true] at h2
  obtain ⟨⟨g1, g2⟩, g3⟩ := h2
  refine ⟨p1, p2, h0, h1.1, h1.2, ⟨?_, ?_⟩, fun e he => ?_⟩
  · have := (rq_le (a := (lo, 1)) (b := m.2) (by decide : (0 : Int) < 1) p2).2 (by dsimp only; omega)
    rwa [rq_int] at this
  · have := (rq_le (a := m.2) (b := (hi, 1)) p2 (by decide : (0 : Int) < 1)).2 (by dsimp only; omega)
    rwa [rq_int] at this
  · have g4 := g3 e he
    unfold inE at g4
    rw [Bool.and_eq_true, decide_eq_true_eq, decide_eq_true_eq] at g4
    obtain ⟨g5, g6⟩ := g4
    have hdd : (0 : Rat) < (m.1.2 : Rat) * (m.2.2 : Rat) := Rat.mul_pos (Rat.intCast_pos.2 p1) (Rat.intCast_pos.2 p2)
    rw [Int.mul_assoc] at g5 g6
    have v1 := Rat.intCast_le_intCast.2 g5
    have v2 := Rat.intCast_le_intCast.2 g6
    rw [pl_rat p1 p2, Rat.intCast_mul, Rat.intCast_mul] at v1 v2
    exact ⟨le_of_mulR hdd v1, le_of_mulR hdd v2⟩

theorem mot_rate {lo hi : Int} {l : List E} {m : Mo} (h : MotIn lo hi l m) : rq (loQ lo hi l) ≤ rq m.2 ∧ rq m.2 ≤ rq (hiQ lo hi l) := by
  have hS := starErr_ok h.st
  obtain ⟨⟨p, mp, e1⟩, ⟨q, mq, e2⟩, _, _⟩ := boundsP hS
  dsimp only at e1 e2
  rw [e1, e2]
  constructor
  · rcases pairsL_mem.1 mp with rfl | ⟨i, j, h1, h2, rfl⟩
    · show rq (lo, 1) ≤ _
      rw [rq_int]; exact h.rate.1
    · have hgi : l[i]? = some l[i] := List.getElem?_eq_getElem _
      have hgj : l[j]? = some l[j] := List.getElem?_eq_getElem _
      have hlt := hS.inc _ _ _ _ h1 hgi hgj
      rw [bndOf_two hgi hgj]
      have a1 := h.ent l[i] (List.getElem_mem _)
      have a2 := h.ent l[j] (List.getElem_mem _)
      generalize l[i] = e at *
      generalize l[j] = f at *
      have hd : 0 < f.1 - e.1 := by omega
      have hdR := Rat.intCast_pos.2 hd
      refine le_of_mulR hdR ?_
      show rq (fr (f.2.1 - e.2.2) (f.1 - e.1)) * _ ≤ _
      rw [rq_fr_mul hd, Rat.intCast_sub, Rat.intCast_sub]
      grind
  · rcases pairsL_mem.1 mq with rfl | ⟨i, j, h1, h2, rfl⟩
    · show _ ≤ rq (hi, 1)
      rw [rq_int]; exact h.rate.2
    · have hgi : l[i]? = some l[i] := List.getElem?_eq_getElem _
      have hgj : l[j]? = some l[j] := List.getElem?_eq_getElem _
      have hlt := hS.inc _ _ _ _ h1 hgi hgj
      rw [bndOf_two hgi hgj]
      have a1 := h.ent l[i] (List.getElem_mem _)
      have a2 := h.ent l[j] (List.getElem_mem _)
      generalize l[i] = e at *
      generalize l[j] = f at *
      have hd : 0 < f.1 - e.1 := by omega
      have hdR := Rat.intCast_pos.2 hd
      refine le_of_mulR hdR ?_
      show _ ≤ rq (fr (f.2.2 - e.2.1) (f.1 - e.1)) * _
      rw [rq_fr_mul hd, Rat.intCast_sub, Rat.intCast_sub]
      grind

theorem mot_has {lo hi : Int} {l : List E} {m : Mo} (h : MotIn lo hi l m) : hasM lo hi l = true := by
  have hS := starErr_ok h.st
  have h1 := (loQ_bd hS).2
  have h2 := (hiQ_bd hS).2
  have h3 := mot_rate h
  have := Rat.le_trans h3.1 h3.2
  rw [rq_le (by omega) (by omega)] at this
  unfold hasM
  simp
  exact this

theorem mot_side {lo hi : Int} {l : List E} {m : Mo} (h : MotIn lo hi l m) {s : Int} (hs : s = 0 ∨ s = 1) (t : Int) : tq s m.1 + tq s m.2 * (t : Rat) ≤ valM s (farA s lo hi l t) t := by
  have hS := starErr_ok h.st
  have h1 := (loQ_bd hS).2
  have h2 := (hiQ_bd hS).2
  have hf := farM_ok hS (s := s) (t := t) hs (by omega : 0 < (loQ lo hi l).2) (by omega : 0 < (hiQ lo hi l).2) (hasM_le hS (mot_has h))
  have h3 := mot_rate h
  have hr : loS s (loQ lo hi l) (hiQ lo hi l) ≤ tq s m.2 ∧ tq s m.2 ≤ hiS s (loQ lo hi l) (hiQ lo hi l) := by
    unfold loS hiS tq
    rcases hs with rfl | rfl
    · rw [if_neg (by decide), if_neg (by decide), if_neg (by decide)]; grind
    · rw [if_pos rfl, if_pos rfl, if_pos rfl]; exact h3
  refine hf.top.top _ (dual1 hr.1 hr.2 fun p hp => ?_)
  obtain ⟨e, he, rfl⟩ := List.mem_map.1 hp
  have h4 := h.ent e he
  have h5 : tq s m.1 + tq s m.2 * (e.1 : Rat) ≤ upS s e := by
    unfold tq upS
    rcases hs with rfl | rfl
    · rw [if_neg (by decide), if_neg (by decide), if_neg (by decide)]; grind
    · rw [if_pos rfl, if_pos rfl, if_pos rfl]; exact h4.2
  unfold ptS
  grind

/-- The place of a motion that agrees lies between both ends. -/
theorem mot_place {lo hi : Int} {l : List E} {m : Mo} (h : MotIn lo hi l m) (t : Int) : rq (plcQ (farA 0 lo hi l t) t) ≤ rq (plcQ m t) ∧ rq (plcQ m t) ≤ rq (plcQ (farA 1 lo hi l t) t) := by
  have h0 := mot_side h (.inl rfl) t
  have h1 := mot_side h (.inr rfl) t
  rw [plc_rat h.p1 h.p2]
  unfold valM tq at h0 h1
  rw [if_neg (by decide), if_neg (by decide), if_neg (by decide)] at h0
  rw [if_pos rfl, if_pos rfl, if_pos rfl] at h1
  constructor <;> grind

theorem hiIn_pr {Pr : Int × Int → Prop} {t : Int} {e : E} : ∀ (L : List E) (x : Int × Int), Pr x → (∀ f ∈ L, okPair t e f → Pr (termP t e f)) → Pr (hiIn t e x L)
  | [], _, hx, _ => hx
  | f :: L, x, hx, hL => by
    refine hiIn_pr L (inH t e x f) ?_ (fun g hg => hL g (List.mem_cons_of_mem _ hg))
    unfold inH
    split
    · exact hx
    · split
      · exact hL f (List.mem_cons_self ..) (by unfold okPair; omega)
      · exact hx
theorem hiGo_pr {Pr : Int × Int → Prop} {t : Int} {a b : Int × Int} : ∀ (l : List E) (x : Int × Int) (fst : Bool), (fst = true → 0 < l.length) → (fst = false → Pr x) → (∀ e ∈ l, Pr (termI t a b e)) → (l.Pairwise fun e f => okPair t e f → Pr (termP t e f)) → Pr (hiGo t a b fst x l)
  | [], x, fst, h0, hx, _, _ => by
    cases fst with
    | true => exact absurd (h0 rfl) (Nat.lt_irrefl 0)
    | false => exact hx rfl
  | e :: l, x, fst, _, hx, hI, hp => by
    rw [List.pairwise_cons] at hp
    have hT := hI e (List.mem_cons_self ..)
    refine hiGo_pr l _ false (fun h => by cases h) (fun _ => hiIn_pr l _ ?_ hp.1) (fun f hf => hI f (List.mem_cons_of_mem _ hf)) hp.2
    cases fst with
    | true => rw [Bool.true_or, if_pos rfl]; exact hT
    | false =>
      rw [Bool.false_or]
      split
      · exact hT
      · exact hx rfl

theorem hiQt_okH {lo hi : Int} {l : List E} (hS : OkS lo hi l) {t : Int} (ht : 0 ≤ t ∧ t ≤ 200) : OkH (hiQt t (loQ lo hi l) (hiQ lo hi l) l) := by
  refine hiGo_pr l (0, 0) true (fun _ => hS.one) (fun h => by cases h) (fun e he => ?_) ?_
  · obtain ⟨i, hi'⟩ := List.mem_iff_getElem?.1 he
    exact termI_ok (loQ_bd hS) (hiQ_bd hS) ht (hS.ent i e hi')
  · rw [List.pairwise_iff_getElem]
    intro i j hi' hj' hij hok
    have hgi : l[i]? = some l[i] := List.getElem?_eq_getElem _
    have hgj : l[j]? = some l[j] := List.getElem?_eq_getElem _
    exact (termP_ok ht (hS.ent _ _ hgi) (hS.ent _ _ hgj) (hS.inc _ _ _ _ hij hgi hgj) hok.1 hok.2).ok

/-- The ends are small, and in order. -/
structure EndsOk (lo hi : Int) (l : List E) (t : Int) : Prop where
  a : OkH (plcQ (farA 0 lo hi l t) t)
  b : OkH (plcQ (farA 1 lo hi l t) t)
  le : rq (plcQ (farA 0 lo hi l t) t) ≤ rq (plcQ (farA 1 lo hi l t) t)

theorem ends_small {lo hi : Int} {l : List E} (h0 : starErr lo hi l = 0) (hm : hasM lo hi l = true) {t : Int} (ht : 0 ≤ t ∧ t ≤ 200) : EndsOk lo hi l t := by
  have hS := starErr_ok h0
  have o0 := hiQt_okH (turn_OkS hS) ht
  have o1 := hiQt_okH hS ht
  have e0 := place0 hS hm t
  have e1 := place1 hS hm t
  have hin := mot_in (far_err h0 hm (s := 0) (t := t) (.inl rfl)).1
  refine ⟨?_, by rw [e1]; exact o1, (mot_place hin t).2⟩
  rw [e0]
  obtain ⟨n, d⟩ := o0
  unfold negQ
  exact ⟨by dsimp only; omega, d⟩
end Go.Proofs.D

namespace Go.Proofs.D
open Go.As
set_option maxRecDepth 20000
set_option linter.unusedVariables false
set_option linter.unusedSimpArgs false

def smallB (q : Int × Int) : Bool := decide ((-100000000 ≤ q.1 ∧ q.1 ≤ 100000000) ∧ 1 ≤ q.2 ∧ q.2 ≤ 200)
theorem small_ok (h : H) (q : Int × Int) : CallOk Try.prog 88 [qV q] h (.bool (smallB q)) h := by
  refine CallOk.run0 Try.func88 rfl rfl rfl rfl rfl (WpR.of_vc ?_)
  (conv => whnf); (repeat' (first | ((with_reducible refine ifb_mk (fun hc => ?_) (fun hc => ?_)) <;> ((try simp only [decide_eq_true_eq, decide_eq_false_iff_not, Bool.not_eq_true', Bool.not_eq_false', Int.not_lt, Int.not_le, ne_eq, Decidable.not_not, beq_iff_eq, List.cons.injEq, and_true] at hc); (first | (exfalso; omega) | conv => whnf))) | ((with_reducible refine And.intro True.intro ?_); conv => whnf) | ((with_reducible refine And.intro ?hh ?_); (case hh => (unfold InR; (try dsimp only); omega)); conv => whnf) | ((with_reducible refine And.intro ?hh ?_); (case hh => ((try dsimp only); omega)); conv => whnf) | ((with_reducible refine And.intro ?hh ?_); (case hh => ((conv => whnf); (repeat' (first | exact True.intro | rfl | refine And.intro ?_ ?_)); done)); conv => whnf) | fail))
  all_goals (refine ⟨[], ?_, rfl, rfl, trivial, (by (repeat' (first | exact True.intro | rfl | refine And.intro ?_ ?_)))⟩; first | rfl | (simp only [renV, renL]; first | done | rfl | (congr 1; grind [smallB]) | grind [smallB]))

theorem fine_ok (h : H) (lo hi : Int) (l : List E) (sv : V) (hl : l.length ≤ 9223372036854775807) (hs : SlC h (entVs l) l.length sv) :
    CallOk Try.prog 41 [starV lo hi sv] h (.bool (decide (starErr lo hi l = 0))) h := by
  obtain ⟨vo, svC, hsv, hca, hvw⟩ := hs.view 0
  refine CallOk.run Try.func41 rfl rfl (argsC := [starV lo hi svC]) (Nat.le_of_ble_eq_true rfl) [vo] (.cons (CaL.agg (.cons (.bare rfl) (.cons (.bare rfl) (.cons (hca _ rfl) .nil)))) .nil) (viewMc1 entVs_bare hvw) rfl (WpR.of_vc ?_)
  have hBare := @entVs_bare l
  have hb : (20 : Int) < l.length → starErr lo hi l = 6 := fun h => by unfold starErr; rw [if_pos (by omega)]
  have k0 := fun h' sv' hs' => great_ok h' lo hi l sv' hl hs'
  have k1 := fun h' sv' hs' => refCheckStar_ok h' lo hi l sv' hl hs'
  generalize starErr lo hi l = e at k1 hb
  cases hsv with
  | nil h0 =>
    have hd : decide ((20 : Int) < (l.length : Int)) = false := by rw [h0]; rfl
    simp only [hd] at k0
    (conv => whnf); (repeat' (first | ((with_reducible refine ifb_mk (fun hc => ?_) (fun hc => ?_)) <;> ((try simp only [decide_eq_true_eq, decide_eq_false_iff_not, Bool.not_eq_true', Bool.not_eq_false', Int.not_lt, Int.not_le, ne_eq, Decidable.not_not, beq_iff_eq, List.cons.injEq, and_true] at hc); (first | (exfalso; omega) | conv => whnf))) | ((with_reducible refine And.intro True.intro ?_); conv => whnf) | ((with_reducible refine CallX.all ?_); refine CallW.of_ok (k0 _ _ (SlC.none h0)) ?_; conv => whnf) | ((with_reducible refine CallX.all ?_); refine CallW.of_ok (k1 _ _ (SlC.none h0)) ?_; conv => whnf) | ((with_reducible refine And.intro ?hh ?_); (case hh => (unfold InR; (try dsimp only); omega)); conv => whnf) | ((with_reducible refine And.intro ?hh ?_); (case hh => ((try dsimp only); omega)); conv => whnf) | ((with_reducible refine And.intro ?hh ?_); (case hh => ((conv => whnf); (repeat' (first | exact True.intro | rfl | refine And.intro ?_ ?_)); done)); conv => whnf) | fail))
    all_goals (refine ⟨[], ?_, rfl, rfl, trivial, (by (repeat' (first | exact True.intro | rfl | refine And.intro ?_ ?_)))⟩; simp only [renV, renL]; (first | done | rfl | simp | grind))
  | @sl cap ex =>
    by_cases hb2 : (20 : Int) < l.length
    · simp only [decide_eq_true hb2] at k0
      have h6 := hb hb2
      (conv => whnf); (repeat' (first | ((with_reducible refine ifb_mk (fun hc => ?_) (fun hc => ?_)) <;> ((try simp only [decide_eq_true_eq, decide_eq_false_iff_not, Bool.not_eq_true', Bool.not_eq_false', Int.not_lt, Int.not_le, ne_eq, Decidable.not_not, beq_iff_eq, List.cons.injEq, and_true] at hc); (first | (exfalso; omega) | conv => whnf))) | ((with_reducible refine And.intro True.intro ?_); conv => whnf) | ((with_reducible refine CallX.all ?_); refine CallW.of_ok (k0 _ _ (SlC.own rfl)) ?_; conv => whnf) | ((with_reducible refine CallX.all ?_); refine CallW.of_ok (k1 _ _ (SlC.own rfl)) ?_; conv => whnf) | ((with_reducible refine And.intro ?hh ?_); (case hh => (unfold InR; (try dsimp only); omega)); conv => whnf) | ((with_reducible refine And.intro ?hh ?_); (case hh => ((try dsimp only); omega)); conv => whnf) | ((with_reducible refine And.intro ?hh ?_); (case hh => ((conv => whnf); (repeat' (first | exact True.intro | rfl | refine And.intro ?_ ?_)); done)); conv => whnf) | fail))
      all_goals (refine ⟨[], ?_, rfl, rfl, trivial, (by (repeat' (first | exact True.intro | rfl | refine And.intro ?_ ?_)))⟩; simp only [renV, renL]; rw [decide_eq_false (by omega)])
    · simp only [decide_eq_false hb2] at k0
      (conv => whnf); (repeat' (first | ((with_reducible refine ifb_mk (fun hc => ?_) (fun hc => ?_)) <;> ((try simp only [decide_eq_true_eq, decide_eq_false_iff_not, Bool.not_eq_true', Bool.not_eq_false', Int.not_lt, Int.not_le, ne_eq, Decidable.not_not, beq_iff_eq, List.cons.injEq, and_true] at hc); (first | (exfalso; omega) | conv => whnf))) | ((with_reducible refine And.intro True.intro ?_); conv => whnf) | ((with_reducible refine CallX.all ?_); refine CallW.of_ok (k0 _ _ (SlC.own rfl)) ?_; conv => whnf) | ((with_reducible refine CallX.all ?_); refine CallW.of_ok (k1 _ _ (SlC.own rfl)) ?_; conv => whnf) | ((with_reducible refine And.intro ?hh ?_); (case hh => (unfold InR; (try dsimp only); omega)); conv => whnf) | ((with_reducible refine And.intro ?hh ?_); (case hh => ((try dsimp only); omega)); conv => whnf) | ((with_reducible refine And.intro ?hh ?_); (case hh => ((conv => whnf); (repeat' (first | exact True.intro | rfl | refine And.intro ?_ ?_)); done)); conv => whnf) | fail))
      all_goals (refine ⟨[], ?_, rfl, rfl, trivial, (by (repeat' (first | exact True.intro | rfl | refine And.intro ?_ ?_)))⟩; simp only [renV, renL]; (first | done | rfl | simp | grind))

theorem smallB_of {q : Int × Int} (h : OkH q) : smallB q = true := decide_eq_true ⟨by have := h.n; omega, h.d⟩
theorem smallB_of2 {q : Int × Int} (h1 : -20000 ≤ q.1 ∧ q.1 ≤ 20000) (h2 : 1 ≤ q.2 ∧ q.2 ≤ 200) : smallB q = true := decide_eq_true ⟨by omega, h2⟩

/-- What ends says of a valid star. -/
def endsA (lo hi : Int) (l : List E) (y : Int) : (Bd × Bd) × Int := if hasM lo hi l then (((loQ lo hi l, hiQ lo hi l), (plcQ (farA 0 lo hi l y) y, plcQ (farA 1 lo hi l y) y)), 0) else ((((0, 0), (0, 0)), ((0, 0), (0, 0))), 17)
def endsV (x : Bd × Bd) : V := .agg [.int .i64 x.1.1.1, .int .i64 x.1.1.2, .int .i64 x.1.2.1, .int .i64 x.1.2.2, .int .i64 x.2.1.1, .int .i64 x.2.1.2, .int .i64 x.2.2.1, .int .i64 x.2.2.2]

set_option maxHeartbeats 1000000 in
theorem ends_ok (h : H) (lo hi : Int) (l : List E) (h0 : starErr lo hi l = 0) (sv : V) (y : Int) (hy : 0 ≤ y ∧ y ≤ 200) (hl : l.length ≤ 9223372036854775807) (hs : SlC h (entVs l) l.length sv) :
    CallOk Try.prog 42 [starV lo hi sv, .int .i64 y] h (.tup [endsV (endsA lo hi l y).1, .int .i64 (endsA lo hi l y).2, .bool true]) h := by
  have hS := starErr_ok h0
  obtain ⟨vo, svC, hsv, hca, hvw⟩ := hs.view 0
  obtain ⟨cap, ex, rfl⟩ := Sv.pos hsv hS.one
  have q2 : eqOk Try.prog 30 2 = true := by kernel_rfl
  refine CallOk.run Try.func42 rfl rfl (argsC := [starV lo hi (.sl 0 0 l.length cap ex), .int .i64 y]) (Nat.le_of_ble_eq_true rfl) [vo] (.cons (CaL.agg (.cons (.bare rfl) (.cons (.bare rfl) (.cons (hca _ rfl) .nil)))) (CaL.lt0 rfl)) (viewMc1 entVs_bare hvw) rfl (WpR.of_vc ?_)
  have hBare := @entVs_bare l
  have k1 := fun h' sv' hs' => rate_ok h' lo hi l sv' hl hs'
  have k3 := fun h' sv' hs' => place_ok h' lo hi l sv' y hl hs'
  have k4 := fun h' sv' hs' => motion_ok h' lo hi l sv' y false hl hs'
  have k5 := fun h' sv' hs' => motion_ok h' lo hi l sv' y true hl hs'
  cases hm : hasM lo hi l with
  | true =>
    have e1 : staErr lo hi l = 0 := by unfold staErr; rw [if_pos h0, hm]; rfl
    have e2 : plErr lo hi l y = 0 := by unfold plErr; rw [if_pos h0, if_pos hy]; exact e1
    have e3 : ∀ high, motA lo hi l y high = (farA (sideN high) lo hi l y, 0) := fun high => by unfold motA; rw [if_pos e2]
    have e4 : plcA lo hi l y = ((plcQ (farA 0 lo hi l y) y, plcQ (farA 1 lo hi l y) y), 0) := by unfold plcA; rw [if_pos e2]
    have e5 : rateA lo hi l = ((loQ lo hi l, hiQ lo hi l), 0) := by unfold rateA; rw [if_pos e1]
    have e6 : endsA lo hi l y = (((loQ lo hi l, hiQ lo hi l), (plcQ (farA 0 lo hi l y) y, plcQ (farA 1 lo hi l y) y)), 0) := by unfold endsA; rw [hm]; rfl
    obtain ⟨oa, ob, ole⟩ := ends_small h0 hm hy
    have la := loQ_bd hS
    have lb := hiQ_bd hS
    have hlt1 : ¬ (hiQ lo hi l).1 * (loQ lo hi l).2 < (loQ lo hi l).1 * (hiQ lo hi l).2 := by
      have := hasM_le hS hm
      rw [rq_le (by omega) (by omega)] at this
      omega
    have hlt2 : ¬ (plcQ (farA 1 lo hi l y) y).1 * (plcQ (farA 0 lo hi l y) y).2 < (plcQ (farA 0 lo hi l y) y).1 * (plcQ (farA 1 lo hi l y) y).2 := by
      have := ole
      have da := oa.d
      have db := ob.d
      rw [rq_le (by omega) (by omega)] at this
      omega
    obtain ⟨m1, m2, m3⟩ := far_err h0 hm (s := 0) (t := y) (.inl rfl)
    obtain ⟨n1, n2, n3⟩ := far_err h0 hm (s := 1) (t := y) (.inr rfl)
    have k6 := fun h' sv' hs' => refCheckMotion_ok h' lo hi l sv' (farA 0 lo hi l y) hl hs'
    have k7 := fun h' sv' hs' => refCheckMotion_ok h' lo hi l sv' (farA 1 lo hi l y) hl hs'
    have k8 := fun h' => at_ok h' (farA 0 lo hi l y) y m2 m3 hy
    have k9 := fun h' => at_ok h' (farA 1 lo hi l y) y n2 n3 hy
    rw [m1] at k6
    rw [n1] at k7
    rw [e4] at k3
    rw [e3] at k4 k5
    rw [e5] at k1
    rw [e6]
    have s0 : sideN false = 0 := rfl
    have s1 : sideN true = 1 := rfl
    rw [s0] at k4
    rw [s1] at k5
    clear m1 m2 m3 n1 n2 n3 e1 e2 e3 e4 e5 e6 s0 s1 ole
    generalize plcQ (farA 0 lo hi l y) y = A at *
    generalize plcQ (farA 1 lo hi l y) y = B at *
    generalize farA 0 lo hi l y = u at *
    generalize farA 1 lo hi l y = w at *
    generalize loQ lo hi l = P at *
    generalize hiQ lo hi l = Q at *
    have z1 : ∀ h', CallOk Try.prog 88 [qV P] h' (.bool true) h' := fun h' => by have := small_ok h' P; rwa [smallB_of2 la.1 la.2] at this
    have z2 : ∀ h', CallOk Try.prog 88 [qV Q] h' (.bool true) h' := fun h' => by have := small_ok h' Q; rwa [smallB_of2 lb.1 lb.2] at this
    have z3 : ∀ h', CallOk Try.prog 88 [qV A] h' (.bool true) h' := fun h' => by have := small_ok h' A; rwa [smallB_of oa] at this
    have z4 : ∀ h', CallOk Try.prog 88 [qV B] h' (.bool true) h' := fun h' => by have := small_ok h' B; rwa [smallB_of ob] at this
    have z5 : ∀ h', CallOk Try.prog 46 [qV Q, qV P] h' (.bool false) h' := fun h' => by have := refLess_ok h' Q.1 Q.2 P.1 P.2 (InR_mul lb.1 la.2) (InR_mul la.1 lb.2); rwa [decide_eq_false hlt1] at this
    have z6 : ∀ h', CallOk Try.prog 46 [qV B, qV A] h' (.bool false) h' := fun h' => by have := refLess_ok h' B.1 B.2 A.1 A.2 (InR_mul6 ob.n oa.d) (InR_mul6 oa.n ob.d); rwa [decide_eq_false hlt2] at this
    (conv => whnf); (repeat' (first | ((with_reducible refine ifb_mk (fun hc => ?_) (fun hc => ?_)) <;> ((try simp only [decide_eq_true_eq, decide_eq_false_iff_not, Bool.not_eq_true', Bool.not_eq_false', Int.not_lt, Int.not_le, ne_eq, Decidable.not_not, beq_iff_eq, List.cons.injEq, and_true] at hc); (first | (exfalso; omega) | conv => whnf))) | ((with_reducible refine And.intro True.intro ?_); conv => whnf) | ((with_reducible refine grd_slow ?_); refine som_mk (a := ?_) ?hh ?_; (case hh => exact slow_eql_self q2 [_, _]); conv => whnf) | ((with_reducible refine CallX.all ?_); refine CallW.of_ok (k1 _ _ (SlC.own rfl)) ?_; conv => whnf) | ((with_reducible refine CallX.all ?_); refine CallW.of_ok (k3 _ _ (SlC.own rfl)) ?_; conv => whnf) | ((with_reducible refine CallX.all ?_); refine CallW.of_ok (k4 _ _ (SlC.own rfl)) ?_; conv => whnf) | ((with_reducible refine CallX.all ?_); refine CallW.of_ok (k5 _ _ (SlC.own rfl)) ?_; conv => whnf) | ((with_reducible refine CallX.all ?_); refine CallW.of_ok (z1 _) ?_; conv => whnf) | ((with_reducible refine CallX.all ?_); refine CallW.of_ok (z2 _) ?_; conv => whnf) | ((with_reducible refine CallX.all ?_); refine CallW.of_ok (z3 _) ?_; conv => whnf) | ((with_reducible refine CallX.all ?_); refine CallW.of_ok (z4 _) ?_; conv => whnf) | ((with_reducible refine CallX.all ?_); refine CallW.of_ok (z5 _) ?_; conv => whnf) | ((with_reducible refine CallX.all ?_); refine CallW.of_ok (z6 _) ?_; conv => whnf) | ((with_reducible refine CallX.all ?_); refine CallW.of_ok (k6 _ _ (SlC.own rfl)) ?_; conv => whnf) | ((with_reducible refine CallX.all ?_); refine CallW.of_ok (k7 _ _ (SlC.own rfl)) ?_; conv => whnf) | ((with_reducible refine WpR.draw (id := 10) mixed [0, 1, 2, 3, 4, 5, 7, 6, 8, 9, 10, 11, 12, 14, 13, 15, 16, 17, 18, 19] [0, 0, 0, 4, 12, 12, 60, 12, 252, 508, 1020, 2044, 2044, 8188, 2044, 32764, 65532, 16381, 147455, 524287] ?hh ?_); (case hh => kernel_rfl); conv => whnf) | ((with_reducible refine grd_ex ?_); refine ex_ok (k8 _) ?_; conv => whnf) | ((with_reducible refine grd_ex ?_); refine ex_ok (k9 _) ?_; conv => whnf) | ((with_reducible refine And.intro ?hh ?_); (case hh => (unfold InR; (try dsimp only); omega)); conv => whnf) | ((with_reducible refine And.intro ?hh ?_); (case hh => ((try dsimp only); omega)); conv => whnf) | ((with_reducible refine And.intro ?hh ?_); (case hh => ((conv => whnf); (repeat' (first | exact True.intro | rfl | refine And.intro ?_ ?_)); done)); conv => whnf) | fail))
    all_goals (first | (exfalso; omega) | (refine ⟨[], ?_, rfl, rfl, trivial, (by (repeat' (first | exact True.intro | rfl | refine And.intro ?_ ?_)))⟩; simp only [renV, renL]; (first | done | rfl | simp | grind)))
  | false =>
    have e1 : staErr lo hi l = 17 := by unfold staErr; rw [if_pos h0, hm]; rfl
    have e2 : plErr lo hi l y = 17 := by unfold plErr; rw [if_pos h0, if_pos hy]; exact e1
    have e4 : plcA lo hi l y = (((0, 0), (0, 0)), 17) := by unfold plcA; rw [if_neg (by omega), e2]
    have e5 : rateA lo hi l = (((0, 0), (0, 0)), 17) := by unfold rateA; rw [if_neg (by omega), e1]
    have e6 : endsA lo hi l y = ((((0, 0), (0, 0)), ((0, 0), (0, 0))), 17) := by unfold endsA; rw [hm]; rfl
    rw [e4] at k3
    rw [e5] at k1
    rw [e6]
    (conv => whnf); (repeat' (first | ((with_reducible refine ifb_mk (fun hc => ?_) (fun hc => ?_)) <;> ((try simp only [decide_eq_true_eq, decide_eq_false_iff_not, Bool.not_eq_true', Bool.not_eq_false', Int.not_lt, Int.not_le, ne_eq, Decidable.not_not, beq_iff_eq, List.cons.injEq, and_true] at hc); (first | (exfalso; omega) | conv => whnf))) | ((with_reducible refine And.intro True.intro ?_); conv => whnf) | ((with_reducible refine CallX.all ?_); refine CallW.of_ok (k1 _ _ (SlC.own rfl)) ?_; conv => whnf) | ((with_reducible refine CallX.all ?_); refine CallW.of_ok (k3 _ _ (SlC.own rfl)) ?_; conv => whnf) | ((with_reducible refine And.intro ?hh ?_); (case hh => (unfold InR; (try dsimp only); omega)); conv => whnf) | ((with_reducible refine And.intro ?hh ?_); (case hh => ((try dsimp only); omega)); conv => whnf) | ((with_reducible refine And.intro ?hh ?_); (case hh => ((conv => whnf); (repeat' (first | exact True.intro | rfl | refine And.intro ?_ ?_)); done)); conv => whnf) | fail))
    all_goals (first | (exfalso; omega) | (refine ⟨[], ?_, rfl, rfl, trivial, (by (repeat' (first | exact True.intro | rfl | refine And.intro ?_ ?_)))⟩; simp only [renV, renL]; (first | done | rfl | simp | grind)))
end Go.Proofs.D

namespace Go.Proofs.D
open Go.As
set_option maxRecDepth 20000
set_option linter.unusedVariables false
set_option linter.unusedSimpArgs false

theorem year_bd {yr : Int} (h : 0 ≤ yr ∧ yr ≤ 255) : 0 ≤ (IntKind.i64.wrap yr).tmod 201 ∧ (IntKind.i64.wrap yr).tmod 201 ≤ 200 := by
  obtain ⟨n, rfl⟩ : ∃ n : Nat, yr = n := ⟨yr.toNat, by omega⟩
  have hw : IntKind.i64.wrap (n : Int) = (n : Int) := wrap_in (by show Nat.ble n 9223372036854775807 = true; rw [Nat.ble_eq]; omega)
  rw [hw]
  have := Int.tmod_nonneg 201 h.1
  have := Int.tmod_lt_of_pos (n : Int) (show (0 : Int) < 201 by decide)
  omega

set_option maxHeartbeats 1000000 in
theorem driftEither_ok (hw : ∀ h, CallOk Try.prog 16 [] h (.bool true) h) (h : H) (lo hi : Int) (l : List E) (sv : V) (yr : Int) (hyr : 0 ≤ yr ∧ yr ≤ 255) (m : Mo) (hl : l.length ≤ 9223372036854775807) (hs : SlC h (entVs l) l.length sv) :
    CallOk Try.prog 7 [starV lo hi sv, .int .u8 yr, .agg (bL m)] h (.bool true) h := by
  obtain ⟨vo, svC, hsv, hca, hvw⟩ := hs.view 0
  have p2 : eqOk Try.prog 40 2 = true := by kernel_rfl
  refine CallOk.run Try.func7 rfl rfl (argsC := [starV lo hi svC, .int .u8 yr, .agg (bL m)]) (Nat.le_of_ble_eq_true rfl) [vo] (.cons (CaL.agg (.cons (.bare rfl) (.cons (.bare rfl) (.cons (hca _ rfl) .nil)))) (CaL.lt0 rfl)) (viewMc1 entVs_bare hvw) rfl (WpR.of_vc ?_)
  have hBare := @entVs_bare l
  have k0 := fun h' sv' hs' => fine_ok h' lo hi l sv' hl hs'
  cases hsv with
  | nil h0 =>
    have e1 : starErr lo hi l = 6 := by unfold starErr; rw [if_pos (by omega)]
    rw [decide_eq_false (by omega)] at k0
    (conv => whnf); (repeat' (first | ((with_reducible refine ifb_mk (fun hc => ?_) (fun hc => ?_)) <;> ((try simp only [decide_eq_true_eq, decide_eq_false_iff_not, Bool.not_eq_true', Bool.not_eq_false', Int.not_lt, Int.not_le, ne_eq, Decidable.not_not, beq_iff_eq, List.cons.injEq, and_true] at hc); (first | (exfalso; omega) | conv => whnf))) | ((with_reducible refine And.intro True.intro ?_); conv => whnf) | ((with_reducible refine CallX.all ?_); refine CallW.of_ok (k0 _ _ (SlC.none h0)) ?_; conv => whnf) | ((with_reducible refine CallX.all ?_); refine CallW.of_ok (hw _) ?_; conv => whnf) | ((with_reducible refine And.intro ?hh ?_); (case hh => (unfold InR; (try dsimp only); omega)); conv => whnf) | ((with_reducible refine And.intro ?hh ?_); (case hh => ((try dsimp only); omega)); conv => whnf) | ((with_reducible refine And.intro ?hh ?_); (case hh => ((conv => whnf); (repeat' (first | exact True.intro | rfl | refine And.intro ?_ ?_)); done)); conv => whnf) | fail))
    all_goals (refine ⟨[], ?_, rfl, rfl, trivial, (by (repeat' (first | exact True.intro | rfl | refine And.intro ?_ ?_)))⟩; simp only [renV, renL]; (first | done | rfl | simp | grind))
  | @sl cap ex =>
    by_cases h0 : starErr lo hi l = 0
    · rw [decide_eq_true h0] at k0
      have hS := starErr_ok h0
      have hy := year_bd hyr
      obtain ⟨Y, hY⟩ : ∃ Y, Y = (IntKind.i64.wrap yr).tmod 201 := ⟨_, rfl⟩
      rw [← hY] at hy
      have k1 := fun h' sv' hs' => ends_ok h' lo hi l h0 sv' Y hy hl hs'
      have k2 := fun h' sv' hs' => clashF_ok h' lo hi l sv' hl hs'
      have k3 := fun h' sv' hs' => checkMotion_ok h' lo hi l sv' m hl hs'
      have k4 := fun h' sv' hs' => refCheckMotion_ok h' lo hi l sv' m hl hs'
      cases hm : hasM lo hi l with
      | true =>
        have e6 : endsA lo hi l Y = (((loQ lo hi l, hiQ lo hi l), (plcQ (farA 0 lo hi l Y) Y, plcQ (farA 1 lo hi l Y) Y)), 0) := by unfold endsA; rw [hm]; rfl
        have e7 : clashR lo hi l = 5 := by unfold clashR; rw [if_pos h0, hm]; rfl
        obtain ⟨Z, hZ⟩ : ∃ Z : Int × Int, Z = (0, 0) := ⟨_, rfl⟩
        rw [e6] at k1
        rw [e7, if_neg (by decide), if_neg (by decide), ← hZ] at k2
        generalize motErr lo hi l m = e at k3 k4
        rw [hY] at k1 hy
        clear e6 e7
        (conv => whnf); (repeat' (first | ((with_reducible refine ifb_mk (fun hc => ?_) (fun hc => ?_)) <;> ((try simp only [decide_eq_true_eq, decide_eq_false_iff_not, Bool.not_eq_true', Bool.not_eq_false', Int.not_lt, Int.not_le, ne_eq, Decidable.not_not, beq_iff_eq, List.cons.injEq, and_true] at hc); (first | (exfalso; omega) | conv => whnf))) | ((with_reducible refine And.intro True.intro ?_); conv => whnf) | ((with_reducible refine CallX.all ?_); refine CallW.of_ok (k0 _ _ (SlC.own rfl)) ?_; conv => whnf) | ((with_reducible refine CallX.all ?_); refine CallW.of_ok (hw _) ?_; conv => whnf) | ((with_reducible refine CallX.all ?_); refine CallW.of_ok (k1 _ _ (SlC.own rfl)) ?_; conv => whnf) | ((with_reducible refine CallX.all ?_); refine CallW.of_ok (k2 _ _ (SlC.own rfl)) ?_; conv => whnf) | ((with_reducible refine CallX.all ?_); refine CallW.of_ok (k3 _ _ (SlC.own rfl)) ?_; conv => whnf) | ((with_reducible refine CallX.all ?_); refine CallW.of_ok (k4 _ _ (SlC.own rfl)) ?_; conv => whnf) | ((with_reducible refine grd_slow ?_); refine som_mk (a := ?_) ?hh ?_; (case hh => exact slow_eql p2 [Z.1, Z.2] [0, 0]); conv => whnf) | ((with_reducible refine And.intro ?hh ?_); (case hh => (unfold InR; (try dsimp only); omega)); conv => whnf) | ((with_reducible refine And.intro ?hh ?_); (case hh => ((try dsimp only); omega)); conv => whnf) | ((with_reducible refine And.intro ?hh ?_); (case hh => ((conv => whnf); (repeat' (first | exact True.intro | rfl | refine And.intro ?_ ?_)); done)); conv => whnf) | fail))
        all_goals (first | (exfalso; exact hc trivial) | (exfalso; apply hc; rw [hZ]; exact ⟨rfl, rfl⟩) | (exfalso; omega) | (refine ⟨[], ?_, rfl, rfl, trivial, (by (repeat' (first | exact True.intro | rfl | refine And.intro ?_ ?_)))⟩; simp only [renV, renL]; (first | done | rfl | simp | grind)))
      | false =>
        have e6 : endsA lo hi l Y = ((((0, 0), (0, 0)), ((0, 0), (0, 0))), 17) := by unfold endsA; rw [hm]; rfl
        have e7 : clashR lo hi l = 0 := by unfold clashR; rw [if_pos h0, hm]; rfl
        obtain ⟨hc5, _, _⟩ := clash_chk e7
        have k5 := fun h' sv' hs' => checkClash_ok h' lo hi l sv' (tgt lo hi l 0) (tgt lo hi l 1) hl hs'
        have k6 := fun h' sv' hs' => refCheckClash_ok h' lo hi l sv' (tgt lo hi l 0) (tgt lo hi l 1) hl hs'
        have hne : motErr lo hi l m ≠ 0 := fun hc => by have := mot_has (mot_in hc); rw [hm] at this; cases this
        rw [e6] at k1
        rw [e7, if_pos rfl, if_pos rfl] at k2
        rw [hc5] at k5 k6
        clear e6 e7 hc5
        generalize motErr lo hi l m = e at k3 k4 hne
        generalize tgt lo hi l 0 = P at *
        generalize tgt lo hi l 1 = Q at *
        rw [hY] at k1 hy
        (conv => whnf); (repeat' (first | ((with_reducible refine ifb_mk (fun hc => ?_) (fun hc => ?_)) <;> ((try simp only [decide_eq_true_eq, decide_eq_false_iff_not, Bool.not_eq_true', Bool.not_eq_false', Int.not_lt, Int.not_le, ne_eq, Decidable.not_not, beq_iff_eq, List.cons.injEq, and_true] at hc); (first | (exfalso; omega) | conv => whnf))) | ((with_reducible refine And.intro True.intro ?_); conv => whnf) | ((with_reducible refine CallX.all ?_); refine CallW.of_ok (k0 _ _ (SlC.own rfl)) ?_; conv => whnf) | ((with_reducible refine CallX.all ?_); refine CallW.of_ok (hw _) ?_; conv => whnf) | ((with_reducible refine CallX.all ?_); refine CallW.of_ok (k1 _ _ (SlC.own rfl)) ?_; conv => whnf) | ((with_reducible refine CallX.all ?_); refine CallW.of_ok (k2 _ _ (SlC.own rfl)) ?_; conv => whnf) | ((with_reducible refine CallX.all ?_); refine CallW.of_ok (k3 _ _ (SlC.own rfl)) ?_; conv => whnf) | ((with_reducible refine CallX.all ?_); refine CallW.of_ok (k4 _ _ (SlC.own rfl)) ?_; conv => whnf) | ((with_reducible refine CallX.all ?_); refine CallW.of_ok (k5 _ _ (SlC.own rfl)) ?_; conv => whnf) | ((with_reducible refine CallX.all ?_); refine CallW.of_ok (k6 _ _ (SlC.own rfl)) ?_; conv => whnf) | ((with_reducible refine And.intro ?hh ?_); (case hh => (unfold InR; (try dsimp only); omega)); conv => whnf) | ((with_reducible refine And.intro ?hh ?_); (case hh => ((try dsimp only); omega)); conv => whnf) | ((with_reducible refine And.intro ?hh ?_); (case hh => ((conv => whnf); (repeat' (first | exact True.intro | rfl | refine And.intro ?_ ?_)); done)); conv => whnf) | fail))
        all_goals (first | (exfalso; exact hc trivial) | (exfalso; omega) | (refine ⟨[], ?_, rfl, rfl, trivial, (by (repeat' (first | exact True.intro | rfl | refine And.intro ?_ ?_)))⟩; simp only [renV, renL]; (first | done | rfl | simp | grind)))
    · rw [decide_eq_false h0] at k0
      (conv => whnf); (repeat' (first | ((with_reducible refine ifb_mk (fun hc => ?_) (fun hc => ?_)) <;> ((try simp only [decide_eq_true_eq, decide_eq_false_iff_not, Bool.not_eq_true', Bool.not_eq_false', Int.not_lt, Int.not_le, ne_eq, Decidable.not_not, beq_iff_eq, List.cons.injEq, and_true] at hc); (first | (exfalso; omega) | conv => whnf))) | ((with_reducible refine And.intro True.intro ?_); conv => whnf) | ((with_reducible refine CallX.all ?_); refine CallW.of_ok (k0 _ _ (SlC.own rfl)) ?_; conv => whnf) | ((with_reducible refine CallX.all ?_); refine CallW.of_ok (hw _) ?_; conv => whnf) | ((with_reducible refine And.intro ?hh ?_); (case hh => (unfold InR; (try dsimp only); omega)); conv => whnf) | ((with_reducible refine And.intro ?hh ?_); (case hh => ((try dsimp only); omega)); conv => whnf) | ((with_reducible refine And.intro ?hh ?_); (case hh => ((conv => whnf); (repeat' (first | exact True.intro | rfl | refine And.intro ?_ ?_)); done)); conv => whnf) | fail))
      all_goals (refine ⟨[], ?_, rfl, rfl, trivial, (by (repeat' (first | exact True.intro | rfl | refine And.intro ?_ ?_)))⟩; simp only [renV, renL]; (first | done | rfl | simp | grind))
end Go.Proofs.D

namespace Go.Proofs.D
open Go.As
set_option maxRecDepth 20000
set_option linter.unusedVariables false
set_option linter.unusedSimpArgs false

/-! ### Midway between two years -/

def openQ (a b : Int × Int) : Int × Int := fr (b.1 * a.2 - a.1 * b.2) (b.2 * a.2)
structure OkW (x : Int × Int) : Prop where
  n : 0 ≤ x.1 ∧ x.1 ≤ 2400000000
  d : 1 ≤ x.2 ∧ x.2 ≤ 40000

structure AbvP (vq vr uq ur wq wr v2 u2 w2 : Int) : Prop where
  le : (2 * vq - uq - wq) * v2 * u2 * w2 + (2 * vr * u2 * w2 - ur * v2 * w2 - wr * v2 * u2) ≤ 0
  top : 2 * vq - uq - wq ≤ 1

end Go.Proofs.D

namespace Go.Proofs.D
open Go.As
set_option maxRecDepth 20000
set_option linter.unusedVariables false
set_option linter.unusedSimpArgs false

/-- What the law compares. -/
structure MidOk (lo hi : Int) (l : List E) (x y z : Int) : Prop where
  a : EndsOk lo hi l x
  b : EndsOk lo hi l y
  c : EndsOk lo hi l z
  le : 2 * (openQ (plcQ (farA 0 lo hi l y) y) (plcQ (farA 1 lo hi l y) y)).1 * (openQ (plcQ (farA 0 lo hi l x) x) (plcQ (farA 1 lo hi l x) x)).2 * (openQ (plcQ (farA 0 lo hi l z) z) (plcQ (farA 1 lo hi l z) z)).2 ≤ (openQ (plcQ (farA 0 lo hi l x) x) (plcQ (farA 1 lo hi l x) x)).1 * (openQ (plcQ (farA 0 lo hi l y) y) (plcQ (farA 1 lo hi l y) y)).2 * (openQ (plcQ (farA 0 lo hi l z) z) (plcQ (farA 1 lo hi l z) z)).2 + (openQ (plcQ (farA 0 lo hi l z) z) (plcQ (farA 1 lo hi l z) z)).1 * (openQ (plcQ (farA 0 lo hi l y) y) (plcQ (farA 1 lo hi l y) y)).2 * (openQ (plcQ (farA 0 lo hi l x) x) (plcQ (farA 1 lo hi l x) x)).2

end Go.Proofs.D

namespace Go.Proofs.D
open Go.As
set_option maxRecDepth 20000
set_option linter.unusedVariables false
set_option linter.unusedSimpArgs false

/-- A star whose bounds are those of another one, turned round. -/
structure Opp (lo hi lo' hi' : Int) (l l' : List E) : Prop where
  ok : OkS lo hi l
  ok' : OkS lo' hi' l'
  el : rq (loQ lo' hi' l') = -rq (hiQ lo hi l)
  eh : rq (hiQ lo' hi' l') = -rq (loQ lo hi l)

end Go.Proofs.D

namespace Go.Proofs.D
open Go.As
set_option maxRecDepth 20000
set_option linter.unusedVariables false
set_option linter.unusedSimpArgs false

end Go.Proofs.D

namespace Go.Proofs.D
open Go.As
set_option maxRecDepth 20000
set_option linter.unusedVariables false
set_option linter.unusedSimpArgs false

end Go.Proofs.D

