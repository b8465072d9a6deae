/- What the functions answer that the laws call, one after another, part 3. -/
import Derived.Test.YtcfblgemkgijmaaOwn2

set_option linter.unusedVariables false
namespace Go.Proofs.D
open Go.As
set_option maxRecDepth 20000
set_option linter.unusedVariables false
set_option linter.unusedSimpArgs false

/-- What CheckClash says. -/
def chkC (lo hi : Int) (l : List E) (p q : Int × Int) : Int :=
  if starErr lo hi l = 0 then (if isPairB l.length p.1 p.2 && isPairB l.length q.1 q.2 then (if (bndOf lo hi l q).2.1 * (bndOf lo hi l p).1.2 < (bndOf lo hi l p).1.1 * (bndOf lo hi l q).2.2 then 0 else 14) else 2) else starErr lo hi l

theorem chkC_eq {lo hi : Int} {l : List E} {p q : Int × Int} (h : starErr lo hi l = 0) : chkC lo hi l p q = if isPairB l.length p.1 p.2 && isPairB l.length q.1 q.2 then (if (bndOf lo hi l q).2.1 * (bndOf lo hi l p).1.2 < (bndOf lo hi l p).1.1 * (bndOf lo hi l q).2.2 then 0 else 14) else 2 := by
  unfold chkC; rw [if_pos h]
theorem chkB_bad {lo hi : Int} {l : List E} {high : Bool} {i j : Int} (h : starErr lo hi l ≠ 0) : chkB lo hi l high i j = ((0, 0), starErr lo hi l) := by unfold chkB; rw [if_neg h]
theorem chkB_arg {lo hi : Int} {l : List E} {high : Bool} {i j : Int} (h : starErr lo hi l = 0) (hp : isPairB l.length i j = false) : chkB lo hi l high i j = ((0, 0), 2) := by unfold chkB; rw [if_pos h, hp]; rfl
theorem chkB_good {lo hi : Int} {l : List E} {high : Bool} {i j : Int} (h : starErr lo hi l = 0) (hp : isPairB l.length i j = true) : chkB lo hi l high i j = (sideB (sideN high) (bndOf lo hi l (i, j)), 0) := by unfold chkB; rw [if_pos h, hp]; rfl

theorem sideB_lo (b : Bd) : sideB (sideN false) b = b.1 := rfl
theorem sideB_hi (b : Bd) : sideB (sideN true) b = b.2 := rfl

theorem checkClash_ok (h : H) (lo hi : Int) (l : List E) (sv : V) (p q : Int × Int) (hl : l.length ≤ 9223372036854775807) (hs : SlC h (entVs l) l.length sv) :
    CallOk Try.prog 25 [starV lo hi sv, pV p, pV q] h (.int .i64 (chkC lo hi l p q)) h := by
  obtain ⟨vo, svC, hsv, hca, hvw⟩ := hs.view 0
  refine CallOk.run Try.func25 rfl rfl (argsC := [starV lo hi svC, pV p, pV q]) (Nat.le_of_ble_eq_true rfl) [vo] (.cons (CaL.agg (.cons (.bare rfl) (.cons (.bare rfl) (.cons (hca _ rfl) .nil)))) (CaL.lt0 rfl)) (viewMc1 entVs_bare hvw) rfl (WpR.of_vc ?_)
  have hBare := @entVs_bare l
  cases hsv with
  | nil h0 =>
    have e1 : starErr lo hi l = 6 := by unfold starErr; rw [if_pos (by omega)]
    have k0 := fun h' i j => checkBound_ok h' lo hi l .nils false i j hl (SlC.none h0)
    simp only [chkB_bad (lo := lo) (hi := hi) (l := l) (by omega : starErr lo hi l ≠ 0)] at k0
    (conv => whnf); (repeat' (first | ((with_reducible refine ifb_mk (fun hc => ?_) (fun hc => ?_)) <;> ((try simp only [decide_eq_true_eq, decide_eq_false_iff_not, Bool.not_eq_true', Bool.not_eq_false', Int.not_lt, Int.not_le, ne_eq, Decidable.not_not, beq_iff_eq, List.cons.injEq, and_true] at hc); (first | (exfalso; omega) | conv => whnf))) | ((with_reducible refine And.intro True.intro ?_); conv => whnf) | ((with_reducible refine CallX.all ?_); refine CallW.of_ok (k0 _ _ _) ?_; conv => whnf) | ((with_reducible refine And.intro ?hh ?_); (case hh => (unfold InR; (try dsimp only); omega)); conv => whnf) | ((with_reducible refine And.intro ?hh ?_); (case hh => ((try dsimp only); omega)); conv => whnf) | ((with_reducible refine And.intro ?hh ?_); (case hh => ((conv => whnf); (repeat' (first | exact True.intro | rfl | refine And.intro ?_ ?_)); done)); conv => whnf) | fail))
    all_goals (refine ⟨[], ?_, rfl, rfl, trivial, (by (repeat' (first | exact True.intro | rfl | refine And.intro ?_ ?_)))⟩; simp only [renV, renL]; grind [chkC])
  | @sl cap ex =>
  have k0 := fun (h' : H) sv' hs' => checkBound_ok h' lo hi l sv' false p.1 p.2 hl hs'
  have k1 := fun h' sv' hs' => checkBound_ok h' lo hi l sv' true q.1 q.2 hl hs'
  by_cases hc : starErr lo hi l = 0
  · have hS := starErr_ok hc
    have e1 := chkC_eq hc (p := p) (q := q)
    cases hp : isPairB l.length p.1 p.2 with
    | false =>
      simp only [chkB_arg hc hp] at k0
      (conv => whnf); (repeat' (first | ((with_reducible refine ifb_mk (fun hc => ?_) (fun hc => ?_)) <;> ((try simp only [decide_eq_true_eq, decide_eq_false_iff_not, Bool.not_eq_true', Bool.not_eq_false', Int.not_lt, Int.not_le, ne_eq, Decidable.not_not, beq_iff_eq, List.cons.injEq, and_true] at hc); (first | (exfalso; omega) | conv => whnf))) | ((with_reducible refine And.intro True.intro ?_); conv => whnf) | ((with_reducible refine CallX.all ?_); refine CallW.of_ok (k0 _ _ (SlC.own rfl)) ?_; conv => whnf) | ((with_reducible refine And.intro ?hh ?_); (case hh => (unfold InR; (try dsimp only); omega)); conv => whnf) | ((with_reducible refine And.intro ?hh ?_); (case hh => ((try dsimp only); omega)); conv => whnf) | ((with_reducible refine And.intro ?hh ?_); (case hh => ((conv => whnf); (repeat' (first | exact True.intro | rfl | refine And.intro ?_ ?_)); done)); conv => whnf) | fail))
      all_goals (refine ⟨[], ?_, rfl, rfl, trivial, (by (repeat' (first | exact True.intro | rfl | refine And.intro ?_ ?_)))⟩; simp only [renV, renL]; grind)
    | true =>
      simp only [chkB_good hc hp, sideB_lo] at k0
      cases hq : isPairB l.length q.1 q.2 with
      | false =>
        simp only [chkB_arg hc hq] at k1
        (conv => whnf); (repeat' (first | ((with_reducible refine ifb_mk (fun hc => ?_) (fun hc => ?_)) <;> ((try simp only [decide_eq_true_eq, decide_eq_false_iff_not, Bool.not_eq_true', Bool.not_eq_false', Int.not_lt, Int.not_le, ne_eq, Decidable.not_not, beq_iff_eq, List.cons.injEq, and_true] at hc); (first | (exfalso; omega) | conv => whnf))) | ((with_reducible refine And.intro True.intro ?_); conv => whnf) | ((with_reducible refine CallX.all ?_); refine CallW.of_ok (k0 _ _ (SlC.own rfl)) ?_; conv => whnf) | ((with_reducible refine CallX.all ?_); refine CallW.of_ok (k1 _ _ (SlC.own rfl)) ?_; conv => whnf) | ((with_reducible refine And.intro ?hh ?_); (case hh => (unfold InR; (try dsimp only); omega)); conv => whnf) | ((with_reducible refine And.intro ?hh ?_); (case hh => ((try dsimp only); omega)); conv => whnf) | ((with_reducible refine And.intro ?hh ?_); (case hh => ((conv => whnf); (repeat' (first | exact True.intro | rfl | refine And.intro ?_ ?_)); done)); conv => whnf) | fail))
        all_goals (refine ⟨[], ?_, rfl, rfl, trivial, (by (repeat' (first | exact True.intro | rfl | refine And.intro ?_ ?_)))⟩; simp only [renV, renL]; grind)
      | true =>
        simp only [chkB_good hc hq, sideB_hi] at k1
        obtain ⟨o1, o2, _, _⟩ := bndOf_bd hS (isPairB_mem.1 hp)
        obtain ⟨_, _, o3, o4⟩ := bndOf_bd hS (isPairB_mem.1 hq)
        (conv => whnf); (repeat' (first | ((with_reducible refine ifb_mk (fun hc => ?_) (fun hc => ?_)) <;> ((try simp only [decide_eq_true_eq, decide_eq_false_iff_not, Bool.not_eq_true', Bool.not_eq_false', Int.not_lt, Int.not_le, ne_eq, Decidable.not_not, beq_iff_eq, List.cons.injEq, and_true] at hc); (first | (exfalso; omega) | conv => whnf))) | ((with_reducible refine And.intro True.intro ?_); conv => whnf) | ((with_reducible refine CallX.all ?_); refine CallW.of_ok (k0 _ _ (SlC.own rfl)) ?_; conv => whnf) | ((with_reducible refine CallX.all ?_); refine CallW.of_ok (k1 _ _ (SlC.own rfl)) ?_; conv => whnf) | ((with_reducible refine CallX.all ?_); refine CallW.of_ok (compare_ok _ _ _ _ _ (InR_mul o1 o4) (InR_mul o3 o2)) ?_; conv => whnf) | ((with_reducible refine And.intro ?hh ?_); (case hh => (unfold InR; (try dsimp only); omega)); conv => whnf) | ((with_reducible refine And.intro ?hh ?_); (case hh => ((try dsimp only); omega)); conv => whnf) | ((with_reducible refine And.intro ?hh ?_); (case hh => ((conv => whnf); (repeat' (first | exact True.intro | rfl | refine And.intro ?_ ?_)); done)); conv => whnf) | fail))
        all_goals (refine ⟨[], ?_, rfl, rfl, trivial, (by (repeat' (first | exact True.intro | rfl | refine And.intro ?_ ?_)))⟩; simp only [renV, renL]; grind [cmp3])
  · simp only [chkB_bad hc] at k0
    (conv => whnf); (repeat' (first | ((with_reducible refine ifb_mk (fun hc => ?_) (fun hc => ?_)) <;> ((try simp only [decide_eq_true_eq, decide_eq_false_iff_not, Bool.not_eq_true', Bool.not_eq_false', Int.not_lt, Int.not_le, ne_eq, Decidable.not_not, beq_iff_eq, List.cons.injEq, and_true] at hc); (first | (exfalso; omega) | conv => whnf))) | ((with_reducible refine And.intro True.intro ?_); conv => whnf) | ((with_reducible refine CallX.all ?_); refine CallW.of_ok (k0 _ _ (SlC.own rfl)) ?_; conv => whnf) | ((with_reducible refine And.intro ?hh ?_); (case hh => (unfold InR; (try dsimp only); omega)); conv => whnf) | ((with_reducible refine And.intro ?hh ?_); (case hh => ((try dsimp only); omega)); conv => whnf) | ((with_reducible refine And.intro ?hh ?_); (case hh => ((conv => whnf); (repeat' (first | exact True.intro | rfl | refine And.intro ?_ ?_)); done)); conv => whnf) | fail))
    all_goals (refine ⟨[], ?_, rfl, rfl, trivial, (by (repeat' (first | exact True.intro | rfl | refine And.intro ?_ ?_)))⟩; simp only [renV, renL]; grind [chkC])

theorem refCheckClash_ok (h : H) (lo hi : Int) (l : List E) (sv : V) (p q : Int × Int) (hl : l.length ≤ 9223372036854775807) (hs : SlC h (entVs l) l.length sv) :
    CallOk Try.prog 26 [starV lo hi sv, pV p, pV q] h (.int .i64 (chkC lo hi l p q)) h := by
  obtain ⟨vo, svC, hsv, hca, hvw⟩ := hs.view 0
  refine CallOk.run Try.func26 rfl rfl (argsC := [starV lo hi svC, pV p, pV q]) (Nat.le_of_ble_eq_true rfl) [vo] (.cons (CaL.agg (.cons (.bare rfl) (.cons (.bare rfl) (.cons (hca _ rfl) .nil)))) (CaL.lt0 rfl)) (viewMc1 entVs_bare hvw) rfl (WpR.of_vc ?_)
  have hBare := @entVs_bare l
  cases hsv with
  | nil h0 =>
    have e1 : starErr lo hi l = 6 := by unfold starErr; rw [if_pos (by omega)]
    (conv => whnf); (repeat' (first | ((with_reducible refine ifb_mk (fun hc => ?_) (fun hc => ?_)) <;> ((try simp only [decide_eq_true_eq, decide_eq_false_iff_not, Bool.not_eq_true', Bool.not_eq_false', Int.not_lt, Int.not_le, ne_eq, Decidable.not_not, beq_iff_eq, List.cons.injEq, and_true] at hc); (first | (exfalso; omega) | conv => whnf))) | ((with_reducible refine And.intro True.intro ?_); conv => whnf) | ((with_reducible refine CallX.all ?_); refine CallW.of_ok (refCheckStar_ok _ lo hi l _ hl (SlC.none h0)) ?_; conv => whnf) | ((with_reducible refine And.intro ?hh ?_); (case hh => (unfold InR; (try dsimp only); omega)); conv => whnf) | ((with_reducible refine And.intro ?hh ?_); (case hh => ((try dsimp only); omega)); conv => whnf) | ((with_reducible refine And.intro ?hh ?_); (case hh => ((conv => whnf); (repeat' (first | exact True.intro | rfl | refine And.intro ?_ ?_)); done)); conv => whnf) | fail))
    all_goals (refine ⟨[], ?_, rfl, rfl, trivial, (by (repeat' (first | exact True.intro | rfl | refine And.intro ?_ ?_)))⟩; simp only [renV, renL]; grind [chkC])
  | @sl cap ex =>
  (conv => whnf); (repeat' (first | ((with_reducible refine ifb_mk (fun hc => ?_) (fun hc => ?_)) <;> ((try simp only [decide_eq_true_eq, decide_eq_false_iff_not, Bool.not_eq_true', Bool.not_eq_false', Int.not_lt, Int.not_le, ne_eq, Decidable.not_not, beq_iff_eq, List.cons.injEq, and_true] at hc); (first | (exfalso; omega) | conv => whnf))) | ((with_reducible refine And.intro True.intro ?_); conv => whnf) | ((with_reducible refine CallX.all ?_); refine CallW.of_ok (refCheckStar_ok _ lo hi l _ hl (SlC.own rfl)) ?_; conv => whnf) | ((with_reducible refine And.intro ?hh ?_); (case hh => (unfold InR; (try dsimp only); omega)); conv => whnf) | ((with_reducible refine And.intro ?hh ?_); (case hh => ((try dsimp only); omega)); conv => whnf) | ((with_reducible refine And.intro ?hh ?_); (case hh => ((conv => whnf); (repeat' (first | exact True.intro | rfl | refine And.intro ?_ ?_)); done)); conv => whnf) | fail))
  · (refine ⟨[], ?_, rfl, rfl, trivial, (by (repeat' (first | exact True.intro | rfl | refine And.intro ?_ ?_)))⟩; simp only [renV, renL]; grind [chkC])
  have hS := starErr_ok hc
  have e1 := chkC_eq hc (p := p) (q := q)
  have k0 := fun h' sv' hs' => refIsPair_ok h' lo hi l sv' p.1 p.2 hl hs'
  have k1 := fun h' sv' hs' => refIsPair_ok h' lo hi l sv' q.1 q.2 hl hs'
  cases hp : isPairB l.length p.1 p.2 with
  | false =>
    rw [hp] at k0
    (conv => whnf); (repeat' (first | ((with_reducible refine ifb_mk (fun hc => ?_) (fun hc => ?_)) <;> ((try simp only [decide_eq_true_eq, decide_eq_false_iff_not, Bool.not_eq_true', Bool.not_eq_false', Int.not_lt, Int.not_le, ne_eq, Decidable.not_not, beq_iff_eq, List.cons.injEq, and_true] at hc); (first | (exfalso; omega) | conv => whnf))) | ((with_reducible refine And.intro True.intro ?_); conv => whnf) | ((with_reducible refine CallX.all ?_); refine CallW.of_ok (k0 _ _ (SlC.own rfl)) ?_; conv => whnf) | ((with_reducible refine And.intro ?hh ?_); (case hh => (unfold InR; (try dsimp only); omega)); conv => whnf) | ((with_reducible refine And.intro ?hh ?_); (case hh => ((try dsimp only); omega)); conv => whnf) | ((with_reducible refine And.intro ?hh ?_); (case hh => ((conv => whnf); (repeat' (first | exact True.intro | rfl | refine And.intro ?_ ?_)); done)); conv => whnf) | fail))
    all_goals (refine ⟨[], ?_, rfl, rfl, trivial, (by (repeat' (first | exact True.intro | rfl | refine And.intro ?_ ?_)))⟩; simp only [renV, renL]; grind)
  | true =>
    rw [hp] at k0
    cases hq : isPairB l.length q.1 q.2 with
    | false =>
      rw [hq] at k1
      (conv => whnf); (repeat' (first | ((with_reducible refine ifb_mk (fun hc => ?_) (fun hc => ?_)) <;> ((try simp only [decide_eq_true_eq, decide_eq_false_iff_not, Bool.not_eq_true', Bool.not_eq_false', Int.not_lt, Int.not_le, ne_eq, Decidable.not_not, beq_iff_eq, List.cons.injEq, and_true] at hc); (first | (exfalso; omega) | conv => whnf))) | ((with_reducible refine And.intro True.intro ?_); conv => whnf) | ((with_reducible refine CallX.all ?_); refine CallW.of_ok (k0 _ _ (SlC.own rfl)) ?_; conv => whnf) | ((with_reducible refine CallX.all ?_); refine CallW.of_ok (k1 _ _ (SlC.own rfl)) ?_; conv => whnf) | ((with_reducible refine And.intro ?hh ?_); (case hh => (unfold InR; (try dsimp only); omega)); conv => whnf) | ((with_reducible refine And.intro ?hh ?_); (case hh => ((try dsimp only); omega)); conv => whnf) | ((with_reducible refine And.intro ?hh ?_); (case hh => ((conv => whnf); (repeat' (first | exact True.intro | rfl | refine And.intro ?_ ?_)); done)); conv => whnf) | fail))
      all_goals (refine ⟨[], ?_, rfl, rfl, trivial, (by (repeat' (first | exact True.intro | rfl | refine And.intro ?_ ?_)))⟩; simp only [renV, renL]; grind)
    | true =>
      rw [hq] at k1
      obtain ⟨o1, o2, _, _⟩ := bndOf_bd hS (isPairB_mem.1 hp)
      obtain ⟨_, _, o3, o4⟩ := bndOf_bd hS (isPairB_mem.1 hq)
      have b0 := fun h' sv' hs' => refBoundOf_ok h' lo hi l sv' false p.1 p.2 hS (isPairB_mem.1 hp) hs'
      have b1 := fun h' sv' hs' => refBoundOf_ok h' lo hi l sv' true q.1 q.2 hS (isPairB_mem.1 hq) hs'
      simp only [sideB_lo, sideB_hi] at b0 b1
      (conv => whnf); (repeat' (first | ((with_reducible refine ifb_mk (fun hc => ?_) (fun hc => ?_)) <;> ((try simp only [decide_eq_true_eq, decide_eq_false_iff_not, Bool.not_eq_true', Bool.not_eq_false', Int.not_lt, Int.not_le, ne_eq, Decidable.not_not, beq_iff_eq, List.cons.injEq, and_true] at hc); (first | (exfalso; omega) | conv => whnf))) | ((with_reducible refine And.intro True.intro ?_); conv => whnf) | ((with_reducible refine CallX.all ?_); refine CallW.of_ok (k0 _ _ (SlC.own rfl)) ?_; conv => whnf) | ((with_reducible refine CallX.all ?_); refine CallW.of_ok (k1 _ _ (SlC.own rfl)) ?_; conv => whnf) | ((with_reducible refine WpR.draw (id := 5) mixed [0, 1, 2, 3, 4, 6, 7, 8, 9, 10, 5, 11, 12, 13] [0, 0, 2, 0, 8, 31, 0, 0, 128, 0, 512, 2047, 4095, 8191] ?hh ?_); (case hh => kernel_rfl); conv => whnf) | ((with_reducible refine grd_ex ?_); refine ex_ok (b0 _ _ (SlC.own rfl)) ?_; conv => whnf) | ((with_reducible refine grd_ex ?_); refine ex_ok (b1 _ _ (SlC.own rfl)) ?_; conv => whnf) | ((with_reducible refine grd_ex ?_); refine ex_ok (refLess_ok _ _ _ _ _ (InR_mul o3 o2) (InR_mul o1 o4)) ?_; conv => whnf) | ((with_reducible refine And.intro ?hh ?_); (case hh => (unfold InR; (try dsimp only); omega)); conv => whnf) | ((with_reducible refine And.intro ?hh ?_); (case hh => ((try dsimp only); omega)); conv => whnf) | ((with_reducible refine And.intro ?hh ?_); (case hh => ((conv => whnf); (repeat' (first | exact True.intro | rfl | refine And.intro ?_ ?_)); done)); conv => whnf) | fail))
      all_goals (refine ⟨[], ?_, rfl, rfl, trivial, (by (repeat' (first | exact True.intro | rfl | refine And.intro ?_ ?_)))⟩; simp only [renV, renL]; grind)

/-! ### Clash -/

def clashR (lo hi : Int) (l : List E) : Int := if starErr lo hi l = 0 then (if hasM lo hi l then 5 else 0) else starErr lo hi l

theorem clashF_ok (h : H) (lo hi : Int) (l : List E) (sv : V) (hl : l.length ≤ 9223372036854775807) (hs : SlC h (entVs l) l.length sv) :
    CallOk Try.prog 22 [starV lo hi sv] h (.tup [pV (if clashR lo hi l = 0 then tgt lo hi l 0 else (0, 0)), pV (if clashR lo hi l = 0 then tgt lo hi l 1 else (0, 0)), .int .i64 (clashR lo hi l)]) h := by
  obtain ⟨vo, svC, hsv, hca, hvw⟩ := hs.view 0
  refine CallOk.run Try.func22 rfl rfl (argsC := [starV lo hi svC]) (Nat.le_of_ble_eq_true rfl) [vo] (.cons (CaL.agg (.cons (.bare rfl) (.cons (.bare rfl) (.cons (hca _ rfl) .nil)))) .nil) (viewMc1 entVs_bare hvw) rfl (WpR.of_vc ?_)
  have hBare := @entVs_bare l
  cases hsv with
  | nil h0 =>
    have e1 : starErr lo hi l = 6 := by unfold starErr; rw [if_pos (by omega)]
    have e2 : clashR lo hi l = 6 := by unfold clashR; grind
    rw [e2]
    (conv => whnf); (repeat' (first | ((with_reducible refine ifb_mk (fun hc => ?_) (fun hc => ?_)) <;> ((try simp only [decide_eq_true_eq, decide_eq_false_iff_not, Bool.not_eq_true', Bool.not_eq_false', Int.not_lt, Int.not_le, ne_eq, Decidable.not_not, beq_iff_eq, List.cons.injEq, and_true] at hc); (first | (exfalso; omega) | conv => whnf))) | ((with_reducible refine And.intro True.intro ?_); conv => whnf) | ((with_reducible refine CallX.all ?_); refine CallW.of_ok (checkStar_ok _ lo hi l _ hl (SlC.none h0)) ?_; conv => whnf) | ((with_reducible refine And.intro ?hh ?_); (case hh => (unfold InR; (try dsimp only); omega)); conv => whnf) | ((with_reducible refine And.intro ?hh ?_); (case hh => ((try dsimp only); omega)); conv => whnf) | ((with_reducible refine And.intro ?hh ?_); (case hh => ((conv => whnf); (repeat' (first | exact True.intro | rfl | refine And.intro ?_ ?_)); done)); conv => whnf) | fail))
    rw [e1]
    (refine ⟨[], ?_, rfl, rfl, trivial, (by (repeat' (first | exact True.intro | rfl | refine And.intro ?_ ?_)))⟩; simp only [renV, renL]; rfl)
  | @sl cap ex =>
  (conv => whnf); (repeat' (first | ((with_reducible refine ifb_mk (fun hc => ?_) (fun hc => ?_)) <;> ((try simp only [decide_eq_true_eq, decide_eq_false_iff_not, Bool.not_eq_true', Bool.not_eq_false', Int.not_lt, Int.not_le, ne_eq, Decidable.not_not, beq_iff_eq, List.cons.injEq, and_true] at hc); (first | (exfalso; omega) | conv => whnf))) | ((with_reducible refine And.intro True.intro ?_); conv => whnf) | ((with_reducible refine CallX.all ?_); refine CallW.of_ok (checkStar_ok _ lo hi l _ hl (SlC.own rfl)) ?_; conv => whnf) | ((with_reducible refine And.intro ?hh ?_); (case hh => (unfold InR; (try dsimp only); omega)); conv => whnf) | ((with_reducible refine And.intro ?hh ?_); (case hh => ((try dsimp only); omega)); conv => whnf) | ((with_reducible refine And.intro ?hh ?_); (case hh => ((conv => whnf); (repeat' (first | exact True.intro | rfl | refine And.intro ?_ ?_)); done)); conv => whnf) | fail))
  · have e2 : clashR lo hi l = starErr lo hi l := by unfold clashR; grind
    rw [e2, if_neg hc, if_neg hc]
    (refine ⟨[], ?_, rfl, rfl, trivial, (by (repeat' (first | exact True.intro | rfl | refine And.intro ?_ ?_)))⟩; simp only [renV, renL]; rfl)
  have hS := starErr_ok hc
  have k0 := fun h' sv' hs' m hm => tightest2_ok h' lo hi l hS sv' hs' m (pairsL l.length).length hm 0 (.inl rfl)
  have k1 := fun h' sv' hs' m hm => tightest2_ok h' lo hi l hS sv' hs' m (pairsL l.length).length hm 1 (.inr rfl)
  have e1 : clashR lo hi l = if hasM lo hi l then 5 else 0 := by unfold clashR; grind
  rw [e1]
  (conv => whnf); (repeat' (first | ((with_reducible refine ifb_mk (fun hc => ?_) (fun hc => ?_)) <;> ((try simp only [decide_eq_true_eq, decide_eq_false_iff_not, Bool.not_eq_true', Bool.not_eq_false', Int.not_lt, Int.not_le, ne_eq, Decidable.not_not, beq_iff_eq, List.cons.injEq, and_true] at hc); (first | (exfalso; omega) | conv => whnf))) | ((with_reducible refine And.intro True.intro ?_); conv => whnf) | ((with_reducible refine CallX.all ?_); refine newCard_W lo hi l hS _ (SlC.own rfl) ?_; conv => whnf) | ((with_reducible refine CallX.all ?_); refine CallW.of_ok (span2_ok _ lo hi l hS _ (SlC.own rfl) _ _ rfl) ?_; conv => whnf) | ((with_reducible refine CallX.all ?_); refine CallW.of_ok (clash2_ok _ lo hi l hS) ?_; conv => whnf) | ((with_reducible refine WpR.draw (id := 7) mixed [0, 2, 4, 5, 1, 3, 6, 7] [0, 1, 0, 7, 0, 0, 63, 127] ?hh ?_); (case hh => kernel_rfl); conv => whnf) | ((with_reducible refine WpR.draw (id := 8) mixed [0, 1, 2, 3, 4, 5, 6, 7, 8, 9, 10, 11, 12] [0, 1, 0, 4, 15, 0, 32, 0, 128, 480, 31, 2047, 4095] ?hh ?_); (case hh => kernel_rfl); conv => whnf) | ((with_reducible refine grd_ex ?_); refine ex_ok (k0 _ _ (SlC.own rfl) _ rfl) ?_; conv => whnf) | ((with_reducible refine grd_ex ?_); refine ex_ok (k1 _ _ (SlC.own rfl) _ rfl) ?_; conv => whnf) | ((with_reducible refine And.intro ?hh ?_); (case hh => (unfold InR; (try dsimp only); omega)); conv => whnf) | ((with_reducible refine And.intro ?hh ?_); (case hh => ((try dsimp only); omega)); conv => whnf) | ((with_reducible refine And.intro ?hh ?_); (case hh => ((conv => whnf); (repeat' (first | exact True.intro | rfl | refine And.intro ?_ ?_)); done)); conv => whnf) | fail))
  · rw [hc]
    (refine ⟨[], ?_, rfl, rfl, trivial, (by (repeat' (first | exact True.intro | rfl | refine And.intro ?_ ?_)))⟩; simp only [renV, renL]; rfl)
  · rw [hc]
    (refine ⟨[], ?_, rfl, rfl, trivial, (by (repeat' (first | exact True.intro | rfl | refine And.intro ?_ ?_)))⟩; simp only [renV, renL]; rfl)
end Go.Proofs.D

namespace Go.Proofs.D
open Go.As
set_option maxRecDepth 20000
set_option linter.unusedVariables false
set_option linter.unusedSimpArgs false

/-! ### The reference's ends of the rate -/

def refStep (lo hi : Int) (l : List E) (a : Bd) (p : Int × Int) : Bd :=
  (if a.1.1 * (bndOf lo hi l p).1.2 < (bndOf lo hi l p).1.1 * a.1.2 then (bndOf lo hi l p).1 else a.1,
   if (bndOf lo hi l p).2.1 * a.2.2 < a.2.1 * (bndOf lo hi l p).2.2 then (bndOf lo hi l p).2 else a.2)
def refRate (lo hi : Int) (l : List E) : Bd := ((List.range' 0 l.length).flatMap (rowP l.length)).foldl (refStep lo hi l) ((lo, 1), (hi, 1))

theorem refStep_bd {lo hi : Int} {l : List E} {a : Bd} {p : Int × Int} (ha : OkBd a) (hp : OkBd (bndOf lo hi l p)) : OkBd (refStep lo hi l a p) := by
  obtain ⟨a1, a2, a3, a4⟩ := ha
  obtain ⟨b1, b2, b3, b4⟩ := hp
  unfold refStep
  refine ⟨?_, ?_, ?_, ?_⟩
  · dsimp only; split <;> assumption
  · dsimp only; split <;> assumption
  · dsimp only; split <;> assumption
  · dsimp only; split <;> assumption

theorem refRateOf_ok (h : H) (lo hi : Int) (l : List E) (hS : OkS lo hi l) (sv : V) (hs : SlC h (entVs l) l.length sv) :
    CallOk Try.prog 21 [starV lo hi sv] h (.tup [qV (refRate lo hi l).1, qV (refRate lo hi l).2]) h := by
  obtain ⟨vo, svC, hsv, hca, hvw⟩ := hs.view 0
  obtain ⟨cap, ex, rfl⟩ := Sv.pos hsv hS.one
  have hn := hS.most
  have hBare := @entVs_bare l
  refine CallOk.run Try.func21 rfl rfl (argsC := [starV lo hi (.sl 0 0 l.length cap ex)]) (Nat.le_of_ble_eq_true rfl) [vo] (.cons (CaL.agg (.cons (.bare rfl) (.cons (.bare rfl) (.cons (hca _ rfl) .nil)))) .nil) (viewMc1 entVs_bare hvw) rfl (WpR.of_vc ?_)
  (conv => whnf); (repeat' (first | ((with_reducible refine ifb_mk (fun hc => ?_) (fun hc => ?_)) <;> ((try simp only [decide_eq_true_eq, decide_eq_false_iff_not, Bool.not_eq_true', Bool.not_eq_false', Int.not_lt, Int.not_le, ne_eq, Decidable.not_not, beq_iff_eq, List.cons.injEq, and_true] at hc); (first | (exfalso; omega) | conv => whnf))) | ((with_reducible refine And.intro True.intro ?_); conv => whnf) | ((with_reducible refine WpR.draw (id := 1) mixed [0, 1, 2, 4, 5, 6, 8, 9, 3, 7, 10, 11] [0, 1, 3, 7, 0, 16, 48, 127, 0, 0, 1023, 2047] ?hh ?_); (case hh => kernel_rfl); conv => whnf) | ((with_reducible refine grd_ex ?_); refine ex_ok (refWhole_ok _ _) ?_; conv => whnf) | ((with_reducible refine And.intro ?hh ?_); (case hh => (unfold InR; (try dsimp only); omega)); conv => whnf) | ((with_reducible refine And.intro ?hh ?_); (case hh => ((try dsimp only); omega)); conv => whnf) | ((with_reducible refine And.intro ?hh ?_); (case hh => ((conv => whnf); (repeat' (first | exact True.intro | rfl | refine And.intro ?_ ?_)); done)); conv => whnf) | fail))
  have h0 : OkBd ((lo, 1), (hi, 1)) := bndOf_bd hS (p := (-1, -1)) (pairsL_mem.2 (.inl rfl))
  refine WpR.loopD (ι := Nat × Bd) [] [1, 2, 3, 4, 5] [4, 5] [] 6 (fun p => [(6, .int .i64 p.1)]) (fun p => [(4, .cells (ofL [.int .i64 p.2.1.1, .int .i64 p.2.1.2] 0) true none), (5, .cells (ofL [.int .i64 p.2.2.1, .int .i64 p.2.2.2] 0) true none)]) (fun p => l.length - p.1) (fun p => p.1 ≤ l.length ∧ OkBd p.2 ∧ refRate lo hi l = ((List.range' p.1 (l.length - p.1)).flatMap (rowP l.length)).foldl (refStep lo hi l) p.2) ?_ ((0, ((lo, 1), (hi, 1)))) (⟨Nat.zero_le _, h0, rfl⟩) [] ⟨rfl, rfl, (by (repeat' (first | exact True.intro | rfl | refine And.intro ?_ ?_))), (by (repeat' (first | exact True.intro | rfl | refine And.intro ?_ ?_))), (by (repeat' (first | exact True.intro | rfl | refine And.intro ?_ ?_))), (by (repeat' (first | exact True.intro | exact Or.inl rfl | refine And.intro ?_ ?_ | refine Or.inr ⟨_, rfl, ?_⟩ | exact SubQ.same (n := 1000) (Y := []) (fun _ _ _ => rfl) (by first | exact True.intro | exact ltB_all rfl | exact ltB_ofLb (by first | exact bare0_ints | assumption | (intro v hv; (repeat (rcases List.mem_cons.1 hv with rfl | hv; exact rfl)); cases hv)) | exact ltB_loop rfl rfl | exact hMap _ | exact hMap2 _ | exact grB_lt (by first | exact bare0_ints | assumption | (intro v hv; (repeat (rcases List.mem_cons.1 hv with rfl | hv; exact rfl)); cases hv)) _ | exact ltB_mapB | assumption) (avB_nil _) rfl | exact SubQ.ofL (by first | rfl | simp) (by first | exact bare0_ints | assumption | (intro v hv; (repeat (rcases List.mem_cons.1 hv with rfl | hv; exact rfl)); cases hv)) (by first | exact Or.inl rfl | exact Or.inr rfl) | exact SubQ.fin (by (conv => whnf); (repeat' (first | exact True.intro | rfl | refine And.intro ?_ ?_)); done) (fun h => h) (by first | exact Or.inl rfl | exact Or.inr rfl)))), rfl, rfl⟩ rfl rfl rfl (fun _ => rfl) (by (repeat' (first | exact True.intro | refine And.intro ?_ ?_ | exact avV_nil _ | rfl))) (by (repeat' (first | exact True.intro | (with_reducible exact avB_nil _) | ((with_reducible refine avB_all ?_); rfl) | ((with_reducible refine avB_ofLb ?_); exact (by first | exact bare0_ints | assumption | (intro v hv; (repeat (rcases List.mem_cons.1 hv with rfl | hv; exact rfl)); cases hv))) | ((with_reducible refine ltB_all ?_); rfl) | ((with_reducible refine ltB_ofLb ?_); exact (by first | exact bare0_ints | assumption | (intro v hv; (repeat (rcases List.mem_cons.1 hv with rfl | hv; exact rfl)); cases hv))) | ((with_reducible refine ltB_loop ?_ ?_) <;> rfl) | (with_reducible exact hMap _) | (with_reducible exact hMap2 _) | (with_reducible exact ltB_mapB) | ((with_reducible refine grB_lt ?_ _); exact (by first | exact bare0_ints | assumption | (intro v hv; (repeat (rcases List.mem_cons.1 hv with rfl | hv; exact rfl)); cases hv))) | (with_reducible assumption) | refine And.intro ?_ ?_ | exact (by first | exact True.intro | exact ltB_all rfl | exact ltB_ofLb (by first | exact bare0_ints | assumption | (intro v hv; (repeat (rcases List.mem_cons.1 hv with rfl | hv; exact rfl)); cases hv)) | exact ltB_loop rfl rfl | exact hMap _ | exact hMap2 _ | exact grB_lt (by first | exact bare0_ints | assumption | (intro v hv; (repeat (rcases List.mem_cons.1 hv with rfl | hv; exact rfl)); cases hv)) _ | exact ltB_mapB | assumption)))) (fun _ _ => (by (repeat' (first | exact True.intro | rfl | refine And.intro ?_ ?_ | exact (by decide) | exact (by first | exact True.intro | exact hMap _ | exact hMap2 _ | exact grB_lt (by first | exact bare0_ints | assumption | (intro v hv; (repeat (rcases List.mem_cons.1 hv with rfl | hv; exact rfl)); cases hv)) _ | exact ltB_all rfl | exact ltB_ofLb (by first | exact bare0_ints | assumption | (intro v hv; (repeat (rcases List.mem_cons.1 hv with rfl | hv; exact rfl)); cases hv)) | exact ltB_loop rfl rfl | exact ltB_mapB | assumption))))) (fun _ _ => (by (repeat' (first | exact True.intro | rfl | refine And.intro ?_ ?_ | exact (by decide) | exact (by first | exact True.intro | exact hMap _ | exact hMap2 _ | exact grB_lt (by first | exact bare0_ints | assumption | (intro v hv; (repeat (rcases List.mem_cons.1 hv with rfl | hv; exact rfl)); cases hv)) _ | exact ltB_all rfl | exact ltB_ofLb (by first | exact bare0_ints | assumption | (intro v hv; (repeat (rcases List.mem_cons.1 hv with rfl | hv; exact rfl)); cases hv)) | exact ltB_loop rfl rfl | exact ltB_mapB | assumption))))) (fun _ _ => (by (repeat' (first | exact True.intro | rfl | refine And.intro ?_ ?_)))) rfl
  rintro ⟨i, a⟩ ⟨j1, j2, j3⟩
  dsimp only at j1 j2 j3
  refine WpR.of_vc ?_
  by_cases hi' : i < l.length
  · rw [range'_cons i _ hi', List.flatMap_cons, List.foldl_append] at j3
    (conv => whnf); (repeat' (first | ((with_reducible refine ifb_mk (fun hc => ?_) (fun hc => ?_)) <;> ((try simp only [decide_eq_true_eq, decide_eq_false_iff_not, Bool.not_eq_true', Bool.not_eq_false', Int.not_lt, Int.not_le, ne_eq, Decidable.not_not, beq_iff_eq, List.cons.injEq, and_true] at hc); (first | (exfalso; omega) | conv => whnf))) | ((with_reducible refine And.intro True.intro ?_); conv => whnf) | ((with_reducible refine And.intro ?hh ?_); (case hh => (unfold InR; (try dsimp only); omega)); conv => whnf) | ((with_reducible refine And.intro ?hh ?_); (case hh => ((try dsimp only); omega)); conv => whnf) | ((with_reducible refine And.intro ?hh ?_); (case hh => ((conv => whnf); (repeat' (first | exact True.intro | rfl | refine And.intro ?_ ?_)); done)); conv => whnf) | fail))
    refine WpR.loopD (ι := Nat × Bd) [] [1, 2, 3, 4, 5, 6] [4, 5] [] 6 (fun p => [(7, .int .i64 p.1)]) (fun p => [(4, .cells (ofL [.int .i64 p.2.1.1, .int .i64 p.2.1.2] 0) true none), (5, .cells (ofL [.int .i64 p.2.2.1, .int .i64 p.2.2.2] 0) true none)]) (fun p => l.length - p.1) (fun p => i < p.1 ∧ p.1 ≤ l.length ∧ OkBd p.2 ∧ refRate lo hi l = ((List.range' (i + 1) (l.length - (i + 1))).flatMap (rowP l.length)).foldl (refStep lo hi l) (((List.range' p.1 (l.length - p.1)).map fun (j : Nat) => ((i : Int), (j : Int))).foldl (refStep lo hi l) p.2)) ?_ ((i + 1, a)) (⟨by dsimp only; omega, by dsimp only; omega, j2, j3⟩) [] ⟨rfl, rfl, (by (repeat' (first | exact True.intro | rfl | refine And.intro ?_ ?_))), (by (repeat' (first | exact True.intro | rfl | refine And.intro ?_ ?_))), (by (repeat' (first | exact True.intro | rfl | refine And.intro ?_ ?_))), (by (repeat' (first | exact True.intro | exact Or.inl rfl | refine And.intro ?_ ?_ | refine Or.inr ⟨_, rfl, ?_⟩ | exact SubQ.same (n := 1000) (Y := []) (fun _ _ _ => rfl) (by first | exact True.intro | exact ltB_all rfl | exact ltB_ofLb (by first | exact bare0_ints | assumption | (intro v hv; (repeat (rcases List.mem_cons.1 hv with rfl | hv; exact rfl)); cases hv)) | exact ltB_loop rfl rfl | exact hMap _ | exact hMap2 _ | exact grB_lt (by first | exact bare0_ints | assumption | (intro v hv; (repeat (rcases List.mem_cons.1 hv with rfl | hv; exact rfl)); cases hv)) _ | exact ltB_mapB | assumption) (avB_nil _) rfl | exact SubQ.ofL (by first | rfl | simp) (by first | exact bare0_ints | assumption | (intro v hv; (repeat (rcases List.mem_cons.1 hv with rfl | hv; exact rfl)); cases hv)) (by first | exact Or.inl rfl | exact Or.inr rfl) | exact SubQ.fin (by (conv => whnf); (repeat' (first | exact True.intro | rfl | refine And.intro ?_ ?_)); done) (fun h => h) (by first | exact Or.inl rfl | exact Or.inr rfl)))), rfl, rfl⟩ rfl rfl rfl (fun _ => rfl) (by (repeat' (first | exact True.intro | refine And.intro ?_ ?_ | exact avV_nil _ | rfl))) (by (repeat' (first | exact True.intro | (with_reducible exact avB_nil _) | ((with_reducible refine avB_all ?_); rfl) | ((with_reducible refine avB_ofLb ?_); exact (by first | exact bare0_ints | assumption | (intro v hv; (repeat (rcases List.mem_cons.1 hv with rfl | hv; exact rfl)); cases hv))) | ((with_reducible refine ltB_all ?_); rfl) | ((with_reducible refine ltB_ofLb ?_); exact (by first | exact bare0_ints | assumption | (intro v hv; (repeat (rcases List.mem_cons.1 hv with rfl | hv; exact rfl)); cases hv))) | ((with_reducible refine ltB_loop ?_ ?_) <;> rfl) | (with_reducible exact hMap _) | (with_reducible exact hMap2 _) | (with_reducible exact ltB_mapB) | ((with_reducible refine grB_lt ?_ _); exact (by first | exact bare0_ints | assumption | (intro v hv; (repeat (rcases List.mem_cons.1 hv with rfl | hv; exact rfl)); cases hv))) | (with_reducible assumption) | refine And.intro ?_ ?_ | exact (by first | exact True.intro | exact ltB_all rfl | exact ltB_ofLb (by first | exact bare0_ints | assumption | (intro v hv; (repeat (rcases List.mem_cons.1 hv with rfl | hv; exact rfl)); cases hv)) | exact ltB_loop rfl rfl | exact hMap _ | exact hMap2 _ | exact grB_lt (by first | exact bare0_ints | assumption | (intro v hv; (repeat (rcases List.mem_cons.1 hv with rfl | hv; exact rfl)); cases hv)) _ | exact ltB_mapB | assumption)))) (fun _ _ => (by (repeat' (first | exact True.intro | rfl | refine And.intro ?_ ?_ | exact (by decide) | exact (by first | exact True.intro | exact hMap _ | exact hMap2 _ | exact grB_lt (by first | exact bare0_ints | assumption | (intro v hv; (repeat (rcases List.mem_cons.1 hv with rfl | hv; exact rfl)); cases hv)) _ | exact ltB_all rfl | exact ltB_ofLb (by first | exact bare0_ints | assumption | (intro v hv; (repeat (rcases List.mem_cons.1 hv with rfl | hv; exact rfl)); cases hv)) | exact ltB_loop rfl rfl | exact ltB_mapB | assumption))))) (fun _ _ => (by (repeat' (first | exact True.intro | rfl | refine And.intro ?_ ?_ | exact (by decide) | exact (by first | exact True.intro | exact hMap _ | exact hMap2 _ | exact grB_lt (by first | exact bare0_ints | assumption | (intro v hv; (repeat (rcases List.mem_cons.1 hv with rfl | hv; exact rfl)); cases hv)) _ | exact ltB_all rfl | exact ltB_ofLb (by first | exact bare0_ints | assumption | (intro v hv; (repeat (rcases List.mem_cons.1 hv with rfl | hv; exact rfl)); cases hv)) | exact ltB_loop rfl rfl | exact ltB_mapB | assumption))))) (fun _ _ => (by (repeat' (first | exact True.intro | rfl | refine And.intro ?_ ?_)))) rfl
    rintro ⟨k, a⟩ ⟨k0, k1, k2, k3⟩
    dsimp only at k0 k1 k2 k3
    refine WpR.of_vc ?_
    by_cases hk' : k < l.length
    · rw [range'_cons k _ hk', List.map_cons, List.foldl_cons] at k3
      have hm : ((i : Int), (k : Int)) ∈ pairsL l.length := pairsL_mem.2 (.inr ⟨i, k, k0, hk', rfl⟩)
      have hb := bndOf_bd hS hm
      have b0 := fun h' sv' hs' => refBoundOf_ok h' lo hi l sv' false i k hS hm hs'
      have b1 := fun h' sv' hs' => refBoundOf_ok h' lo hi l sv' true i k hS hm hs'
      simp only [sideB_lo, sideB_hi] at b0 b1
      (conv => whnf); (repeat' (first | ((with_reducible refine ifb_mk (fun hc => ?_) (fun hc => ?_)) <;> ((try simp only [decide_eq_true_eq, decide_eq_false_iff_not, Bool.not_eq_true', Bool.not_eq_false', Int.not_lt, Int.not_le, ne_eq, Decidable.not_not, beq_iff_eq, List.cons.injEq, and_true] at hc); (first | (exfalso; omega) | conv => whnf))) | ((with_reducible refine And.intro True.intro ?_); conv => whnf) | ((with_reducible refine WpR.draw (id := 8) mixed [0, 1, 2, 4, 5, 6, 8, 9, 3, 7, 10, 11] [0, 0, 0, 7, 0, 0, 0, 127, 0, 0, 1023, 2047] ?hh ?_); (case hh => kernel_rfl); conv => whnf) | ((with_reducible refine grd_ex ?_); refine ex_ok (b0 _ _ (SlC.own rfl)) ?_; conv => whnf) | ((with_reducible refine grd_ex ?_); refine ex_ok (b1 _ _ (SlC.own rfl)) ?_; conv => whnf) | ((with_reducible refine CallX.all ?_); refine CallW.of_ok (refLess_ok _ _ _ _ _ (InR_mul k2.1 hb.2.1) (InR_mul hb.1 k2.2.1)) ?_; conv => whnf) | ((with_reducible refine CallX.all ?_); refine CallW.of_ok (refLess_ok _ _ _ _ _ (InR_mul hb.2.2.1 k2.2.2.2) (InR_mul k2.2.2.1 hb.2.2.2)) ?_; conv => whnf) | ((with_reducible refine And.intro ?hh ?_); (case hh => (unfold InR; (try dsimp only); omega)); conv => whnf) | ((with_reducible refine And.intro ?hh ?_); (case hh => ((try dsimp only); omega)); conv => whnf) | ((with_reducible refine And.intro ?hh ?_); (case hh => ((conv => whnf); (repeat' (first | exact True.intro | rfl | refine And.intro ?_ ?_)); done)); conv => whnf) | fail))
      · rename_i _ _ g1
        have e : refStep lo hi l a ((i : Int), (k : Int)) = ((bndOf lo hi l ((i : Int), (k : Int))).1, (bndOf lo hi l ((i : Int), (k : Int))).2) := by unfold refStep; rw [if_pos g1, if_pos hc]
        have hb2 := refStep_bd k2 hb
        rw [e] at k3 hb2
        exact ⟨(k + 1, ((bndOf lo hi l ((i : Int), (k : Int))).1, (bndOf lo hi l ((i : Int), (k : Int))).2)), [], by dsimp only; omega, ⟨by dsimp only; omega, by dsimp only; omega, hb2, k3⟩, ⟨rfl, rfl, (by (repeat' (first | exact True.intro | rfl | refine And.intro ?_ ?_))), (by (repeat' (first | exact True.intro | rfl | refine And.intro ?_ ?_))), (by (repeat' (first | exact True.intro | rfl | refine And.intro ?_ ?_))), (by (repeat' (first | exact True.intro | exact Or.inl rfl | refine And.intro ?_ ?_ | refine Or.inr ⟨_, rfl, ?_⟩ | exact SubQ.same (n := 1000) (Y := []) (fun _ _ _ => rfl) (by first | exact True.intro | exact ltB_all rfl | exact ltB_ofLb (by first | exact bare0_ints | assumption | (intro v hv; (repeat (rcases List.mem_cons.1 hv with rfl | hv; exact rfl)); cases hv)) | exact ltB_loop rfl rfl | exact hMap _ | exact hMap2 _ | exact grB_lt (by first | exact bare0_ints | assumption | (intro v hv; (repeat (rcases List.mem_cons.1 hv with rfl | hv; exact rfl)); cases hv)) _ | exact ltB_mapB | assumption) (avB_nil _) rfl | exact SubQ.ofL (by first | rfl | simp) (by first | exact bare0_ints | assumption | (intro v hv; (repeat (rcases List.mem_cons.1 hv with rfl | hv; exact rfl)); cases hv)) (by first | exact Or.inl rfl | exact Or.inr rfl) | exact SubQ.fin (by (conv => whnf); (repeat' (first | exact True.intro | rfl | refine And.intro ?_ ?_)); done) (fun h => h) (by first | exact Or.inl rfl | exact Or.inr rfl)))), rfl, rfl⟩⟩
      · rename_i _ _ g1
        have e : refStep lo hi l a ((i : Int), (k : Int)) = ((bndOf lo hi l ((i : Int), (k : Int))).1, a.2) := by unfold refStep; rw [if_pos g1, if_neg (Int.not_lt.2 hc)]
        have hb2 := refStep_bd k2 hb
        rw [e] at k3 hb2
        exact ⟨(k + 1, ((bndOf lo hi l ((i : Int), (k : Int))).1, a.2)), [], by dsimp only; omega, ⟨by dsimp only; omega, by dsimp only; omega, hb2, k3⟩, ⟨rfl, rfl, (by (repeat' (first | exact True.intro | rfl | refine And.intro ?_ ?_))), (by (repeat' (first | exact True.intro | rfl | refine And.intro ?_ ?_))), (by (repeat' (first | exact True.intro | rfl | refine And.intro ?_ ?_))), (by (repeat' (first | exact True.intro | exact Or.inl rfl | refine And.intro ?_ ?_ | refine Or.inr ⟨_, rfl, ?_⟩ | exact SubQ.same (n := 1000) (Y := []) (fun _ _ _ => rfl) (by first | exact True.intro | exact ltB_all rfl | exact ltB_ofLb (by first | exact bare0_ints | assumption | (intro v hv; (repeat (rcases List.mem_cons.1 hv with rfl | hv; exact rfl)); cases hv)) | exact ltB_loop rfl rfl | exact hMap _ | exact hMap2 _ | exact grB_lt (by first | exact bare0_ints | assumption | (intro v hv; (repeat (rcases List.mem_cons.1 hv with rfl | hv; exact rfl)); cases hv)) _ | exact ltB_mapB | assumption) (avB_nil _) rfl | exact SubQ.ofL (by first | rfl | simp) (by first | exact bare0_ints | assumption | (intro v hv; (repeat (rcases List.mem_cons.1 hv with rfl | hv; exact rfl)); cases hv)) (by first | exact Or.inl rfl | exact Or.inr rfl) | exact SubQ.fin (by (conv => whnf); (repeat' (first | exact True.intro | rfl | refine And.intro ?_ ?_)); done) (fun h => h) (by first | exact Or.inl rfl | exact Or.inr rfl)))), rfl, rfl⟩⟩
      · rename_i _ _ g1
        have e : refStep lo hi l a ((i : Int), (k : Int)) = (a.1, (bndOf lo hi l ((i : Int), (k : Int))).2) := by unfold refStep; rw [if_neg (Int.not_lt.2 g1), if_pos hc]
        have hb2 := refStep_bd k2 hb
        rw [e] at k3 hb2
        exact ⟨(k + 1, (a.1, (bndOf lo hi l ((i : Int), (k : Int))).2)), [], by dsimp only; omega, ⟨by dsimp only; omega, by dsimp only; omega, hb2, k3⟩, ⟨rfl, rfl, (by (repeat' (first | exact True.intro | rfl | refine And.intro ?_ ?_))), (by (repeat' (first | exact True.intro | rfl | refine And.intro ?_ ?_))), (by (repeat' (first | exact True.intro | rfl | refine And.intro ?_ ?_))), (by (repeat' (first | exact True.intro | exact Or.inl rfl | refine And.intro ?_ ?_ | refine Or.inr ⟨_, rfl, ?_⟩ | exact SubQ.same (n := 1000) (Y := []) (fun _ _ _ => rfl) (by first | exact True.intro | exact ltB_all rfl | exact ltB_ofLb (by first | exact bare0_ints | assumption | (intro v hv; (repeat (rcases List.mem_cons.1 hv with rfl | hv; exact rfl)); cases hv)) | exact ltB_loop rfl rfl | exact hMap _ | exact hMap2 _ | exact grB_lt (by first | exact bare0_ints | assumption | (intro v hv; (repeat (rcases List.mem_cons.1 hv with rfl | hv; exact rfl)); cases hv)) _ | exact ltB_mapB | assumption) (avB_nil _) rfl | exact SubQ.ofL (by first | rfl | simp) (by first | exact bare0_ints | assumption | (intro v hv; (repeat (rcases List.mem_cons.1 hv with rfl | hv; exact rfl)); cases hv)) (by first | exact Or.inl rfl | exact Or.inr rfl) | exact SubQ.fin (by (conv => whnf); (repeat' (first | exact True.intro | rfl | refine And.intro ?_ ?_)); done) (fun h => h) (by first | exact Or.inl rfl | exact Or.inr rfl)))), rfl, rfl⟩⟩
      · rename_i _ _ g1
        have e : refStep lo hi l a ((i : Int), (k : Int)) = (a.1, a.2) := by unfold refStep; rw [if_neg (Int.not_lt.2 g1), if_neg (Int.not_lt.2 hc)]
        have hb2 := refStep_bd k2 hb
        rw [e] at k3 hb2
        exact ⟨(k + 1, (a.1, a.2)), [], by dsimp only; omega, ⟨by dsimp only; omega, by dsimp only; omega, hb2, k3⟩, ⟨rfl, rfl, (by (repeat' (first | exact True.intro | rfl | refine And.intro ?_ ?_))), (by (repeat' (first | exact True.intro | rfl | refine And.intro ?_ ?_))), (by (repeat' (first | exact True.intro | rfl | refine And.intro ?_ ?_))), (by (repeat' (first | exact True.intro | exact Or.inl rfl | refine And.intro ?_ ?_ | refine Or.inr ⟨_, rfl, ?_⟩ | exact SubQ.same (n := 1000) (Y := []) (fun _ _ _ => rfl) (by first | exact True.intro | exact ltB_all rfl | exact ltB_ofLb (by first | exact bare0_ints | assumption | (intro v hv; (repeat (rcases List.mem_cons.1 hv with rfl | hv; exact rfl)); cases hv)) | exact ltB_loop rfl rfl | exact hMap _ | exact hMap2 _ | exact grB_lt (by first | exact bare0_ints | assumption | (intro v hv; (repeat (rcases List.mem_cons.1 hv with rfl | hv; exact rfl)); cases hv)) _ | exact ltB_mapB | assumption) (avB_nil _) rfl | exact SubQ.ofL (by first | rfl | simp) (by first | exact bare0_ints | assumption | (intro v hv; (repeat (rcases List.mem_cons.1 hv with rfl | hv; exact rfl)); cases hv)) (by first | exact Or.inl rfl | exact Or.inr rfl) | exact SubQ.fin (by (conv => whnf); (repeat' (first | exact True.intro | rfl | refine And.intro ?_ ?_)); done) (fun h => h) (by first | exact Or.inl rfl | exact Or.inr rfl)))), rfl, rfl⟩⟩
    · rw [range'_nil k _ (by omega)] at k3
      (conv => whnf); (repeat' (first | ((with_reducible refine ifb_mk (fun hc => ?_) (fun hc => ?_)) <;> ((try simp only [decide_eq_true_eq, decide_eq_false_iff_not, Bool.not_eq_true', Bool.not_eq_false', Int.not_lt, Int.not_le, ne_eq, Decidable.not_not, beq_iff_eq, List.cons.injEq, and_true] at hc); (first | (exfalso; omega) | conv => whnf))) | ((with_reducible refine And.intro True.intro ?_); conv => whnf) | ((with_reducible refine And.intro ?hh ?_); (case hh => (unfold InR; (try dsimp only); omega)); conv => whnf) | ((with_reducible refine And.intro ?hh ?_); (case hh => ((try dsimp only); omega)); conv => whnf) | ((with_reducible refine And.intro ?hh ?_); (case hh => ((conv => whnf); (repeat' (first | exact True.intro | rfl | refine And.intro ?_ ?_)); done)); conv => whnf) | fail))
      exact ⟨(i + 1, a), [], by dsimp only; omega, ⟨by dsimp only; omega, k2, k3⟩, ⟨rfl, rfl, (by (repeat' (first | exact True.intro | rfl | refine And.intro ?_ ?_))), (by (repeat' (first | exact True.intro | rfl | refine And.intro ?_ ?_))), (by (repeat' (first | exact True.intro | rfl | refine And.intro ?_ ?_))), (by (repeat' (first | exact True.intro | exact Or.inl rfl | refine And.intro ?_ ?_ | refine Or.inr ⟨_, rfl, ?_⟩ | exact SubQ.same (n := 1000) (Y := []) (fun _ _ _ => rfl) (by first | exact True.intro | exact ltB_all rfl | exact ltB_ofLb (by first | exact bare0_ints | assumption | (intro v hv; (repeat (rcases List.mem_cons.1 hv with rfl | hv; exact rfl)); cases hv)) | exact ltB_loop rfl rfl | exact hMap _ | exact hMap2 _ | exact grB_lt (by first | exact bare0_ints | assumption | (intro v hv; (repeat (rcases List.mem_cons.1 hv with rfl | hv; exact rfl)); cases hv)) _ | exact ltB_mapB | assumption) (avB_nil _) rfl | exact SubQ.ofL (by first | rfl | simp) (by first | exact bare0_ints | assumption | (intro v hv; (repeat (rcases List.mem_cons.1 hv with rfl | hv; exact rfl)); cases hv)) (by first | exact Or.inl rfl | exact Or.inr rfl) | exact SubQ.fin (by (conv => whnf); (repeat' (first | exact True.intro | rfl | refine And.intro ?_ ?_)); done) (fun h => h) (by first | exact Or.inl rfl | exact Or.inr rfl)))), rfl, rfl⟩⟩
  · rw [range'_nil i _ (by omega)] at j3
    (conv => whnf); (repeat' (first | ((with_reducible refine ifb_mk (fun hc => ?_) (fun hc => ?_)) <;> ((try simp only [decide_eq_true_eq, decide_eq_false_iff_not, Bool.not_eq_true', Bool.not_eq_false', Int.not_lt, Int.not_le, ne_eq, Decidable.not_not, beq_iff_eq, List.cons.injEq, and_true] at hc); (first | (exfalso; omega) | conv => whnf))) | ((with_reducible refine And.intro True.intro ?_); conv => whnf) | ((with_reducible refine WpR.draw (id := 13) mixed [0, 1, 2, 3] [0, 0, 1, 7] ?hh ?_); (case hh => kernel_rfl); conv => whnf) | ((with_reducible refine And.intro ?hh ?_); (case hh => (unfold InR; (try dsimp only); omega)); conv => whnf) | ((with_reducible refine And.intro ?hh ?_); (case hh => ((try dsimp only); omega)); conv => whnf) | ((with_reducible refine And.intro ?hh ?_); (case hh => ((conv => whnf); (repeat' (first | exact True.intro | rfl | refine And.intro ?_ ?_)); done)); conv => whnf) | fail))
    have e : refRate lo hi l = a := j3
    (refine ⟨[], ?_, rfl, rfl, trivial, (by (repeat' (first | exact True.intro | rfl | refine And.intro ?_ ?_)))⟩; simp only [renV, renL]; grind)

theorem refHas_ok (h : H) (lo hi : Int) (l : List E) (hS : OkS lo hi l) (hb : OkBd (refRate lo hi l)) (sv : V) (hs : SlC h (entVs l) l.length sv) :
    CallOk Try.prog 24 [starV lo hi sv] h (.bool (!decide ((refRate lo hi l).2.1 * (refRate lo hi l).1.2 < (refRate lo hi l).1.1 * (refRate lo hi l).2.2))) h := by
  obtain ⟨vo, svC, hsv, hca, hvw⟩ := hs.view 0
  obtain ⟨cap, ex, rfl⟩ := Sv.pos hsv hS.one
  refine CallOk.run Try.func24 rfl rfl (argsC := [starV lo hi (.sl 0 0 l.length cap ex)]) (Nat.le_of_ble_eq_true rfl) [vo] (.cons (CaL.agg (.cons (.bare rfl) (.cons (.bare rfl) (.cons (hca _ rfl) .nil)))) .nil) (viewMc1 entVs_bare hvw) rfl (WpR.of_vc ?_)
  (conv => whnf); (repeat' (first | ((with_reducible refine ifb_mk (fun hc => ?_) (fun hc => ?_)) <;> ((try simp only [decide_eq_true_eq, decide_eq_false_iff_not, Bool.not_eq_true', Bool.not_eq_false', Int.not_lt, Int.not_le, ne_eq, Decidable.not_not, beq_iff_eq, List.cons.injEq, and_true] at hc); (first | (exfalso; omega) | conv => whnf))) | ((with_reducible refine And.intro True.intro ?_); conv => whnf) | ((with_reducible refine CallX.all ?_); refine CallW.of_ok (refRateOf_ok _ lo hi l hS _ (SlC.own rfl)) ?_; conv => whnf) | ((with_reducible refine CallX.all ?_); refine CallW.of_ok (refLess_ok _ _ _ _ _ (InR_mul hb.2.2.1 hb.2.1) (InR_mul hb.1 hb.2.2.2)) ?_; conv => whnf) | ((with_reducible refine And.intro ?hh ?_); (case hh => (unfold InR; (try dsimp only); omega)); conv => whnf) | ((with_reducible refine And.intro ?hh ?_); (case hh => ((try dsimp only); omega)); conv => whnf) | ((with_reducible refine And.intro ?hh ?_); (case hh => ((conv => whnf); (repeat' (first | exact True.intro | rfl | refine And.intro ?_ ?_)); done)); conv => whnf) | fail))
  all_goals (refine ⟨[], ?_, rfl, rfl, trivial, (by (repeat' (first | exact True.intro | rfl | refine And.intro ?_ ?_)))⟩; first | rfl | (simp only [renV, renL]; first | done | rfl | (congr 1; grind []) | grind []))
end Go.Proofs.D

namespace Go.Proofs.D
open Go.As
set_option maxRecDepth 20000
set_option linter.unusedVariables false
set_option linter.unusedSimpArgs false

theorem bndOf_red {lo hi : Int} {l : List E} (hS : OkS lo hi l) {p : Int × Int} (hp : p ∈ pairsL l.length) : (Int.gcd (bndOf lo hi l p).1.1 (bndOf lo hi l p).1.2 = 1) ∧ (Int.gcd (bndOf lo hi l p).2.1 (bndOf lo hi l p).2.2 = 1) := by
  rcases pairsL_mem.1 hp with rfl | ⟨i, j, h1, h2, rfl⟩
  · exact ⟨Int.gcd_one, Int.gcd_one⟩
  · have hgi : l[i]? = some l[i] := List.getElem?_eq_getElem _
    have hgj : l[j]? = some l[j] := List.getElem?_eq_getElem _
    rw [bndOf_two hgi hgj]
    have h3' := hS.inc _ _ _ _ h1 hgi hgj
    exact ⟨fr_gcd (by omega), fr_gcd (by omega)⟩

/-- The ends behind some pairs. -/
structure RefP (lo hi : Int) (l : List E) (S : List (Int × Int)) (a : Bd) : Prop where
  lm : ∃ p ∈ S, a.1 = (bndOf lo hi l p).1
  hm : ∃ p ∈ S, a.2 = (bndOf lo hi l p).2
  lb : ∀ p ∈ S, rq (bndOf lo hi l p).1 ≤ rq a.1
  hb : ∀ p ∈ S, rq a.2 ≤ rq (bndOf lo hi l p).2

theorem RefP.step {lo hi : Int} {l : List E} (hS : OkS lo hi l) {S : List (Int × Int)} (hSm : ∀ p ∈ S, p ∈ pairsL l.length) {a : Bd} (h : RefP lo hi l S a) {x : Int × Int} (hx : x ∈ pairsL l.length) : RefP lo hi l (S ++ [x]) (refStep lo hi l a x) := by
  obtain ⟨⟨p1, m1, e1⟩, ⟨p2, m2, e2⟩, h3, h4⟩ := h
  have b1 := bndOf_bd hS (hSm _ m1)
  have b2 := bndOf_bd hS (hSm _ m2)
  have bx := bndOf_bd hS hx
  have k1 : a.1.1 * (bndOf lo hi l x).1.2 < (bndOf lo hi l x).1.1 * a.1.2 ↔ rq a.1 < rq (bndOf lo hi l x).1 := by
    refine (rq_lt ?_ ?_).symm
    · rw [e1]; have := (bndOf_bd hS (hSm _ m1)).2.1; omega
    · have := bx.2.1; omega
  have k2 : (bndOf lo hi l x).2.1 * a.2.2 < a.2.1 * (bndOf lo hi l x).2.2 ↔ rq (bndOf lo hi l x).2 < rq a.2 := by
    refine (rq_lt ?_ ?_).symm
    · have := bx.2.2.2; omega
    · rw [e2]; have := b2.2.2.2; omega
  unfold refStep
  simp only [k1, k2]
  refine ⟨?_, ?_, ?_, ?_⟩
  · dsimp only; split
    · exact ⟨x, by simp, rfl⟩
    · exact ⟨p1, by simp [m1], e1⟩
  · dsimp only; split
    · exact ⟨x, by simp, rfl⟩
    · exact ⟨p2, by simp [m2], e2⟩
  · intro p hp
    dsimp only
    rcases List.mem_append.1 hp with hp | hp
    · have := h3 p hp
      split <;> grind
    · rw [List.mem_singleton.1 hp]
      split <;> grind
  · intro p hp
    dsimp only
    rcases List.mem_append.1 hp with hp | hp
    · have := h4 p hp
      split <;> grind
    · rw [List.mem_singleton.1 hp]
      split <;> grind

theorem refRate_P {lo hi : Int} {l : List E} (hS : OkS lo hi l) : RefP lo hi l (pairsL l.length) (refRate lo hi l) := by
  have : ∀ (xs S : List (Int × Int)) (a : Bd), (∀ p ∈ S ++ xs, p ∈ pairsL l.length) → RefP lo hi l S a → RefP lo hi l (S ++ xs) (xs.foldl (refStep lo hi l) a) := by
    intro xs
    induction xs with
    | nil => intro S a _ h; simpa using h
    | cons x xs ih =>
      intro S a hm h
      have := ih (S ++ [x]) _ (by simpa using hm) (h.step hS (fun p hp => hm p (by simp [hp])) (hm x (by simp)))
      simpa using this
  refine this _ [(-1, -1)] ((lo, 1), (hi, 1)) (fun p hp => hp) ⟨⟨(-1, -1), by simp, rfl⟩, ⟨(-1, -1), by simp, rfl⟩, fun p hp => ?_, fun p hp => ?_⟩
  · rw [List.mem_singleton.1 hp]; exact Rat.le_refl
  · rw [List.mem_singleton.1 hp]; exact Rat.le_refl

theorem refRate_eq {lo hi : Int} {l : List E} (hS : OkS lo hi l) : refRate lo hi l = (loQ lo hi l, hiQ lo hi l) := by
  obtain ⟨⟨p1, m1, e1⟩, ⟨p2, m2, e2⟩, h3, h4⟩ := refRate_P hS
  have t0 := tgt_ok hS (.inl rfl)
  have t1 := tgt_ok hS (.inr rfl)
  have b1 := bndOf_bd hS m1
  have b2 := bndOf_bd hS m2
  have c1 := bndOf_bd hS t0.mem
  have c2 := bndOf_bd hS t1.mem
  have q1 := t0.best p1 m1
  have q2 := t1.best p2 m2
  have r1 := h3 _ t0.mem
  have r2 := h4 _ t1.mem
  rw [e1] at r1
  rw [e2] at r2
  refine Prod.ext ?_ ?_
  · rw [e1]
    refine rq_inj (by have := b1.2.1; omega) (by have := c1.2.1; show 0 < (bndOf lo hi l _).1.2; omega) (bndOf_red hS m1).1 (bndOf_red hS t0.mem).1 (Rat.le_antisymm ?_ r1)
    exact Rat.neg_le_neg_iff.1 q1
  · rw [e2]
    refine rq_inj (by have := b2.2.2.2; omega) (by have := c2.2.2.2; show 0 < (bndOf lo hi l _).2.2; omega) (bndOf_red hS m2).2 (bndOf_red hS t1.mem).2 (Rat.le_antisymm r2 ?_)
    exact q2

theorem refRate2_ok (h : H) (lo hi : Int) (l : List E) (hS : OkS lo hi l) (sv : V) (hs : SlC h (entVs l) l.length sv) :
    CallOk Try.prog 21 [starV lo hi sv] h (.tup [qV (loQ lo hi l), qV (hiQ lo hi l)]) h := by
  have := refRateOf_ok h lo hi l hS sv hs
  rwa [refRate_eq hS] at this

theorem refHas2_ok (h : H) (lo hi : Int) (l : List E) (hS : OkS lo hi l) (sv : V) (hs : SlC h (entVs l) l.length sv) :
    CallOk Try.prog 24 [starV lo hi sv] h (.bool (hasM lo hi l)) h := by
  have hb : OkBd (refRate lo hi l) := by rw [refRate_eq hS]; have h1 := loQ_bd hS; have h2 := hiQ_bd hS; exact ⟨h1.1, h1.2, h2.1, h2.2⟩
  have := refHas_ok h lo hi l hS hb sv hs
  rw [refRate_eq hS] at this
  exact this

theorem refStarError_ok (h : H) (lo hi : Int) (l : List E) (sv : V) (hl : l.length ≤ 9223372036854775807) (hs : SlC h (entVs l) l.length sv) :
    CallOk Try.prog 20 [starV lo hi sv] h (.int .i64 (staErr lo hi l)) h := by
  obtain ⟨vo, svC, hsv, hca, hvw⟩ := hs.view 0
  refine CallOk.run Try.func20 rfl rfl (argsC := [starV lo hi svC]) (Nat.le_of_ble_eq_true rfl) [vo] (.cons (CaL.agg (.cons (.bare rfl) (.cons (.bare rfl) (.cons (hca _ rfl) .nil)))) .nil) (viewMc1 entVs_bare hvw) rfl (WpR.of_vc ?_)
  have hBare := @entVs_bare l
  cases hsv with
  | nil h0 =>
    have e1 : starErr lo hi l = 6 := by unfold starErr; rw [if_pos (by omega)]
    (conv => whnf); (repeat' (first | ((with_reducible refine ifb_mk (fun hc => ?_) (fun hc => ?_)) <;> ((try simp only [decide_eq_true_eq, decide_eq_false_iff_not, Bool.not_eq_true', Bool.not_eq_false', Int.not_lt, Int.not_le, ne_eq, Decidable.not_not, beq_iff_eq, List.cons.injEq, and_true] at hc); (first | (exfalso; omega) | conv => whnf))) | ((with_reducible refine And.intro True.intro ?_); conv => whnf) | ((with_reducible refine CallX.all ?_); refine CallW.of_ok (refCheckStar_ok _ lo hi l _ hl (SlC.none h0)) ?_; conv => whnf) | ((with_reducible refine And.intro ?hh ?_); (case hh => (unfold InR; (try dsimp only); omega)); conv => whnf) | ((with_reducible refine And.intro ?hh ?_); (case hh => ((try dsimp only); omega)); conv => whnf) | ((with_reducible refine And.intro ?hh ?_); (case hh => ((conv => whnf); (repeat' (first | exact True.intro | rfl | refine And.intro ?_ ?_)); done)); conv => whnf) | fail))
    all_goals (refine ⟨[], ?_, rfl, rfl, trivial, (by (repeat' (first | exact True.intro | rfl | refine And.intro ?_ ?_)))⟩; simp only [renV, renL]; grind [staErr])
  | @sl cap ex =>
  (conv => whnf); (repeat' (first | ((with_reducible refine ifb_mk (fun hc => ?_) (fun hc => ?_)) <;> ((try simp only [decide_eq_true_eq, decide_eq_false_iff_not, Bool.not_eq_true', Bool.not_eq_false', Int.not_lt, Int.not_le, ne_eq, Decidable.not_not, beq_iff_eq, List.cons.injEq, and_true] at hc); (first | (exfalso; omega) | conv => whnf))) | ((with_reducible refine And.intro True.intro ?_); conv => whnf) | ((with_reducible refine CallX.all ?_); refine CallW.of_ok (refCheckStar_ok _ lo hi l _ hl (SlC.own rfl)) ?_; conv => whnf) | ((with_reducible refine And.intro ?hh ?_); (case hh => (unfold InR; (try dsimp only); omega)); conv => whnf) | ((with_reducible refine And.intro ?hh ?_); (case hh => ((try dsimp only); omega)); conv => whnf) | ((with_reducible refine And.intro ?hh ?_); (case hh => ((conv => whnf); (repeat' (first | exact True.intro | rfl | refine And.intro ?_ ?_)); done)); conv => whnf) | fail))
  · (refine ⟨[], ?_, rfl, rfl, trivial, (by (repeat' (first | exact True.intro | rfl | refine And.intro ?_ ?_)))⟩; simp only [renV, renL]; grind [staErr])
  have hS := starErr_ok hc
  have e1 : staErr lo hi l = if hasM lo hi l then 0 else 17 := by unfold staErr; rw [if_pos hc]
  rw [e1]
  (conv => whnf); (repeat' (first | ((with_reducible refine ifb_mk (fun hc => ?_) (fun hc => ?_)) <;> ((try simp only [decide_eq_true_eq, decide_eq_false_iff_not, Bool.not_eq_true', Bool.not_eq_false', Int.not_lt, Int.not_le, ne_eq, Decidable.not_not, beq_iff_eq, List.cons.injEq, and_true] at hc); (first | (exfalso; omega) | conv => whnf))) | ((with_reducible refine And.intro True.intro ?_); conv => whnf) | ((with_reducible refine CallX.all ?_); refine CallW.of_ok (refHas2_ok _ lo hi l hS _ (SlC.own rfl)) ?_; conv => whnf) | ((with_reducible refine And.intro ?hh ?_); (case hh => (unfold InR; (try dsimp only); omega)); conv => whnf) | ((with_reducible refine And.intro ?hh ?_); (case hh => ((try dsimp only); omega)); conv => whnf) | ((with_reducible refine And.intro ?hh ?_); (case hh => ((conv => whnf); (repeat' (first | exact True.intro | rfl | refine And.intro ?_ ?_)); done)); conv => whnf) | fail))
  · rw [hc]; (refine ⟨[], ?_, rfl, rfl, trivial, (by (repeat' (first | exact True.intro | rfl | refine And.intro ?_ ?_)))⟩; simp only [renV, renL]; rfl)
  · rw [hc]; (refine ⟨[], ?_, rfl, rfl, trivial, (by (repeat' (first | exact True.intro | rfl | refine And.intro ?_ ?_)))⟩; simp only [renV, renL]; rfl)
end Go.Proofs.D

namespace Go.Proofs.D
open Go.As
set_option maxRecDepth 20000
set_option linter.unusedVariables false
set_option linter.unusedSimpArgs false

theorem great_ok (h : H) (lo hi : Int) (l : List E) (sv : V) (hl : l.length ≤ 9223372036854775807) (hs : SlC h (entVs l) l.length sv) :
    CallOk Try.prog 15 [starV lo hi sv] h (.bool (decide ((20 : Int) < (l.length : Int)))) h := by
  obtain ⟨vo, svC, hsv, hca, hvw⟩ := hs.view 0
  refine CallOk.run Try.func15 rfl rfl (argsC := [starV lo hi svC]) (Nat.le_of_ble_eq_true rfl) [vo] (.cons (CaL.agg (.cons (.bare rfl) (.cons (.bare rfl) (.cons (hca _ rfl) .nil)))) .nil) (viewMc1 entVs_bare hvw) rfl (WpR.of_vc ?_)
  cases hsv with
  | nil h0 =>
    rw [h0]
    (conv => whnf); (repeat' (first | ((with_reducible refine ifb_mk (fun hc => ?_) (fun hc => ?_)) <;> ((try simp only [decide_eq_true_eq, decide_eq_false_iff_not, Bool.not_eq_true', Bool.not_eq_false', Int.not_lt, Int.not_le, ne_eq, Decidable.not_not, beq_iff_eq, List.cons.injEq, and_true] at hc); (first | (exfalso; omega) | conv => whnf))) | ((with_reducible refine And.intro True.intro ?_); conv => whnf) | ((with_reducible refine And.intro ?hh ?_); (case hh => (unfold InR; (try dsimp only); omega)); conv => whnf) | ((with_reducible refine And.intro ?hh ?_); (case hh => ((try dsimp only); omega)); conv => whnf) | ((with_reducible refine And.intro ?hh ?_); (case hh => ((conv => whnf); (repeat' (first | exact True.intro | rfl | refine And.intro ?_ ?_)); done)); conv => whnf) | fail))
    all_goals (refine ⟨[], ?_, rfl, rfl, trivial, (by (repeat' (first | exact True.intro | rfl | refine And.intro ?_ ?_)))⟩; simp only [renV, renL]; grind)
  | @sl cap ex =>
    (conv => whnf); (repeat' (first | ((with_reducible refine ifb_mk (fun hc => ?_) (fun hc => ?_)) <;> ((try simp only [decide_eq_true_eq, decide_eq_false_iff_not, Bool.not_eq_true', Bool.not_eq_false', Int.not_lt, Int.not_le, ne_eq, Decidable.not_not, beq_iff_eq, List.cons.injEq, and_true] at hc); (first | (exfalso; omega) | conv => whnf))) | ((with_reducible refine And.intro True.intro ?_); conv => whnf) | ((with_reducible refine And.intro ?hh ?_); (case hh => (unfold InR; (try dsimp only); omega)); conv => whnf) | ((with_reducible refine And.intro ?hh ?_); (case hh => ((try dsimp only); omega)); conv => whnf) | ((with_reducible refine And.intro ?hh ?_); (case hh => ((conv => whnf); (repeat' (first | exact True.intro | rfl | refine And.intro ?_ ?_)); done)); conv => whnf) | fail))
    (refine ⟨[], ?_, rfl, rfl, trivial, (by (repeat' (first | exact True.intro | rfl | refine And.intro ?_ ?_)))⟩; simp only [renV, renL]; (first | done | rfl | simp | grind))

end Go.Proofs.D

namespace Go.Proofs.D
open Go.As
set_option maxRecDepth 20000
set_option linter.unusedVariables false
set_option linter.unusedSimpArgs false

theorem clash_chk {lo hi : Int} {l : List E} (h : clashR lo hi l = 0) : chkC lo hi l (tgt lo hi l 0) (tgt lo hi l 1) = 0 ∧ starErr lo hi l = 0 ∧ hasM lo hi l = false := by
  unfold clashR at h
  have h0 : starErr lo hi l = 0 := by grind
  have hm : hasM lo hi l = false := by grind
  have hS := starErr_ok h0
  have t0 := isPairB_mem.2 (tgt_ok hS (s := 0) (.inl rfl)).mem
  have t1 := isPairB_mem.2 (tgt_ok hS (s := 1) (.inr rfl)).mem
  refine ⟨?_, h0, hm⟩
  have g0 : isPairB l.length (tgt lo hi l 0).1 (tgt lo hi l 0).2 = true := t0
  have g1 : isPairB l.length (tgt lo hi l 1).1 (tgt lo hi l 1).2 = true := t1
  rw [chkC_eq h0, g0, g1]
  unfold hasM loQ hiQ at hm
  simp only [Bool.not_eq_false', decide_eq_true_eq] at hm
  simp only [Bool.and_self, if_true]
  rw [if_pos hm]

end Go.Proofs.D

namespace Go.Proofs.D
open Go.As
set_option maxRecDepth 20000
set_option linter.unusedVariables false
set_option linter.unusedSimpArgs false

/-! ### Motions that reach an end -/

def sideE (s : Int) (e : E) : Int := if s = 1 then e.2.2 else e.2.1
def cardV (lo hi : Int) (sv : V) (m : Nat) : V := .agg [.int .i64 lo, .int .i64 hi, sv, .map m]
def crossQ (s : Int) (e f : E) : Int × Int := fr (sideE s f - sideE s e) (f.1 - e.1)

theorem crossing_ok (h : H) (lo hi : Int) (l : List E) (hS : OkS lo hi l) (sv : V) (hsv : SlC h (entVs l) l.length sv) (B : List ((Int × Int) × Bd × Nat)) (clock : Nat) (m : Nat) (hm : h.get m = some (.map (mapB B) clock)) (s : Int) (hs : s = 0 ∨ s = 1)
    (i j : Nat) (e f : E) (hij : i < j) (he : l[i]? = some e) (hf : l[j]? = some f) :
    CallOk Try.prog 117 [cardV lo hi sv m, pV ((i : Int), (j : Int)), .int .i64 s] h (qV (crossQ s e f)) h := by
  obtain ⟨vo, svC, hsv', hca, hvw⟩ := hsv.view 0
  obtain ⟨cap, ex, rfl⟩ := Sv.pos hsv' hS.one
  have hn := hS.most
  have hBare := @entVs_bare l
  have h1 := hS.ent _ _ he
  have h2 := hS.ent _ _ hf
  have h3 := hS.inc _ _ _ _ hij he hf
  have hil := (List.getElem?_eq_some_iff.1 he).1
  have hjl := (List.getElem?_eq_some_iff.1 hf).1
  refine CallOk.run Try.func117 rfl rfl (argsC := [cardV lo hi (.sl 0 0 l.length cap ex) 1, pV ((i : Int), (j : Int)), .int .i64 s]) (bs := [.cells (ofL (entVs l) 0) false none, .map (mapB B) clock]) (Nat.le_of_ble_eq_true rfl) [vo, some (m, 0)] (.cons (CaL.agg (.cons (.bare rfl) (.cons (.bare rfl) (.cons (hca _ rfl) (.cons (.map rfl) .nil))))) (CaL.lt0 rfl)) (viewMcm hBare hvw hm (fun e he => by obtain ⟨x, _, rfl⟩ := List.mem_map.1 he; rfl)) rfl (WpR.of_vc ?_)
  rcases hs with rfl | rfl
  · (conv => whnf); (repeat' (first | ((with_reducible refine ifb_mk (fun hc => ?_) (fun hc => ?_)) <;> ((try simp only [decide_eq_true_eq, decide_eq_false_iff_not, Bool.not_eq_true', Bool.not_eq_false', Int.not_lt, Int.not_le, ne_eq, Decidable.not_not, beq_iff_eq, List.cons.injEq, and_true] at hc); (first | (exfalso; omega) | conv => whnf))) | ((with_reducible refine And.intro True.intro ?_); conv => whnf) | ((with_reducible refine WpR.draw (id := 1) mixed [0, 1, 2, 3, 5, 7, 8, 9, 10, 12, 4, 6, 11, 13, 14, 15] [0, 1, 0, 4, 15, 0, 63, 0, 128, 0, 512, 1951, 0, 8095, 16383, 32767] ?hh ?_); (case hh => kernel_rfl); conv => whnf) | ((with_reducible refine WpR.draw (id := 2) mixed [0, 1, 2, 3, 4, 5, 6, 7, 8, 9, 10, 11, 12, 13, 14, 15, 16, 17, 18, 19] [0, 0, 2, 6, 0, 16, 62, 126, 254, 0, 512, 1536, 0, 4096, 15872, 32256, 65024, 131070, 262143, 524287] ?hh ?_); (case hh => kernel_rfl); conv => whnf) | ((with_reducible refine grd_ex ?_); refine ex_ok (endsOf_ok _ lo hi l _ j f hf (SlC.own rfl)) ?_; conv => whnf) | ((with_reducible refine grd_ex ?_); refine ex_ok (endsOf_ok _ lo hi l _ i e he (SlC.own rfl)) ?_; conv => whnf) | ((with_reducible refine grd_get ?_); refine som_mk (a := ?_) ?hh ?_; (case hh => exact entGet0 he); conv => whnf) | ((with_reducible refine grd_get ?_); refine som_mk (a := ?_) ?hh ?_; (case hh => exact entGet0 hf); conv => whnf) | ((with_reducible refine grd_ex ?_); refine ex_ok (fraction_ok _ _ _ (by unfold InQ; omega) (by omega)) ?_; conv => whnf) | ((with_reducible refine And.intro ?hh ?_); (case hh => (unfold InR; (try dsimp only); omega)); conv => whnf) | ((with_reducible refine And.intro ?hh ?_); (case hh => ((try dsimp only); omega)); conv => whnf) | ((with_reducible refine And.intro ?hh ?_); (case hh => ((conv => whnf); (repeat' (first | exact True.intro | rfl | refine And.intro ?_ ?_)); done)); conv => whnf) | fail))
    all_goals (refine ⟨[], ?_, rfl, rfl, trivial, (by (repeat' (first | exact True.intro | rfl | refine And.intro ?_ ?_)))⟩; first | rfl | (simp only [renV, renL]; first | done | rfl | (congr 1; grind [crossQ, sideE]) | grind [crossQ, sideE]))
  · (conv => whnf); (repeat' (first | ((with_reducible refine ifb_mk (fun hc => ?_) (fun hc => ?_)) <;> ((try simp only [decide_eq_true_eq, decide_eq_false_iff_not, Bool.not_eq_true', Bool.not_eq_false', Int.not_lt, Int.not_le, ne_eq, Decidable.not_not, beq_iff_eq, List.cons.injEq, and_true] at hc); (first | (exfalso; omega) | conv => whnf))) | ((with_reducible refine And.intro True.intro ?_); conv => whnf) | ((with_reducible refine WpR.draw (id := 1) mixed [0, 1, 2, 3, 5, 7, 8, 9, 10, 12, 4, 6, 11, 13, 14, 15] [0, 1, 0, 4, 15, 0, 63, 0, 128, 0, 512, 1951, 0, 8095, 16383, 32767] ?hh ?_); (case hh => kernel_rfl); conv => whnf) | ((with_reducible refine WpR.draw (id := 2) mixed [0, 1, 2, 3, 4, 5, 6, 7, 8, 9, 10, 11, 12, 13, 14, 15, 16, 17, 18, 19] [0, 0, 2, 6, 0, 16, 62, 126, 254, 0, 512, 1536, 0, 4096, 15872, 32256, 65024, 131070, 262143, 524287] ?hh ?_); (case hh => kernel_rfl); conv => whnf) | ((with_reducible refine grd_ex ?_); refine ex_ok (endsOf_ok _ lo hi l _ j f hf (SlC.own rfl)) ?_; conv => whnf) | ((with_reducible refine grd_ex ?_); refine ex_ok (endsOf_ok _ lo hi l _ i e he (SlC.own rfl)) ?_; conv => whnf) | ((with_reducible refine grd_get ?_); refine som_mk (a := ?_) ?hh ?_; (case hh => exact entGet0 he); conv => whnf) | ((with_reducible refine grd_get ?_); refine som_mk (a := ?_) ?hh ?_; (case hh => exact entGet0 hf); conv => whnf) | ((with_reducible refine grd_ex ?_); refine ex_ok (fraction_ok _ _ _ (by unfold InQ; omega) (by omega)) ?_; conv => whnf) | ((with_reducible refine And.intro ?hh ?_); (case hh => (unfold InR; (try dsimp only); omega)); conv => whnf) | ((with_reducible refine And.intro ?hh ?_); (case hh => ((try dsimp only); omega)); conv => whnf) | ((with_reducible refine And.intro ?hh ?_); (case hh => ((conv => whnf); (repeat' (first | exact True.intro | rfl | refine And.intro ?_ ?_)); done)); conv => whnf) | fail))
    all_goals (refine ⟨[], ?_, rfl, rfl, trivial, (by (repeat' (first | exact True.intro | rfl | refine And.intro ?_ ?_)))⟩; first | rfl | (simp only [renV, renL]; first | done | rfl | (congr 1; grind [crossQ, sideE]) | grind [crossQ, sideE]))
end Go.Proofs.D

namespace Go.Proofs.D
open Go.As
set_option maxRecDepth 20000
set_option linter.unusedVariables false
set_option linter.unusedSimpArgs false

def startQ (s : Int) (r : Int × Int) (e : E) : Int × Int := fr (sideE s e * r.2 + r.1 * (-e.1) * 1) (1 * r.2)
def bestQ (s : Int) (l : List (Int × Int)) : Option (Int × Int) := l.foldl (stepB (tighterF s)) none
def outQ (s : Int) (r : Int × Int) (l : List E) : Int × Int := (bestQ s (l.map (startQ s r))).getD (0, 0)

/-- A rate between the ends. -/
def OkR (r : Int × Int) : Prop := (-20000 ≤ r.1 ∧ r.1 ≤ 20000) ∧ 1 ≤ r.2 ∧ r.2 ≤ 200

theorem mul_bd {a b m n : Int} (hm : 0 ≤ m) (ha : -m ≤ a ∧ a ≤ m) (hb : 0 ≤ b ∧ b ≤ n) : -(m * n) ≤ a * b ∧ a * b ≤ m * n := by
  have h1 := Int.mul_le_mul_of_nonneg_right ha.2 hb.1
  have h2 := Int.mul_le_mul_of_nonneg_left hb.2 hm
  have h3 := Int.mul_le_mul_of_nonneg_right ha.1 hb.1
  have h4 : -m * b = -(m * b) := Int.neg_mul ..
  omega

structure StartOk (s : Int) (r : Int × Int) (e : E) : Prop where
  a : -2000000 ≤ sideE s e * r.2 ∧ sideE s e * r.2 ≤ 2000000
  b : -4000000 ≤ r.1 * (-e.1) ∧ r.1 * (-e.1) ≤ 4000000
  num : -6000000 ≤ (startQ s r e).1 ∧ (startQ s r e).1 ≤ 6000000
  den : 1 ≤ (startQ s r e).2 ∧ (startQ s r e).2 ≤ 200

theorem start_ok {s : Int} {r : Int × Int} (hr : OkR r) {e : E} (he : 0 ≤ e.1 ∧ e.1 ≤ 200 ∧ -10000 ≤ e.2.1 ∧ e.2.1 ≤ e.2.2 ∧ e.2.2 ≤ 10000) : StartOk s r e := by
  obtain ⟨h1, h2, h3⟩ := hr
  have hs : -10000 ≤ sideE s e ∧ sideE s e ≤ 10000 := by unfold sideE; split <;> omega
  have ha := mul_bd (by decide : (0 : Int) ≤ 10000) hs (⟨by omega, h3⟩ : 0 ≤ r.2 ∧ r.2 ≤ 200)
  have hb := mul_bd (by decide : (0 : Int) ≤ 20000) h1 (⟨he.1, he.2.1⟩ : 0 ≤ e.1 ∧ e.1 ≤ 200)
  have hb' : r.1 * (-e.1) = -(r.1 * e.1) := Int.mul_neg ..
  have hn : 0 < 1 * r.2 := by omega
  exact ⟨by omega, by omega, fr_bd hn (by omega), fr_den hn (by omega)⟩

theorem InR_mul6 {a d : Int} (h1 : -6000000 ≤ a ∧ a ≤ 6000000) (h2 : 1 ≤ d ∧ d ≤ 200) : InR (a * d) := by
  have := mul_bd (by decide : (0 : Int) ≤ 6000000) h1 (⟨by omega, h2.2⟩ : 0 ≤ d ∧ d ≤ 200)
  unfold InR; omega

theorem tight6_ok (h : H) (s : Int) (a b : Int × Int) (h1 : -6000000 ≤ a.1 ∧ a.1 ≤ 6000000) (h2 : 1 ≤ a.2 ∧ a.2 ≤ 200) (h3 : -6000000 ≤ b.1 ∧ b.1 ≤ 6000000) (h4 : 1 ≤ b.2 ∧ b.2 ≤ 200) : CallOk Try.prog 98 [.int .i64 s, .agg [.int .i64 a.1, .int .i64 a.2], .agg [.int .i64 b.1, .int .i64 b.2]] h (.bool (tighterF s a b)) h :=
  tighter_ok h s a.1 a.2 b.1 b.2 (InR_mul6 h1 h4) (InR_mul6 h3 h2)

theorem whole_ok' (h : H) (n : Int) : CallOk Try.prog 92 [.int .i64 n] h (.agg [.int .i64 n, .int .i64 1]) h := by
  refine CallOk.run0 Try.func92 rfl rfl rfl rfl rfl (WpR.of_vc ?_)
  (conv => whnf); (repeat' (first | ((with_reducible refine ifb_mk (fun hc => ?_) (fun hc => ?_)) <;> ((try simp only [decide_eq_true_eq, decide_eq_false_iff_not, Bool.not_eq_true', Bool.not_eq_false', Int.not_lt, Int.not_le, ne_eq, Decidable.not_not, beq_iff_eq, List.cons.injEq, and_true] at hc); (first | (exfalso; omega) | conv => whnf))) | ((with_reducible refine And.intro True.intro ?_); conv => whnf) | ((with_reducible refine And.intro ?hh ?_); (case hh => (unfold InR; (try dsimp only); omega)); conv => whnf) | ((with_reducible refine And.intro ?hh ?_); (case hh => ((try dsimp only); omega)); conv => whnf) | ((with_reducible refine And.intro ?hh ?_); (case hh => ((conv => whnf); (repeat' (first | exact True.intro | rfl | refine And.intro ?_ ?_)); done)); conv => whnf) | fail))
  all_goals (refine ⟨[], ?_, rfl, rfl, trivial, (by (repeat' (first | exact True.intro | rfl | refine And.intro ?_ ?_)))⟩; first | rfl | (simp only [renV, renL]; first | done | rfl | (congr 1; grind []) | grind []))

theorem bestQ_in {s : Int} {L : List (Int × Int)} : ∀ {f : Int × Int}, bestQ s L = some f → f ∈ L := by
  have : ∀ (l : List (Int × Int)) (a : Option (Int × Int)), ∀ f, l.foldl (stepB (tighterF s)) a = some f → f ∈ l ∨ a = some f := by
    intro l
    induction l with
    | nil => intro a f hf; exact .inr hf
    | cons x l ih =>
      intro a f hf
      rcases ih _ f hf with h1 | h1
      · exact .inl (List.mem_cons_of_mem _ h1)
      · cases a with
        | none => cases h1; exact .inl (List.mem_cons_self ..)
        | some g =>
          simp only [stepB, Option.some.injEq] at h1
          split at h1
          · subst h1; exact .inl (List.mem_cons_self ..)
          · subst h1; exact .inr rfl
  intro f hf
  rcases this L none f hf with h1 | h1
  · exact h1
  · cases h1

theorem bestQ_take {s : Int} {L : List (Int × Int)} {k : Nat} {x : Int × Int} (h : L[k]? = some x) : bestQ s (L.take (k + 1)) = stepB (tighterF s) (bestQ s (L.take k)) x := foldl_take _ _ h

theorem startV_ok (h : H) (s : Int) (r : Int × Int) (hr : OkR r) (e : E) (he : 0 ≤ e.1 ∧ e.1 ≤ 200 ∧ -10000 ≤ e.2.1 ∧ e.2.1 ≤ e.2.2 ∧ e.2.2 ≤ 10000) (u : Int) (hu : u = sideE s e) : CallOk Try.prog 102 [.agg [.int .i64 u, .int .i64 1], .agg [.int .i64 r.1, .int .i64 r.2], .int .i64 (-e.1)] h (.agg [.int .i64 (startQ s r e).1, .int .i64 (startQ s r e).2]) h := by
  subst hu
  have hS := start_ok (s := s) hr he
  have h1 := hS.a
  have h2 := hS.b
  have h3 := hr.2
  exact plus_ok h (sideE s e) 1 r.1 r.2 (-e.1) (by unfold InR; omega) (by unfold InR; omega) (by unfold InR; omega) (by unfold InQ; omega) (by omega)

set_option maxHeartbeats 2000000 in
theorem outermost_ok (h : H) (lo hi : Int) (l : List E) (hS : OkS lo hi l) (sv : V) (hsv : SlC h (entVs l) l.length sv) (B : List ((Int × Int) × Bd × Nat)) (clock : Nat) (m : Nat) (hm : h.get m = some (.map (mapB B) clock)) (s : Int) (hs : s = 0 ∨ s = 1)
    (r : Int × Int) (hr : OkR r) :
    CallOk Try.prog 116 [cardV lo hi sv m, qV r, .int .i64 s] h (.agg [.int .i64 (outQ s r l).1, .int .i64 (outQ s r l).2, .int .i64 r.1, .int .i64 r.2]) h := by
  obtain ⟨vo, svC, hsv', hca, hvw⟩ := hsv.view 0
  obtain ⟨cap, ex, rfl⟩ := Sv.pos hsv' hS.one
  have hn := hS.most
  have hBare := @entVs_bare l
  have hMap : ∀ n, ltB n (.map (mapB B) clock) := fun _ => ltB_mapB
  refine CallOk.run Try.func116 rfl rfl (argsC := [cardV lo hi (.sl 0 0 l.length cap ex) 1, qV r, .int .i64 s]) (bs := [.cells (ofL (entVs l) 0) false none, .map (mapB B) clock]) (Nat.le_of_ble_eq_true rfl) [vo, some (m, 0)] (.cons (CaL.agg (.cons (.bare rfl) (.cons (.bare rfl) (.cons (hca _ rfl) (.cons (.map rfl) .nil))))) (CaL.lt0 rfl)) (viewMcm hBare hvw hm (fun e he => by obtain ⟨x, _, rfl⟩ := List.mem_map.1 he; rfl)) rfl (WpR.of_vc ?_)
  (conv => whnf); (repeat' (first | ((with_reducible refine ifb_mk (fun hc => ?_) (fun hc => ?_)) <;> ((try simp only [decide_eq_true_eq, decide_eq_false_iff_not, Bool.not_eq_true', Bool.not_eq_false', Int.not_lt, Int.not_le, ne_eq, Decidable.not_not, beq_iff_eq, List.cons.injEq, and_true] at hc); (first | (exfalso; omega) | conv => whnf))) | ((with_reducible refine And.intro True.intro ?_); conv => whnf) | ((with_reducible refine CallX.all (f := 121) ?_); refine CallW.inline Try.func121 rfl rfl (Nat.le_of_ble_eq_true rfl) (WpR.of_vc ?_); conv => whnf) | ((with_reducible refine RangeX.all ?_); conv => whnf) | ((with_reducible refine CallW.inline (f := 120) Try.func120 rfl rfl (Nat.le_of_ble_eq_true rfl) (WpR.of_vc ?_)); conv => whnf) | ((with_reducible refine And.intro ?hh ?_); (case hh => (unfold InR; (try dsimp only); omega)); conv => whnf) | ((with_reducible refine And.intro ?hh ?_); (case hh => ((try dsimp only); omega)); conv => whnf) | ((with_reducible refine And.intro ?hh ?_); (case hh => ((conv => whnf); (repeat' (first | exact True.intro | rfl | refine And.intro ?_ ?_)); done)); conv => whnf) | fail))
  have hL : ∀ k e, l[k]? = some e → (l.map (startQ s r))[k]? = some (startQ s r e) := fun k e he => by rw [List.getElem?_map, he]; rfl
  refine WpR.loopD (ι := Nat) [] [0, 1, 2, 3, 9, 10] [8, 9] [] 12 (fun i => [(11, .int .i64 i)]) (fun i => [(8, .cells (ofL [.int .i64 ((bestQ s ((l.map (startQ s r)).take i)).getD (0, 0)).1, .int .i64 ((bestQ s ((l.map (startQ s r)).take i)).getD (0, 0)).2] 0) true none), (9, .cells (ofL [.bool (bestQ s ((l.map (startQ s r)).take i)).isNone] 0) true none)]) (fun i => l.length - i) (fun i => i ≤ l.length) ?_ (0) (Nat.zero_le _) [] ⟨rfl, rfl, (by (repeat' (first | exact True.intro | rfl | refine And.intro ?_ ?_))), (by (repeat' (first | exact True.intro | rfl | refine And.intro ?_ ?_))), (by (repeat' (first | exact True.intro | rfl | refine And.intro ?_ ?_))), (by (repeat' (first | exact True.intro | exact Or.inl rfl | refine And.intro ?_ ?_ | refine Or.inr ⟨_, rfl, ?_⟩ | exact SubQ.same (n := 1000) (Y := []) (fun _ _ _ => rfl) (by first | exact True.intro | exact ltB_all rfl | exact ltB_ofLb (by first | exact bare0_ints | assumption | (intro v hv; (repeat (rcases List.mem_cons.1 hv with rfl | hv; exact rfl)); cases hv)) | exact ltB_loop rfl rfl | exact hMap _ | exact hMap2 _ | exact grB_lt (by first | exact bare0_ints | assumption | (intro v hv; (repeat (rcases List.mem_cons.1 hv with rfl | hv; exact rfl)); cases hv)) _ | exact ltB_mapB | assumption) (avB_nil _) rfl | exact SubQ.ofL (by first | rfl | simp) (by first | exact bare0_ints | assumption | (intro v hv; (repeat (rcases List.mem_cons.1 hv with rfl | hv; exact rfl)); cases hv)) (by first | exact Or.inl rfl | exact Or.inr rfl) | exact SubQ.fin (by (conv => whnf); (repeat' (first | exact True.intro | rfl | refine And.intro ?_ ?_)); done) (fun h => h) (by first | exact Or.inl rfl | exact Or.inr rfl)))), rfl, rfl⟩ rfl rfl rfl (fun _ => rfl) (by (repeat' (first | exact True.intro | refine And.intro ?_ ?_ | exact avV_nil _ | rfl))) (by (repeat' (first | exact True.intro | (with_reducible exact avB_nil _) | ((with_reducible refine avB_all ?_); rfl) | ((with_reducible refine avB_ofLb ?_); exact (by first | exact bare0_ints | assumption | (intro v hv; (repeat (rcases List.mem_cons.1 hv with rfl | hv; exact rfl)); cases hv))) | ((with_reducible refine ltB_all ?_); rfl) | ((with_reducible refine ltB_ofLb ?_); exact (by first | exact bare0_ints | assumption | (intro v hv; (repeat (rcases List.mem_cons.1 hv with rfl | hv; exact rfl)); cases hv))) | ((with_reducible refine ltB_loop ?_ ?_) <;> rfl) | (with_reducible exact hMap _) | (with_reducible exact hMap2 _) | (with_reducible exact ltB_mapB) | ((with_reducible refine grB_lt ?_ _); exact (by first | exact bare0_ints | assumption | (intro v hv; (repeat (rcases List.mem_cons.1 hv with rfl | hv; exact rfl)); cases hv))) | (with_reducible assumption) | refine And.intro ?_ ?_ | exact (by first | exact True.intro | exact ltB_all rfl | exact ltB_ofLb (by first | exact bare0_ints | assumption | (intro v hv; (repeat (rcases List.mem_cons.1 hv with rfl | hv; exact rfl)); cases hv)) | exact ltB_loop rfl rfl | exact hMap _ | exact hMap2 _ | exact grB_lt (by first | exact bare0_ints | assumption | (intro v hv; (repeat (rcases List.mem_cons.1 hv with rfl | hv; exact rfl)); cases hv)) _ | exact ltB_mapB | assumption)))) (fun _ _ => (by (repeat' (first | exact True.intro | rfl | refine And.intro ?_ ?_ | exact (by decide) | exact (by first | exact True.intro | exact hMap _ | exact hMap2 _ | exact grB_lt (by first | exact bare0_ints | assumption | (intro v hv; (repeat (rcases List.mem_cons.1 hv with rfl | hv; exact rfl)); cases hv)) _ | exact ltB_all rfl | exact ltB_ofLb (by first | exact bare0_ints | assumption | (intro v hv; (repeat (rcases List.mem_cons.1 hv with rfl | hv; exact rfl)); cases hv)) | exact ltB_loop rfl rfl | exact ltB_mapB | assumption))))) (fun _ _ => (by (repeat' (first | exact True.intro | rfl | refine And.intro ?_ ?_ | exact (by decide) | exact (by first | exact True.intro | exact hMap _ | exact hMap2 _ | exact grB_lt (by first | exact bare0_ints | assumption | (intro v hv; (repeat (rcases List.mem_cons.1 hv with rfl | hv; exact rfl)); cases hv)) _ | exact ltB_all rfl | exact ltB_ofLb (by first | exact bare0_ints | assumption | (intro v hv; (repeat (rcases List.mem_cons.1 hv with rfl | hv; exact rfl)); cases hv)) | exact ltB_loop rfl rfl | exact ltB_mapB | assumption))))) (fun _ _ => (by (repeat' (first | exact True.intro | rfl | refine And.intro ?_ ?_)))) rfl
  rintro i hi2
  refine WpR.of_vc ?_
  cases hx : l[i]? with
  | some e =>
    have hlt := (List.getElem?_eq_some_iff.1 hx).1
    have he := hS.ent _ _ hx
    have hso := start_ok (s := s) hr he
    have hb := bestQ_take (s := s) (hL i e hx)
    have e0 : ∀ h' sv', SlC h' (entVs l) l.length sv' → CallOk Try.prog 93 [starV lo hi sv', .int .i64 i] h' (.agg [.int .i64 e.2.1, .int .i64 e.2.2]) h' := fun h' sv' hs' => endsOf_ok h' lo hi l sv' i e hx hs'
    rcases hs with rfl | rfl
    all_goals (conv => whnf); (repeat' (first | ((with_reducible refine ifb_mk (fun hc => ?_) (fun hc => ?_)) <;> ((try simp only [decide_eq_true_eq, decide_eq_false_iff_not, Bool.not_eq_true', Bool.not_eq_false', Int.not_lt, Int.not_le, ne_eq, Decidable.not_not, beq_iff_eq, List.cons.injEq, and_true] at hc); (first | (exfalso; omega) | conv => whnf))) | ((with_reducible refine And.intro True.intro ?_); conv => whnf) | ((with_reducible refine grd_getN ?_); refine som_mk (a := ?_) ?hh ?_; (case hh => exact entGetN hx); conv => whnf) | ((with_reducible refine WpR.drawTail (id := 3) mixed 13 [0, 1, 2, 3, 5, 8, 9, 10, 11, 4, 6, 7, 12] [0, 0, 2, 0, 14, 0, 62, 126, 0, 0, 512, 1536, 4094] ?hh ?hk ?_); (case hh => kernel_rfl); (case hk => kernel_rfl); conv => whnf) | ((with_reducible refine grd_ex ?_); refine ex_ok (e0 _ _ (SlC.own rfl)) ?_; conv => whnf) | ((with_reducible refine grd_ex ?_); refine ex_ok (whole_ok' _ _) ?_; conv => whnf) | ((with_reducible refine grd_ex ?_); refine ex_ok (startV_ok _ 0 r hr e he _ rfl) ?_; conv => whnf) | ((with_reducible refine grd_ex ?_); refine ex_ok (startV_ok _ 1 r hr e he _ rfl) ?_; conv => whnf) | ((with_reducible refine And.intro ?hh ?_); (case hh => (unfold InR; (try dsimp only); omega)); conv => whnf) | ((with_reducible refine And.intro ?hh ?_); (case hh => ((try dsimp only); omega)); conv => whnf) | ((with_reducible refine And.intro ?hh ?_); (case hh => ((conv => whnf); (repeat' (first | exact True.intro | rfl | refine And.intro ?_ ?_)); done)); conv => whnf) | fail))
    all_goals (refine YldX.all ?_; refine YldW.inline rfl rfl rfl (WpR.of_vc ?_))
    · cases hacc : bestQ 0 ((l.map (startQ 0 r)).take i) with
      | none =>
        have hb2 : bestQ 0 ((l.map (startQ 0 r)).take (i + 1)) = some (startQ 0 r e) := by rw [hb, hacc]; rfl
        conv => whnf
        refine ⟨rfl, _, rfl, rfl, WpR.of_vc ?_⟩
        (conv => whnf); (repeat' (first | ((with_reducible refine ifb_mk (fun hc => ?_) (fun hc => ?_)) <;> ((try simp only [decide_eq_true_eq, decide_eq_false_iff_not, Bool.not_eq_true', Bool.not_eq_false', Int.not_lt, Int.not_le, ne_eq, Decidable.not_not, beq_iff_eq, List.cons.injEq, and_true] at hc); (first | (exfalso; omega) | conv => whnf))) | ((with_reducible refine And.intro True.intro ?_); conv => whnf) | ((with_reducible refine And.intro ?hh ?_); (case hh => (unfold InR; (try dsimp only); omega)); conv => whnf) | ((with_reducible refine And.intro ?hh ?_); (case hh => ((try dsimp only); omega)); conv => whnf) | ((with_reducible refine And.intro ?hh ?_); (case hh => ((conv => whnf); (repeat' (first | exact True.intro | rfl | refine And.intro ?_ ?_)); done)); conv => whnf) | fail))
        refine ⟨_, _, rfl, ?_⟩
        (conv => whnf); (repeat' (first | ((with_reducible refine ifb_mk (fun hc => ?_) (fun hc => ?_)) <;> ((try simp only [decide_eq_true_eq, decide_eq_false_iff_not, Bool.not_eq_true', Bool.not_eq_false', Int.not_lt, Int.not_le, ne_eq, Decidable.not_not, beq_iff_eq, List.cons.injEq, and_true] at hc); (first | (exfalso; omega) | conv => whnf))) | ((with_reducible refine And.intro True.intro ?_); conv => whnf) | ((with_reducible refine And.intro ?hh ?_); (case hh => (unfold InR; (try dsimp only); omega)); conv => whnf) | ((with_reducible refine And.intro ?hh ?_); (case hh => ((try dsimp only); omega)); conv => whnf) | ((with_reducible refine And.intro ?hh ?_); (case hh => ((conv => whnf); (repeat' (first | exact True.intro | rfl | refine And.intro ?_ ?_)); done)); conv => whnf) | fail))
        exact ⟨i + 1, [], by omega, by omega, by dsimp only; rw [hb2]; exact ⟨rfl, rfl, (by (repeat' (first | exact True.intro | rfl | refine And.intro ?_ ?_))), (by (repeat' (first | exact True.intro | rfl | refine And.intro ?_ ?_))), (by (repeat' (first | exact True.intro | rfl | refine And.intro ?_ ?_))), (by (repeat' (first | exact True.intro | exact Or.inl rfl | refine And.intro ?_ ?_ | refine Or.inr ⟨_, rfl, ?_⟩ | exact SubQ.same (n := 1000) (Y := []) (fun _ _ _ => rfl) (by first | exact True.intro | exact ltB_all rfl | exact ltB_ofLb (by first | exact bare0_ints | assumption | (intro v hv; (repeat (rcases List.mem_cons.1 hv with rfl | hv; exact rfl)); cases hv)) | exact ltB_loop rfl rfl | exact hMap _ | exact hMap2 _ | exact grB_lt (by first | exact bare0_ints | assumption | (intro v hv; (repeat (rcases List.mem_cons.1 hv with rfl | hv; exact rfl)); cases hv)) _ | exact ltB_mapB | assumption) (avB_nil _) rfl | exact SubQ.ofL (by first | rfl | simp) (by first | exact bare0_ints | assumption | (intro v hv; (repeat (rcases List.mem_cons.1 hv with rfl | hv; exact rfl)); cases hv)) (by first | exact Or.inl rfl | exact Or.inr rfl) | exact SubQ.fin (by (conv => whnf); (repeat' (first | exact True.intro | rfl | refine And.intro ?_ ?_)); done) (fun h => h) (by first | exact Or.inl rfl | exact Or.inr rfl)))), rfl, rfl⟩⟩
      | some f =>
        obtain ⟨e', he', rfl⟩ := List.mem_map.1 (List.mem_of_mem_take (bestQ_in hacc))
        obtain ⟨j', hj'⟩ := List.mem_iff_getElem?.1 he'
        have hso' := start_ok (s := 0) hr (hS.ent _ _ hj')
        conv => whnf
        refine ⟨rfl, _, rfl, rfl, WpR.of_vc ?_⟩
        (conv => whnf); (repeat' (first | ((with_reducible refine ifb_mk (fun hc => ?_) (fun hc => ?_)) <;> ((try simp only [decide_eq_true_eq, decide_eq_false_iff_not, Bool.not_eq_true', Bool.not_eq_false', Int.not_lt, Int.not_le, ne_eq, Decidable.not_not, beq_iff_eq, List.cons.injEq, and_true] at hc); (first | (exfalso; omega) | conv => whnf))) | ((with_reducible refine And.intro True.intro ?_); conv => whnf) | ((with_reducible refine CallX.all (f := 122) ?_); refine CallW.inline Try.func122 rfl rfl (Nat.le_of_ble_eq_true rfl) (WpR.of_vc ?_); conv => whnf) | ((with_reducible refine CallX.all ?_); refine CallW.of_ok (tight6_ok _ 0 _ _ hso.num hso.den hso'.num hso'.den) ?_; conv => whnf) | ((with_reducible refine And.intro ?hh ?_); (case hh => (unfold InR; (try dsimp only); omega)); conv => whnf) | ((with_reducible refine And.intro ?hh ?_); (case hh => ((try dsimp only); omega)); conv => whnf) | ((with_reducible refine And.intro ?hh ?_); (case hh => ((conv => whnf); (repeat' (first | exact True.intro | rfl | refine And.intro ?_ ?_)); done)); conv => whnf) | fail))
        · have hb2 : bestQ 0 ((l.map (startQ 0 r)).take (i + 1)) = some (startQ 0 r e) := by rw [hb, hacc]; exact stepB_true hc
          refine ⟨_, _, rfl, ?_⟩
          (conv => whnf); (repeat' (first | ((with_reducible refine ifb_mk (fun hc => ?_) (fun hc => ?_)) <;> ((try simp only [decide_eq_true_eq, decide_eq_false_iff_not, Bool.not_eq_true', Bool.not_eq_false', Int.not_lt, Int.not_le, ne_eq, Decidable.not_not, beq_iff_eq, List.cons.injEq, and_true] at hc); (first | (exfalso; omega) | conv => whnf))) | ((with_reducible refine And.intro True.intro ?_); conv => whnf) | ((with_reducible refine And.intro ?hh ?_); (case hh => (unfold InR; (try dsimp only); omega)); conv => whnf) | ((with_reducible refine And.intro ?hh ?_); (case hh => ((try dsimp only); omega)); conv => whnf) | ((with_reducible refine And.intro ?hh ?_); (case hh => ((conv => whnf); (repeat' (first | exact True.intro | rfl | refine And.intro ?_ ?_)); done)); conv => whnf) | fail))
          exact ⟨i + 1, [], by omega, by omega, by dsimp only; rw [hb2]; exact ⟨rfl, rfl, (by (repeat' (first | exact True.intro | rfl | refine And.intro ?_ ?_))), (by (repeat' (first | exact True.intro | rfl | refine And.intro ?_ ?_))), (by (repeat' (first | exact True.intro | rfl | refine And.intro ?_ ?_))), (by (repeat' (first | exact True.intro | exact Or.inl rfl | refine And.intro ?_ ?_ | refine Or.inr ⟨_, rfl, ?_⟩ | exact SubQ.same (n := 1000) (Y := []) (fun _ _ _ => rfl) (by first | exact True.intro | exact ltB_all rfl | exact ltB_ofLb (by first | exact bare0_ints | assumption | (intro v hv; (repeat (rcases List.mem_cons.1 hv with rfl | hv; exact rfl)); cases hv)) | exact ltB_loop rfl rfl | exact hMap _ | exact hMap2 _ | exact grB_lt (by first | exact bare0_ints | assumption | (intro v hv; (repeat (rcases List.mem_cons.1 hv with rfl | hv; exact rfl)); cases hv)) _ | exact ltB_mapB | assumption) (avB_nil _) rfl | exact SubQ.ofL (by first | rfl | simp) (by first | exact bare0_ints | assumption | (intro v hv; (repeat (rcases List.mem_cons.1 hv with rfl | hv; exact rfl)); cases hv)) (by first | exact Or.inl rfl | exact Or.inr rfl) | exact SubQ.fin (by (conv => whnf); (repeat' (first | exact True.intro | rfl | refine And.intro ?_ ?_)); done) (fun h => h) (by first | exact Or.inl rfl | exact Or.inr rfl)))), rfl, rfl⟩⟩
        · have hb2 : bestQ 0 ((l.map (startQ 0 r)).take (i + 1)) = some (startQ 0 r e') := by rw [hb, hacc]; exact stepB_false hc
          refine ⟨_, _, rfl, ?_⟩
          (conv => whnf); (repeat' (first | ((with_reducible refine ifb_mk (fun hc => ?_) (fun hc => ?_)) <;> ((try simp only [decide_eq_true_eq, decide_eq_false_iff_not, Bool.not_eq_true', Bool.not_eq_false', Int.not_lt, Int.not_le, ne_eq, Decidable.not_not, beq_iff_eq, List.cons.injEq, and_true] at hc); (first | (exfalso; omega) | conv => whnf))) | ((with_reducible refine And.intro True.intro ?_); conv => whnf) | ((with_reducible refine And.intro ?hh ?_); (case hh => (unfold InR; (try dsimp only); omega)); conv => whnf) | ((with_reducible refine And.intro ?hh ?_); (case hh => ((try dsimp only); omega)); conv => whnf) | ((with_reducible refine And.intro ?hh ?_); (case hh => ((conv => whnf); (repeat' (first | exact True.intro | rfl | refine And.intro ?_ ?_)); done)); conv => whnf) | fail))
          exact ⟨i + 1, [], by omega, by omega, by dsimp only; rw [hb2]; exact ⟨rfl, rfl, (by (repeat' (first | exact True.intro | rfl | refine And.intro ?_ ?_))), (by (repeat' (first | exact True.intro | rfl | refine And.intro ?_ ?_))), (by (repeat' (first | exact True.intro | rfl | refine And.intro ?_ ?_))), (by (repeat' (first | exact True.intro | exact Or.inl rfl | refine And.intro ?_ ?_ | refine Or.inr ⟨_, rfl, ?_⟩ | exact SubQ.same (n := 1000) (Y := []) (fun _ _ _ => rfl) (by first | exact True.intro | exact ltB_all rfl | exact ltB_ofLb (by first | exact bare0_ints | assumption | (intro v hv; (repeat (rcases List.mem_cons.1 hv with rfl | hv; exact rfl)); cases hv)) | exact ltB_loop rfl rfl | exact hMap _ | exact hMap2 _ | exact grB_lt (by first | exact bare0_ints | assumption | (intro v hv; (repeat (rcases List.mem_cons.1 hv with rfl | hv; exact rfl)); cases hv)) _ | exact ltB_mapB | assumption) (avB_nil _) rfl | exact SubQ.ofL (by first | rfl | simp) (by first | exact bare0_ints | assumption | (intro v hv; (repeat (rcases List.mem_cons.1 hv with rfl | hv; exact rfl)); cases hv)) (by first | exact Or.inl rfl | exact Or.inr rfl) | exact SubQ.fin (by (conv => whnf); (repeat' (first | exact True.intro | rfl | refine And.intro ?_ ?_)); done) (fun h => h) (by first | exact Or.inl rfl | exact Or.inr rfl)))), rfl, rfl⟩⟩
    · cases hacc : bestQ 1 ((l.map (startQ 1 r)).take i) with
      | none =>
        have hb2 : bestQ 1 ((l.map (startQ 1 r)).take (i + 1)) = some (startQ 1 r e) := by rw [hb, hacc]; rfl
        conv => whnf
        refine ⟨rfl, _, rfl, rfl, WpR.of_vc ?_⟩
        (conv => whnf); (repeat' (first | ((with_reducible refine ifb_mk (fun hc => ?_) (fun hc => ?_)) <;> ((try simp only [decide_eq_true_eq, decide_eq_false_iff_not, Bool.not_eq_true', Bool.not_eq_false', Int.not_lt, Int.not_le, ne_eq, Decidable.not_not, beq_iff_eq, List.cons.injEq, and_true] at hc); (first | (exfalso; omega) | conv => whnf))) | ((with_reducible refine And.intro True.intro ?_); conv => whnf) | ((with_reducible refine And.intro ?hh ?_); (case hh => (unfold InR; (try dsimp only); omega)); conv => whnf) | ((with_reducible refine And.intro ?hh ?_); (case hh => ((try dsimp only); omega)); conv => whnf) | ((with_reducible refine And.intro ?hh ?_); (case hh => ((conv => whnf); (repeat' (first | exact True.intro | rfl | refine And.intro ?_ ?_)); done)); conv => whnf) | fail))
        refine ⟨_, _, rfl, ?_⟩
        (conv => whnf); (repeat' (first | ((with_reducible refine ifb_mk (fun hc => ?_) (fun hc => ?_)) <;> ((try simp only [decide_eq_true_eq, decide_eq_false_iff_not, Bool.not_eq_true', Bool.not_eq_false', Int.not_lt, Int.not_le, ne_eq, Decidable.not_not, beq_iff_eq, List.cons.injEq, and_true] at hc); (first | (exfalso; omega) | conv => whnf))) | ((with_reducible refine And.intro True.intro ?_); conv => whnf) | ((with_reducible refine And.intro ?hh ?_); (case hh => (unfold InR; (try dsimp only); omega)); conv => whnf) | ((with_reducible refine And.intro ?hh ?_); (case hh => ((try dsimp only); omega)); conv => whnf) | ((with_reducible refine And.intro ?hh ?_); (case hh => ((conv => whnf); (repeat' (first | exact True.intro | rfl | refine And.intro ?_ ?_)); done)); conv => whnf) | fail))
        exact ⟨i + 1, [], by omega, by omega, by dsimp only; rw [hb2]; exact ⟨rfl, rfl, (by (repeat' (first | exact True.intro | rfl | refine And.intro ?_ ?_))), (by (repeat' (first | exact True.intro | rfl | refine And.intro ?_ ?_))), (by (repeat' (first | exact True.intro | rfl | refine And.intro ?_ ?_))), (by (repeat' (first | exact True.intro | exact Or.inl rfl | refine And.intro ?_ ?_ | refine Or.inr ⟨_, rfl, ?_⟩ | exact SubQ.same (n := 1000) (Y := []) (fun _ _ _ => rfl) (by first | exact True.intro | exact ltB_all rfl | exact ltB_ofLb (by first | exact bare0_ints | assumption | (intro v hv; (repeat (rcases List.mem_cons.1 hv with rfl | hv; exact rfl)); cases hv)) | exact ltB_loop rfl rfl | exact hMap _ | exact hMap2 _ | exact grB_lt (by first | exact bare0_ints | assumption | (intro v hv; (repeat (rcases List.mem_cons.1 hv with rfl | hv; exact rfl)); cases hv)) _ | exact ltB_mapB | assumption) (avB_nil _) rfl | exact SubQ.ofL (by first | rfl | simp) (by first | exact bare0_ints | assumption | (intro v hv; (repeat (rcases List.mem_cons.1 hv with rfl | hv; exact rfl)); cases hv)) (by first | exact Or.inl rfl | exact Or.inr rfl) | exact SubQ.fin (by (conv => whnf); (repeat' (first | exact True.intro | rfl | refine And.intro ?_ ?_)); done) (fun h => h) (by first | exact Or.inl rfl | exact Or.inr rfl)))), rfl, rfl⟩⟩
      | some f =>
        obtain ⟨e', he', rfl⟩ := List.mem_map.1 (List.mem_of_mem_take (bestQ_in hacc))
        obtain ⟨j', hj'⟩ := List.mem_iff_getElem?.1 he'
        have hso' := start_ok (s := 1) hr (hS.ent _ _ hj')
        conv => whnf
        refine ⟨rfl, _, rfl, rfl, WpR.of_vc ?_⟩
        (conv => whnf); (repeat' (first | ((with_reducible refine ifb_mk (fun hc => ?_) (fun hc => ?_)) <;> ((try simp only [decide_eq_true_eq, decide_eq_false_iff_not, Bool.not_eq_true', Bool.not_eq_false', Int.not_lt, Int.not_le, ne_eq, Decidable.not_not, beq_iff_eq, List.cons.injEq, and_true] at hc); (first | (exfalso; omega) | conv => whnf))) | ((with_reducible refine And.intro True.intro ?_); conv => whnf) | ((with_reducible refine CallX.all (f := 122) ?_); refine CallW.inline Try.func122 rfl rfl (Nat.le_of_ble_eq_true rfl) (WpR.of_vc ?_); conv => whnf) | ((with_reducible refine CallX.all ?_); refine CallW.of_ok (tight6_ok _ 1 _ _ hso.num hso.den hso'.num hso'.den) ?_; conv => whnf) | ((with_reducible refine And.intro ?hh ?_); (case hh => (unfold InR; (try dsimp only); omega)); conv => whnf) | ((with_reducible refine And.intro ?hh ?_); (case hh => ((try dsimp only); omega)); conv => whnf) | ((with_reducible refine And.intro ?hh ?_); (case hh => ((conv => whnf); (repeat' (first | exact True.intro | rfl | refine And.intro ?_ ?_)); done)); conv => whnf) | fail))
        · have hb2 : bestQ 1 ((l.map (startQ 1 r)).take (i + 1)) = some (startQ 1 r e) := by rw [hb, hacc]; exact stepB_true hc
          refine ⟨_, _, rfl, ?_⟩
          (conv => whnf); (repeat' (first | ((with_reducible refine ifb_mk (fun hc => ?_) (fun hc => ?_)) <;> ((try simp only [decide_eq_true_eq, decide_eq_false_iff_not, Bool.not_eq_true', Bool.not_eq_false', Int.not_lt, Int.not_le, ne_eq, Decidable.not_not, beq_iff_eq, List.cons.injEq, and_true] at hc); (first | (exfalso; omega) | conv => whnf))) | ((with_reducible refine And.intro True.intro ?_); conv => whnf) | ((with_reducible refine And.intro ?hh ?_); (case hh => (unfold InR; (try dsimp only); omega)); conv => whnf) | ((with_reducible refine And.intro ?hh ?_); (case hh => ((try dsimp only); omega)); conv => whnf) | ((with_reducible refine And.intro ?hh ?_); (case hh => ((conv => whnf); (repeat' (first | exact True.intro | rfl | refine And.intro ?_ ?_)); done)); conv => whnf) | fail))
          exact ⟨i + 1, [], by omega, by omega, by dsimp only; rw [hb2]; exact ⟨rfl, rfl, (by (repeat' (first | exact True.intro | rfl | refine And.intro ?_ ?_))), (by (repeat' (first | exact True.intro | rfl | refine And.intro ?_ ?_))), (by (repeat' (first | exact True.intro | rfl | refine And.intro ?_ ?_))), (by (repeat' (first | exact True.intro | exact Or.inl rfl | refine And.intro ?_ ?_ | refine Or.inr ⟨_, rfl, ?_⟩ | exact SubQ.same (n := 1000) (Y := []) (fun _ _ _ => rfl) (by first | exact True.intro | exact ltB_all rfl | exact ltB_ofLb (by first | exact bare0_ints | assumption | (intro v hv; (repeat (rcases List.mem_cons.1 hv with rfl | hv; exact rfl)); cases hv)) | exact ltB_loop rfl rfl | exact hMap _ | exact hMap2 _ | exact grB_lt (by first | exact bare0_ints | assumption | (intro v hv; (repeat (rcases List.mem_cons.1 hv with rfl | hv; exact rfl)); cases hv)) _ | exact ltB_mapB | assumption) (avB_nil _) rfl | exact SubQ.ofL (by first | rfl | simp) (by first | exact bare0_ints | assumption | (intro v hv; (repeat (rcases List.mem_cons.1 hv with rfl | hv; exact rfl)); cases hv)) (by first | exact Or.inl rfl | exact Or.inr rfl) | exact SubQ.fin (by (conv => whnf); (repeat' (first | exact True.intro | rfl | refine And.intro ?_ ?_)); done) (fun h => h) (by first | exact Or.inl rfl | exact Or.inr rfl)))), rfl, rfl⟩⟩
        · have hb2 : bestQ 1 ((l.map (startQ 1 r)).take (i + 1)) = some (startQ 1 r e') := by rw [hb, hacc]; exact stepB_false hc
          refine ⟨_, _, rfl, ?_⟩
          (conv => whnf); (repeat' (first | ((with_reducible refine ifb_mk (fun hc => ?_) (fun hc => ?_)) <;> ((try simp only [decide_eq_true_eq, decide_eq_false_iff_not, Bool.not_eq_true', Bool.not_eq_false', Int.not_lt, Int.not_le, ne_eq, Decidable.not_not, beq_iff_eq, List.cons.injEq, and_true] at hc); (first | (exfalso; omega) | conv => whnf))) | ((with_reducible refine And.intro True.intro ?_); conv => whnf) | ((with_reducible refine And.intro ?hh ?_); (case hh => (unfold InR; (try dsimp only); omega)); conv => whnf) | ((with_reducible refine And.intro ?hh ?_); (case hh => ((try dsimp only); omega)); conv => whnf) | ((with_reducible refine And.intro ?hh ?_); (case hh => ((conv => whnf); (repeat' (first | exact True.intro | rfl | refine And.intro ?_ ?_)); done)); conv => whnf) | fail))
          exact ⟨i + 1, [], by omega, by omega, by dsimp only; rw [hb2]; exact ⟨rfl, rfl, (by (repeat' (first | exact True.intro | rfl | refine And.intro ?_ ?_))), (by (repeat' (first | exact True.intro | rfl | refine And.intro ?_ ?_))), (by (repeat' (first | exact True.intro | rfl | refine And.intro ?_ ?_))), (by (repeat' (first | exact True.intro | exact Or.inl rfl | refine And.intro ?_ ?_ | refine Or.inr ⟨_, rfl, ?_⟩ | exact SubQ.same (n := 1000) (Y := []) (fun _ _ _ => rfl) (by first | exact True.intro | exact ltB_all rfl | exact ltB_ofLb (by first | exact bare0_ints | assumption | (intro v hv; (repeat (rcases List.mem_cons.1 hv with rfl | hv; exact rfl)); cases hv)) | exact ltB_loop rfl rfl | exact hMap _ | exact hMap2 _ | exact grB_lt (by first | exact bare0_ints | assumption | (intro v hv; (repeat (rcases List.mem_cons.1 hv with rfl | hv; exact rfl)); cases hv)) _ | exact ltB_mapB | assumption) (avB_nil _) rfl | exact SubQ.ofL (by first | rfl | simp) (by first | exact bare0_ints | assumption | (intro v hv; (repeat (rcases List.mem_cons.1 hv with rfl | hv; exact rfl)); cases hv)) (by first | exact Or.inl rfl | exact Or.inr rfl) | exact SubQ.fin (by (conv => whnf); (repeat' (first | exact True.intro | rfl | refine And.intro ?_ ?_)); done) (fun h => h) (by first | exact Or.inl rfl | exact Or.inr rfl)))), rfl, rfl⟩⟩
  | none =>
    have hlen : l.length ≤ i := by simpa using hx
    rw [List.take_of_length_le (by simpa using hlen)]
    (conv => whnf); (repeat' (first | ((with_reducible refine ifb_mk (fun hc => ?_) (fun hc => ?_)) <;> ((try simp only [decide_eq_true_eq, decide_eq_false_iff_not, Bool.not_eq_true', Bool.not_eq_false', Int.not_lt, Int.not_le, ne_eq, Decidable.not_not, beq_iff_eq, List.cons.injEq, and_true] at hc); (first | (exfalso; omega) | conv => whnf))) | ((with_reducible refine And.intro True.intro ?_); conv => whnf) | ((with_reducible refine And.intro ?hh ?_); (case hh => (unfold InR; (try dsimp only); omega)); conv => whnf) | ((with_reducible refine And.intro ?hh ?_); (case hh => ((try dsimp only); omega)); conv => whnf) | ((with_reducible refine And.intro ?hh ?_); (case hh => ((conv => whnf); (repeat' (first | exact True.intro | rfl | refine And.intro ?_ ?_)); done)); conv => whnf) | fail))
    (refine ⟨[], ?_, rfl, rfl, trivial, (by (repeat' (first | exact True.intro | rfl | refine And.intro ?_ ?_)))⟩; simp only [renV, renL]; (first | done | rfl | simp | grind))
end Go.Proofs.D

namespace Go.Proofs.D
open Go.As
set_option maxRecDepth 20000
set_option linter.unusedVariables false
set_option linter.unusedSimpArgs false

/-! ### The farthest motion -/

abbrev Mo := (Int × Int) × (Int × Int)
def plcQ (m : Mo) (y : Int) : Int × Int := fr (m.1.1 * m.2.2 + m.2.1 * y * m.1.2) (m.1.2 * m.2.2)
def outM (s : Int) (l : List E) (r : Int × Int) : Mo := (outQ s r l, r)
def cornF (s : Int) (a b : Int × Int) (l : List E) (p : Int × Int) : Option Mo :=
  if p = (-1, -1) then none else
    let r := crossQ s (l.getD p.1.toNat (0, 0, 0)) (l.getD p.2.toNat (0, 0, 0))
    if a.1 * r.2 < r.1 * a.2 ∧ r.1 * b.2 < b.1 * r.2 then some (outM s l r) else none
def betM (s y : Int) (m n : Mo) : Bool := tighterF s (plcQ n y) (plcQ m y)
def stepM (s y : Int) (a b : Int × Int) (l : List E) (x : Mo) (p : Int × Int) : Mo := match cornF s a b l p with
  | some c => if betM s y c x then c else x
  | none => x
def farP (s y : Int) (a b : Int × Int) (l : List E) (x : Mo) (L : List (Int × Int)) : Mo := L.foldl (stepM s y a b l) x
def farM (s y : Int) (a b : Int × Int) (l : List E) : Mo := farP s y a b l (if betM s y (outM s l b) (outM s l a) then outM s l b else outM s l a) (pairsL l.length)

structure OkM (m : Mo) : Prop where
  pn : -6000000 ≤ m.1.1 ∧ m.1.1 ≤ 6000000
  pd : 1 ≤ m.1.2 ∧ m.1.2 ≤ 200
  rt : OkR m.2

theorem mulp {a b m n : Int} (ha : 1 ≤ a ∧ a ≤ m) (hb : 1 ≤ b ∧ b ≤ n) : 1 ≤ a * b ∧ a * b ≤ m * n := by
  have h1 := Int.mul_le_mul_of_nonneg_right ha.2 (by omega : 0 ≤ b)
  have h2 := Int.mul_le_mul_of_nonneg_left hb.2 (by omega : 0 ≤ m)
  have h3 := Int.mul_pos (by omega : 0 < a) (by omega : 0 < b)
  omega

structure PlcOk (m : Mo) (y : Int) : Prop where
  a : -1200000000 ≤ m.1.1 * m.2.2 ∧ m.1.1 * m.2.2 ≤ 1200000000
  b : -4000000 ≤ m.2.1 * y ∧ m.2.1 * y ≤ 4000000
  c : -800000000 ≤ m.2.1 * y * m.1.2 ∧ m.2.1 * y * m.1.2 ≤ 800000000
  d : 1 ≤ m.1.2 * m.2.2 ∧ m.1.2 * m.2.2 ≤ 40000
  num : -2000000000 ≤ (plcQ m y).1 ∧ (plcQ m y).1 ≤ 2000000000
  den : 1 ≤ (plcQ m y).2 ∧ (plcQ m y).2 ≤ 40000

theorem plc_ok {m : Mo} (hm : OkM m) {y : Int} (hy : 0 ≤ y ∧ y ≤ 200) : PlcOk m y := by
  obtain ⟨h1, h2, h3, h4, h5⟩ := hm
  have ha := mul_bd (by decide : (0 : Int) ≤ 6000000) h1 (⟨by omega, h5⟩ : 0 ≤ m.2.2 ∧ m.2.2 ≤ 200)
  have hb := mul_bd (by decide : (0 : Int) ≤ 20000) h3 hy
  have hc := mul_bd (by decide : (0 : Int) ≤ 4000000) (⟨by omega, by omega⟩ : -4000000 ≤ m.2.1 * y ∧ m.2.1 * y ≤ 4000000) (⟨by omega, h2.2⟩ : 0 ≤ m.1.2 ∧ m.1.2 ≤ 200)
  have hd := mulp h2 (⟨h4, h5⟩ : 1 ≤ m.2.2 ∧ m.2.2 ≤ 200)
  have hn : 0 < m.1.2 * m.2.2 := by omega
  exact ⟨by omega, by omega, by omega, by omega, fr_bd hn (by omega), fr_den hn (by omega)⟩

theorem placeM_ok (h : H) (m : Mo) (y : Int) (hm : OkM m) (hy : 0 ≤ y ∧ y ≤ 200) : CallOk Try.prog 77 [.agg [.int .i64 m.1.1, .int .i64 m.1.2, .int .i64 m.2.1, .int .i64 m.2.2], .int .i64 y] h (.agg [.int .i64 (plcQ m y).1, .int .i64 (plcQ m y).2]) h := by
  obtain ⟨h1, h2, h3, h4, _, _⟩ := plc_ok hm hy
  exact placeIn_ok h m.1.1 m.1.2 m.2.1 m.2.2 y (by unfold InR; omega) (by unfold InR; omega) (by unfold InR; omega) (by unfold InQ; omega) (by omega)

theorem InR_mul9 {a d : Int} (h1 : -2000000000 ≤ a ∧ a ≤ 2000000000) (h2 : 1 ≤ d ∧ d ≤ 40000) : InR (a * d) := by
  have := mul_bd (by decide : (0 : Int) ≤ 2000000000) h1 (⟨by omega, h2.2⟩ : 0 ≤ d ∧ d ≤ 40000)
  unfold InR; omega

theorem betM_ok (h : H) (s y : Int) (m n : Mo) (hm : OkM m) (hn : OkM n) (hy : 0 ≤ y ∧ y ≤ 200) : CallOk Try.prog 98 [.int .i64 s, .agg [.int .i64 (plcQ n y).1, .int .i64 (plcQ n y).2], .agg [.int .i64 (plcQ m y).1, .int .i64 (plcQ m y).2]] h (.bool (betM s y m n)) h := by
  have h1 := plc_ok hm hy
  have h2 := plc_ok hn hy
  exact tighter_ok h s _ _ _ _ (InR_mul9 h2.num h1.den) (InR_mul9 h1.num h2.den)

theorem outM_ok {s : Int} {l : List E} {lo hi : Int} (hS : OkS lo hi l) {r : Int × Int} (hr : OkR r) : OkM (outM s l r) := by
  have h1 := hS.one
  have hg : l[0]? = some l[0] := List.getElem?_eq_getElem _
  have key : ∃ f, bestQ s (l.map (startQ s r)) = some f := by
    have : ∀ (L : List (Int × Int)) (a : Int × Int), ∃ f, L.foldl (stepB (tighterF s)) (some a) = some f := by
      intro L
      induction L with
      | nil => intro a; exact ⟨a, rfl⟩
      | cons x L ih => intro a; simp only [List.foldl_cons, stepB]; exact ih _
    cases hl : l with
    | nil => rw [hl] at h1; simp at h1
    | cons e l' =>
      unfold bestQ
      rw [List.map_cons, List.foldl_cons]
      exact this _ _
  obtain ⟨f, hf⟩ := key
  obtain ⟨e, he, rfl⟩ := List.mem_map.1 (bestQ_in hf)
  obtain ⟨j, hj⟩ := List.mem_iff_getElem?.1 he
  have := start_ok (s := s) hr (hS.ent _ _ hj)
  unfold outM outQ
  rw [hf]
  exact ⟨this.num, this.den, hr⟩

theorem cross_okR {s : Int} {e f : E} (he : 0 ≤ e.1 ∧ e.1 ≤ 200 ∧ -10000 ≤ e.2.1 ∧ e.2.1 ≤ e.2.2 ∧ e.2.2 ≤ 10000) (hf : 0 ≤ f.1 ∧ f.1 ≤ 200 ∧ -10000 ≤ f.2.1 ∧ f.2.1 ≤ f.2.2 ∧ f.2.2 ≤ 10000) (h : e.1 < f.1) : OkR (crossQ s e f) := by
  have : -20000 ≤ sideE s f - sideE s e ∧ sideE s f - sideE s e ≤ 20000 := by unfold sideE; split <;> omega
  exact ⟨fr_bd (by omega) this, fr_den (by omega) (by omega)⟩

theorem cornF_two {s : Int} {a b : Int × Int} {l : List E} {i j : Nat} {e f : E} (he : l[i]? = some e) (hf : l[j]? = some f) : cornF s a b l ((i : Int), (j : Int)) = if a.1 * (crossQ s e f).2 < (crossQ s e f).1 * a.2 ∧ (crossQ s e f).1 * b.2 < b.1 * (crossQ s e f).2 then some (outM s l (crossQ s e f)) else none := by
  unfold cornF
  rw [if_neg (by intro h; simp only [Prod.mk.injEq] at h; omega)]
  simp [he, hf, List.getD]

theorem cornF_ok {s : Int} {a b : Int × Int} {l : List E} {lo hi : Int} (hS : OkS lo hi l) {p : Int × Int} (hp : p ∈ pairsL l.length) {c : Mo} (h : cornF s a b l p = some c) : OkM c := by
  rcases pairsL_mem.1 hp with rfl | ⟨i, j, h1, h2, rfl⟩
  · unfold cornF at h; rw [if_pos rfl] at h; cases h
  · have hgi : l[i]? = some l[i] := List.getElem?_eq_getElem _
    have hgj : l[j]? = some l[j] := List.getElem?_eq_getElem _
    rw [cornF_two hgi hgj] at h
    split at h
    · cases h
      exact outM_ok hS (cross_okR (hS.ent _ _ hgi) (hS.ent _ _ hgj) (hS.inc _ _ _ _ h1 hgi hgj))
    · cases h

theorem farP_take {s y : Int} {a b : Int × Int} {l : List E} {x : Mo} {L : List (Int × Int)} {k : Nat} {p : Int × Int} (h : L[k]? = some p) : farP s y a b l x (L.take (k + 1)) = stepM s y a b l (farP s y a b l x (L.take k)) p := foldl_take _ _ h

theorem farP_ok {s y : Int} {a b : Int × Int} {l : List E} {lo hi : Int} (hS : OkS lo hi l) : ∀ {L : List (Int × Int)} {x : Mo}, OkM x → (∀ p ∈ L, p ∈ pairsL l.length) → OkM (farP s y a b l x L)
  | [], x, hx, _ => hx
  | p :: L, x, hx, hL => by
    refine farP_ok hS (L := L) (x := stepM s y a b l x p) ?_ (fun q hq => hL q (List.mem_cons_of_mem _ hq))
    unfold stepM
    cases hc : cornF s a b l p with
    | none => exact hx
    | some c =>
      dsimp only
      split
      · exact cornF_ok hS (hL p (List.mem_cons_self ..)) hc
      · exact hx
end Go.Proofs.D

