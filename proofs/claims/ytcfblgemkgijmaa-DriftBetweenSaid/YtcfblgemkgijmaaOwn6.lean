/- What the functions answer that the laws call, one after another, part 6. -/
import Derived.Test.YtcfblgemkgijmaaOwn5

set_option linter.unusedVariables false
namespace Go.Proofs.D
open Go.As
set_option maxRecDepth 20000
set_option linter.unusedVariables false
set_option linter.unusedSimpArgs false

theorem turned_W {X : List Nat} {K : V → H → Prop} {h : H} (lo hi : Int) (l : List E) (hS : OkS lo hi l) (sv : V) (hs : SlC h (entVs l) l.length sv)
    (hK : addNP h (fun _ => [.cells (ofL (entVs (turnL l)) 0) true (some (3, l.length * 3))]) fun N h' => K (starV (-hi) (-lo) (.sl N 0 l.length l.length false)) h') : CallW Try.prog X 49 [starV lo hi sv] h K :=
  CallW.of_new (vC := fun N => starV (-hi) (-lo) (.sl N 0 l.length l.length false)) (news := fun _ => [.cells (ofL (entVs (turnL l)) 0) true (some (3, l.length * 3))]) (turned_ok h lo hi l hS sv hs) hK

end Go.Proofs.D

namespace Go.Proofs.D
open Go.As
set_option maxRecDepth 20000
set_option linter.unusedVariables false
set_option linter.unusedSimpArgs false

theorem slow_eql_self {t : TypeId} {k : Nat} (hk : eqOk Try.prog t k = true) {x y : Operand} (a : List Int) (ha : a.length = k := by rfl) : slow Try.prog .eql t x y (.agg (a.map (V.int .i64))) (.agg (a.map (V.int .i64))) = some (.bool true) := by
  rw [slow_eql hk a a ha ha, decide_eq_true rfl]

end Go.Proofs.D

namespace Go.Proofs.D
open Go.As
set_option maxRecDepth 20000
set_option linter.unusedVariables false
set_option linter.unusedSimpArgs false

/-! ### What every motion that agrees keeps to -/

structure MotIn (lo hi : Int) (l : List E) (m : Mo) : Prop where
  p1 : 0 < m.1.2
  p2 : 0 < m.2.2
  st : starErr lo hi l = 0
  f1 : okF m.1 = true
  f2 : okF m.2 = true
  rate : (lo : Rat) ≤ rq m.2 ∧ rq m.2 ≤ (hi : Rat)
  ent : ∀ e ∈ l, (e.2.1 : Rat) ≤ rq m.1 + rq m.2 * (e.1 : Rat) ∧ rq m.1 + rq m.2 * (e.1 : Rat) ≤ (e.2.2 : Rat)

theorem rq_int (n : Int) : rq (n, 1) = (n : Rat) := by
  have := rq_mul (x := (n, 1)) (Int.zero_lt_one : (0 : Int) < 1)
  simpa using this

theorem mot_in {lo hi : Int} {l : List E} {m : Mo} (h : motErr lo hi l m = 0) : MotIn lo hi l m := by
  unfold motErr at h
  have h0 : starErr lo hi l = 0 := by grind
  rw [if_pos h0] at h
  have h1 : (okF m.1 && okF m.2) = true := by grind
  rw [if_pos h1] at h
  have h2 : agr lo hi l m = true := by grind
  rw [Bool.and_eq_true] at h1
  have f1 := okF_iff h1.1
  have f2 := okF_iff h1.2
  have p1 : 0 < m.1.2 := by omega
  have p2 : 0 < m.2.2 := by omega
  unfold agr at h2
  rw [Bool.and_eq_true, Bool.and_eq_true, decide_eq_true_eq, decide_eq_true_eq, List.all_eq_true] at h2
  obtain ⟨⟨g1, g2⟩, g3⟩ := h2
  refine ⟨p1, p2, h0, h1.1, h1.2, ⟨?_, ?_⟩, fun e he => ?_⟩
  · have := (rq_le (a := (lo, 1)) (b := m.2) (by decide : (0 : Int) < 1) p2).2 (by dsimp only; omega)
    rwa [rq_int] at this
  · have := (rq_le (a := m.2) (b := (hi, 1)) p2 (by decide : (0 : Int) < 1)).2 (by dsimp only; omega)
    rwa [rq_int] at this
  · have g4 := g3 e he
    unfold inE at g4
    rw [Bool.and_eq_true, decide_eq_true_eq, decide_eq_true_eq] at g4
    obtain ⟨g5, g6⟩ := g4
    have hdd : (0 : Rat) < (m.1.2 : Rat) * (m.2.2 : Rat) := Rat.mul_pos (Rat.intCast_pos.2 p1) (Rat.intCast_pos.2 p2)
    rw [Int.mul_assoc] at g5 g6
    have v1 := Rat.intCast_le_intCast.2 g5
    have v2 := Rat.intCast_le_intCast.2 g6
    rw [pl_rat p1 p2, Rat.intCast_mul, Rat.intCast_mul] at v1 v2
    exact ⟨le_of_mulR hdd v1, le_of_mulR hdd v2⟩

theorem mot_rate {lo hi : Int} {l : List E} {m : Mo} (h : MotIn lo hi l m) : rq (loQ lo hi l) ≤ rq m.2 ∧ rq m.2 ≤ rq (hiQ lo hi l) := by
  have hS := starErr_ok h.st
  obtain ⟨⟨p, mp, e1⟩, ⟨q, mq, e2⟩, _, _⟩ := boundsP hS
  dsimp only at e1 e2
  rw [e1, e2]
  constructor
  · rcases pairsL_mem.1 mp with rfl | ⟨i, j, h1, h2, rfl⟩
    · show rq (lo, 1) ≤ _
      rw [rq_int]; exact h.rate.1
    · have hgi : l[i]? = some l[i] := List.getElem?_eq_getElem _
      have hgj : l[j]? = some l[j] := List.getElem?_eq_getElem _
      have hlt := hS.inc _ _ _ _ h1 hgi hgj
      rw [bndOf_two hgi hgj]
      have a1 := h.ent l[i] (List.getElem_mem _)
      have a2 := h.ent l[j] (List.getElem_mem _)
      generalize l[i] = e at *
      generalize l[j] = f at *
      have hd : 0 < f.1 - e.1 := by omega
      have hdR := Rat.intCast_pos.2 hd
      refine le_of_mulR hdR ?_
      show rq (fr (f.2.1 - e.2.2) (f.1 - e.1)) * _ ≤ _
      rw [rq_fr_mul hd, Rat.intCast_sub, Rat.intCast_sub]
      grind
  · rcases pairsL_mem.1 mq with rfl | ⟨i, j, h1, h2, rfl⟩
    · show _ ≤ rq (hi, 1)
      rw [rq_int]; exact h.rate.2
    · have hgi : l[i]? = some l[i] := List.getElem?_eq_getElem _
      have hgj : l[j]? = some l[j] := List.getElem?_eq_getElem _
      have hlt := hS.inc _ _ _ _ h1 hgi hgj
      rw [bndOf_two hgi hgj]
      have a1 := h.ent l[i] (List.getElem_mem _)
      have a2 := h.ent l[j] (List.getElem_mem _)
      generalize l[i] = e at *
      generalize l[j] = f at *
      have hd : 0 < f.1 - e.1 := by omega
      have hdR := Rat.intCast_pos.2 hd
      refine le_of_mulR hdR ?_
      show _ ≤ rq (fr (f.2.2 - e.2.1) (f.1 - e.1)) * _
      rw [rq_fr_mul hd, Rat.intCast_sub, Rat.intCast_sub]
      grind

theorem mot_has {lo hi : Int} {l : List E} {m : Mo} (h : MotIn lo hi l m) : hasM lo hi l = true := by
  have hS := starErr_ok h.st
  have h1 := (loQ_bd hS).2
  have h2 := (hiQ_bd hS).2
  have h3 := mot_rate h
  have := Rat.le_trans h3.1 h3.2
  rw [rq_le (by omega) (by omega)] at this
  unfold hasM
  simp
  exact this

theorem mot_side {lo hi : Int} {l : List E} {m : Mo} (h : MotIn lo hi l m) {s : Int} (hs : s = 0 ∨ s = 1) (t : Int) : tq s m.1 + tq s m.2 * (t : Rat) ≤ valM s (farA s lo hi l t) t := by
  have hS := starErr_ok h.st
  have h1 := (loQ_bd hS).2
  have h2 := (hiQ_bd hS).2
  have hf := farM_ok hS (s := s) (t := t) hs (by omega : 0 < (loQ lo hi l).2) (by omega : 0 < (hiQ lo hi l).2) (hasM_le hS (mot_has h))
  have h3 := mot_rate h
  have hr : loS s (loQ lo hi l) (hiQ lo hi l) ≤ tq s m.2 ∧ tq s m.2 ≤ hiS s (loQ lo hi l) (hiQ lo hi l) := by
    unfold loS hiS tq
    rcases hs with rfl | rfl
    · rw [if_neg (by decide), if_neg (by decide), if_neg (by decide)]; grind
    · rw [if_pos rfl, if_pos rfl, if_pos rfl]; exact h3
  refine hf.top.top _ (dual1 hr.1 hr.2 fun p hp => ?_)
  obtain ⟨e, he, rfl⟩ := List.mem_map.1 hp
  have h4 := h.ent e he
  have h5 : tq s m.1 + tq s m.2 * (e.1 : Rat) ≤ upS s e := by
    unfold tq upS
    rcases hs with rfl | rfl
    · rw [if_neg (by decide), if_neg (by decide), if_neg (by decide)]; grind
    · rw [if_pos rfl, if_pos rfl, if_pos rfl]; exact h4.2
  unfold ptS
  grind

/-- The place of a motion that agrees lies between both ends. -/
theorem mot_place {lo hi : Int} {l : List E} {m : Mo} (h : MotIn lo hi l m) (t : Int) : rq (plcQ (farA 0 lo hi l t) t) ≤ rq (plcQ m t) ∧ rq (plcQ m t) ≤ rq (plcQ (farA 1 lo hi l t) t) := by
  have h0 := mot_side h (.inl rfl) t
  have h1 := mot_side h (.inr rfl) t
  rw [plc_rat h.p1 h.p2]
  unfold valM tq at h0 h1
  rw [if_neg (by decide), if_neg (by decide), if_neg (by decide)] at h0
  rw [if_pos rfl, if_pos rfl, if_pos rfl] at h1
  constructor <;> grind

theorem hiIn_pr {Pr : Int × Int → Prop} {t : Int} {e : E} : ∀ (L : List E) (x : Int × Int), Pr x → (∀ f ∈ L, okPair t e f → Pr (termP t e f)) → Pr (hiIn t e x L)
  | [], _, hx, _ => hx
  | f :: L, x, hx, hL => by
    refine hiIn_pr L (inH t e x f) ?_ (fun g hg => hL g (List.mem_cons_of_mem _ hg))
    unfold inH
    split
    · exact hx
    · split
      · exact hL f (List.mem_cons_self ..) (by unfold okPair; omega)
      · exact hx
theorem hiGo_pr {Pr : Int × Int → Prop} {t : Int} {a b : Int × Int} : ∀ (l : List E) (x : Int × Int) (fst : Bool), (fst = true → 0 < l.length) → (fst = false → Pr x) → (∀ e ∈ l, Pr (termI t a b e)) → (l.Pairwise fun e f => okPair t e f → Pr (termP t e f)) → Pr (hiGo t a b fst x l)
  | [], x, fst, h0, hx, _, _ => by
    cases fst with
    | true => exact absurd (h0 rfl) (Nat.lt_irrefl 0)
    | false => exact hx rfl
  | e :: l, x, fst, _, hx, hI, hp => by
    rw [List.pairwise_cons] at hp
    have hT := hI e (List.mem_cons_self ..)
    refine hiGo_pr l _ false (fun h => by cases h) (fun _ => hiIn_pr l _ ?_ hp.1) (fun f hf => hI f (List.mem_cons_of_mem _ hf)) hp.2
    cases fst with
    | true => rw [Bool.true_or, if_pos rfl]; exact hT
    | false =>
      rw [Bool.false_or]
      split
      · exact hT
      · exact hx rfl

theorem hiQt_okH {lo hi : Int} {l : List E} (hS : OkS lo hi l) {t : Int} (ht : 0 ≤ t ∧ t ≤ 200) : OkH (hiQt t (loQ lo hi l) (hiQ lo hi l) l) := by
  refine hiGo_pr l (0, 0) true (fun _ => hS.one) (fun h => by cases h) (fun e he => ?_) ?_
  · obtain ⟨i, hi'⟩ := List.mem_iff_getElem?.1 he
    exact termI_ok (loQ_bd hS) (hiQ_bd hS) ht (hS.ent i e hi')
  · rw [List.pairwise_iff_getElem]
    intro i j hi' hj' hij hok
    have hgi : l[i]? = some l[i] := List.getElem?_eq_getElem _
    have hgj : l[j]? = some l[j] := List.getElem?_eq_getElem _
    exact (termP_ok ht (hS.ent _ _ hgi) (hS.ent _ _ hgj) (hS.inc _ _ _ _ hij hgi hgj) hok.1 hok.2).ok

/-- The ends are small, and in order. -/
structure EndsOk (lo hi : Int) (l : List E) (t : Int) : Prop where
  a : OkH (plcQ (farA 0 lo hi l t) t)
  b : OkH (plcQ (farA 1 lo hi l t) t)
  le : rq (plcQ (farA 0 lo hi l t) t) ≤ rq (plcQ (farA 1 lo hi l t) t)

theorem ends_small {lo hi : Int} {l : List E} (h0 : starErr lo hi l = 0) (hm : hasM lo hi l = true) {t : Int} (ht : 0 ≤ t ∧ t ≤ 200) : EndsOk lo hi l t := by
  have hS := starErr_ok h0
  have o0 := hiQt_okH (turn_OkS hS) ht
  have o1 := hiQt_okH hS ht
  have e0 := place0 hS hm t
  have e1 := place1 hS hm t
  have hin := mot_in (far_err h0 hm (s := 0) (t := t) (.inl rfl)).1
  refine ⟨?_, by rw [e1]; exact o1, (mot_place hin t).2⟩
  rw [e0]
  obtain ⟨n, d⟩ := o0
  unfold negQ
  exact ⟨by dsimp only; omega, d⟩
end Go.Proofs.D

namespace Go.Proofs.D
open Go.As
set_option maxRecDepth 20000
set_option linter.unusedVariables false
set_option linter.unusedSimpArgs false

def smallB (q : Int × Int) : Bool := decide ((-100000000 ≤ q.1 ∧ q.1 ≤ 100000000) ∧ 1 ≤ q.2 ∧ q.2 ≤ 200)
theorem small_ok (h : H) (q : Int × Int) : CallOk Try.prog 88 [qV q] h (.bool (smallB q)) h := by
  refine CallOk.run0 Try.func88 rfl rfl rfl rfl rfl (WpR.of_vc ?_)
  (conv => whnf); (repeat' (first | ((with_reducible refine ifb_mk (fun hc => ?_) (fun hc => ?_)) <;> ((try simp only [decide_eq_true_eq, decide_eq_false_iff_not, Bool.not_eq_true', Bool.not_eq_false', Int.not_lt, Int.not_le, ne_eq, Decidable.not_not, beq_iff_eq, List.cons.injEq, and_true] at hc); (first | (exfalso; omega) | conv => whnf))) | ((with_reducible refine And.intro True.intro ?_); conv => whnf) | ((with_reducible refine And.intro ?hh ?_); (case hh => (unfold InR; (try dsimp only); omega)); conv => whnf) | ((with_reducible refine And.intro ?hh ?_); (case hh => ((try dsimp only); omega)); conv => whnf) | ((with_reducible refine And.intro ?hh ?_); (case hh => ((conv => whnf); (repeat' (first | exact True.intro | rfl | refine And.intro ?_ ?_)); done)); conv => whnf) | fail))
  all_goals (refine ⟨[], ?_, rfl, rfl, trivial, (by (repeat' (first | exact True.intro | rfl | refine And.intro ?_ ?_)))⟩; first | rfl | (simp only [renV, renL]; first | done | rfl | (congr 1; grind [smallB]) | grind [smallB]))

theorem fine_ok (h : H) (lo hi : Int) (l : List E) (sv : V) (hl : l.length ≤ 9223372036854775807) (hs : SlC h (entVs l) l.length sv) :
    CallOk Try.prog 41 [starV lo hi sv] h (.bool (decide (starErr lo hi l = 0))) h := by
  obtain ⟨vo, svC, hsv, hca, hvw⟩ := hs.view 0
  refine CallOk.run Try.func41 rfl rfl (argsC := [starV lo hi svC]) (Nat.le_of_ble_eq_true rfl) [vo] (.cons (CaL.agg (.cons (.bare rfl) (.cons (.bare rfl) (.cons (hca _ rfl) .nil)))) .nil) (viewMc1 entVs_bare hvw) rfl (WpR.of_vc ?_)
  have hBare := @entVs_bare l
  have hb : (20 : Int) < l.length → starErr lo hi l = 6 := fun h => by unfold starErr; rw [if_pos (by omega)]
  have k0 := fun h' sv' hs' => great_ok h' lo hi l sv' hl hs'
  have k1 := fun h' sv' hs' => refCheckStar_ok h' lo hi l sv' hl hs'
  generalize starErr lo hi l = e at k1 hb
  cases hsv with
  | nil h0 =>
    have hd : decide ((20 : Int) < (l.length : Int)) = false := by rw [h0]; rfl
    simp only [hd] at k0
    (conv => whnf); (repeat' (first | ((with_reducible refine ifb_mk (fun hc => ?_) (fun hc => ?_)) <;> ((try simp only [decide_eq_true_eq, decide_eq_false_iff_not, Bool.not_eq_true', Bool.not_eq_false', Int.not_lt, Int.not_le, ne_eq, Decidable.not_not, beq_iff_eq, List.cons.injEq, and_true] at hc); (first | (exfalso; omega) | conv => whnf))) | ((with_reducible refine And.intro True.intro ?_); conv => whnf) | ((with_reducible refine CallX.all ?_); refine CallW.of_ok (k0 _ _ (SlC.none h0)) ?_; conv => whnf) | ((with_reducible refine CallX.all ?_); refine CallW.of_ok (k1 _ _ (SlC.none h0)) ?_; conv => whnf) | ((with_reducible refine And.intro ?hh ?_); (case hh => (unfold InR; (try dsimp only); omega)); conv => whnf) | ((with_reducible refine And.intro ?hh ?_); (case hh => ((try dsimp only); omega)); conv => whnf) | ((with_reducible refine And.intro ?hh ?_); (case hh => ((conv => whnf); (repeat' (first | exact True.intro | rfl | refine And.intro ?_ ?_)); done)); conv => whnf) | fail))
    all_goals (refine ⟨[], ?_, rfl, rfl, trivial, (by (repeat' (first | exact True.intro | rfl | refine And.intro ?_ ?_)))⟩; simp only [renV, renL]; (first | done | rfl | simp | grind))
  | @sl cap ex =>
    by_cases hb2 : (20 : Int) < l.length
    · simp only [decide_eq_true hb2] at k0
      have h6 := hb hb2
      (conv => whnf); (repeat' (first | ((with_reducible refine ifb_mk (fun hc => ?_) (fun hc => ?_)) <;> ((try simp only [decide_eq_true_eq, decide_eq_false_iff_not, Bool.not_eq_true', Bool.not_eq_false', Int.not_lt, Int.not_le, ne_eq, Decidable.not_not, beq_iff_eq, List.cons.injEq, and_true] at hc); (first | (exfalso; omega) | conv => whnf))) | ((with_reducible refine And.intro True.intro ?_); conv => whnf) | ((with_reducible refine CallX.all ?_); refine CallW.of_ok (k0 _ _ (SlC.own rfl)) ?_; conv => whnf) | ((with_reducible refine CallX.all ?_); refine CallW.of_ok (k1 _ _ (SlC.own rfl)) ?_; conv => whnf) | ((with_reducible refine And.intro ?hh ?_); (case hh => (unfold InR; (try dsimp only); omega)); conv => whnf) | ((with_reducible refine And.intro ?hh ?_); (case hh => ((try dsimp only); omega)); conv => whnf) | ((with_reducible refine And.intro ?hh ?_); (case hh => ((conv => whnf); (repeat' (first | exact True.intro | rfl | refine And.intro ?_ ?_)); done)); conv => whnf) | fail))
      all_goals (refine ⟨[], ?_, rfl, rfl, trivial, (by (repeat' (first | exact True.intro | rfl | refine And.intro ?_ ?_)))⟩; simp only [renV, renL]; rw [decide_eq_false (by omega)])
    · simp only [decide_eq_false hb2] at k0
      (conv => whnf); (repeat' (first | ((with_reducible refine ifb_mk (fun hc => ?_) (fun hc => ?_)) <;> ((try simp only [decide_eq_true_eq, decide_eq_false_iff_not, Bool.not_eq_true', Bool.not_eq_false', Int.not_lt, Int.not_le, ne_eq, Decidable.not_not, beq_iff_eq, List.cons.injEq, and_true] at hc); (first | (exfalso; omega) | conv => whnf))) | ((with_reducible refine And.intro True.intro ?_); conv => whnf) | ((with_reducible refine CallX.all ?_); refine CallW.of_ok (k0 _ _ (SlC.own rfl)) ?_; conv => whnf) | ((with_reducible refine CallX.all ?_); refine CallW.of_ok (k1 _ _ (SlC.own rfl)) ?_; conv => whnf) | ((with_reducible refine And.intro ?hh ?_); (case hh => (unfold InR; (try dsimp only); omega)); conv => whnf) | ((with_reducible refine And.intro ?hh ?_); (case hh => ((try dsimp only); omega)); conv => whnf) | ((with_reducible refine And.intro ?hh ?_); (case hh => ((conv => whnf); (repeat' (first | exact True.intro | rfl | refine And.intro ?_ ?_)); done)); conv => whnf) | fail))
      all_goals (refine ⟨[], ?_, rfl, rfl, trivial, (by (repeat' (first | exact True.intro | rfl | refine And.intro ?_ ?_)))⟩; simp only [renV, renL]; (first | done | rfl | simp | grind))

theorem smallB_of {q : Int × Int} (h : OkH q) : smallB q = true := decide_eq_true ⟨by have := h.n; omega, h.d⟩
theorem smallB_of2 {q : Int × Int} (h1 : -20000 ≤ q.1 ∧ q.1 ≤ 20000) (h2 : 1 ≤ q.2 ∧ q.2 ≤ 200) : smallB q = true := decide_eq_true ⟨by omega, h2⟩

/-- What ends says of a valid star. -/
def endsA (lo hi : Int) (l : List E) (y : Int) : (Bd × Bd) × Int := if hasM lo hi l then (((loQ lo hi l, hiQ lo hi l), (plcQ (farA 0 lo hi l y) y, plcQ (farA 1 lo hi l y) y)), 0) else ((((0, 0), (0, 0)), ((0, 0), (0, 0))), 17)
def endsV (x : Bd × Bd) : V := .agg [.int .i64 x.1.1.1, .int .i64 x.1.1.2, .int .i64 x.1.2.1, .int .i64 x.1.2.2, .int .i64 x.2.1.1, .int .i64 x.2.1.2, .int .i64 x.2.2.1, .int .i64 x.2.2.2]

set_option maxHeartbeats 1000000 in
theorem ends_ok (h : H) (lo hi : Int) (l : List E) (h0 : starErr lo hi l = 0) (sv : V) (y : Int) (hy : 0 ≤ y ∧ y ≤ 200) (hl : l.length ≤ 9223372036854775807) (hs : SlC h (entVs l) l.length sv) :
    CallOk Try.prog 42 [starV lo hi sv, .int .i64 y] h (.tup [endsV (endsA lo hi l y).1, .int .i64 (endsA lo hi l y).2, .bool true]) h := by
  have hS := starErr_ok h0
  obtain ⟨vo, svC, hsv, hca, hvw⟩ := hs.view 0
  obtain ⟨cap, ex, rfl⟩ := Sv.pos hsv hS.one
  have q2 : eqOk Try.prog 30 2 = true := by kernel_rfl
  refine CallOk.run Try.func42 rfl rfl (argsC := [starV lo hi (.sl 0 0 l.length cap ex), .int .i64 y]) (Nat.le_of_ble_eq_true rfl) [vo] (.cons (CaL.agg (.cons (.bare rfl) (.cons (.bare rfl) (.cons (hca _ rfl) .nil)))) (CaL.lt0 rfl)) (viewMc1 entVs_bare hvw) rfl (WpR.of_vc ?_)
  have hBare := @entVs_bare l
  have k1 := fun h' sv' hs' => rate_ok h' lo hi l sv' hl hs'
  have k3 := fun h' sv' hs' => place_ok h' lo hi l sv' y hl hs'
  have k4 := fun h' sv' hs' => motion_ok h' lo hi l sv' y false hl hs'
  have k5 := fun h' sv' hs' => motion_ok h' lo hi l sv' y true hl hs'
  cases hm : hasM lo hi l with
  | true =>
    have e1 : staErr lo hi l = 0 := by unfold staErr; rw [if_pos h0, hm]; rfl
    have e2 : plErr lo hi l y = 0 := by unfold plErr; rw [if_pos h0, if_pos hy]; exact e1
    have e3 : ∀ high, motA lo hi l y high = (farA (sideN high) lo hi l y, 0) := fun high => by unfold motA; rw [if_pos e2]
    have e4 : plcA lo hi l y = ((plcQ (farA 0 lo hi l y) y, plcQ (farA 1 lo hi l y) y), 0) := by unfold plcA; rw [if_pos e2]
    have e5 : rateA lo hi l = ((loQ lo hi l, hiQ lo hi l), 0) := by unfold rateA; rw [if_pos e1]
    have e6 : endsA lo hi l y = (((loQ lo hi l, hiQ lo hi l), (plcQ (farA 0 lo hi l y) y, plcQ (farA 1 lo hi l y) y)), 0) := by unfold endsA; rw [hm]; rfl
    obtain ⟨oa, ob, ole⟩ := ends_small h0 hm hy
    have la := loQ_bd hS
    have lb := hiQ_bd hS
    have hlt1 : ¬ (hiQ lo hi l).1 * (loQ lo hi l).2 < (loQ lo hi l).1 * (hiQ lo hi l).2 := by
      have := hasM_le hS hm
      rw [rq_le (by omega) (by omega)] at this
      omega
    have hlt2 : ¬ (plcQ (farA 1 lo hi l y) y).1 * (plcQ (farA 0 lo hi l y) y).2 < (plcQ (farA 0 lo hi l y) y).1 * (plcQ (farA 1 lo hi l y) y).2 := by
      have := ole
      have da := oa.d
      have db := ob.d
      rw [rq_le (by omega) (by omega)] at this
      omega
    obtain ⟨m1, m2, m3⟩ := far_err h0 hm (s := 0) (t := y) (.inl rfl)
    obtain ⟨n1, n2, n3⟩ := far_err h0 hm (s := 1) (t := y) (.inr rfl)
    have k6 := fun h' sv' hs' => refCheckMotion_ok h' lo hi l sv' (farA 0 lo hi l y) hl hs'
    have k7 := fun h' sv' hs' => refCheckMotion_ok h' lo hi l sv' (farA 1 lo hi l y) hl hs'
    have k8 := fun h' => at_ok h' (farA 0 lo hi l y) y m2 m3 hy
    have k9 := fun h' => at_ok h' (farA 1 lo hi l y) y n2 n3 hy
    rw [m1] at k6
    rw [n1] at k7
    rw [e4] at k3
    rw [e3] at k4 k5
    rw [e5] at k1
    rw [e6]
    have s0 : sideN false = 0 := rfl
    have s1 : sideN true = 1 := rfl
    rw [s0] at k4
    rw [s1] at k5
    clear m1 m2 m3 n1 n2 n3 e1 e2 e3 e4 e5 e6 s0 s1 ole
    generalize plcQ (farA 0 lo hi l y) y = A at *
    generalize plcQ (farA 1 lo hi l y) y = B at *
    generalize farA 0 lo hi l y = u at *
    generalize farA 1 lo hi l y = w at *
    generalize loQ lo hi l = P at *
    generalize hiQ lo hi l = Q at *
    have z1 : ∀ h', CallOk Try.prog 88 [qV P] h' (.bool true) h' := fun h' => by have := small_ok h' P; rwa [smallB_of2 la.1 la.2] at this
    have z2 : ∀ h', CallOk Try.prog 88 [qV Q] h' (.bool true) h' := fun h' => by have := small_ok h' Q; rwa [smallB_of2 lb.1 lb.2] at this
    have z3 : ∀ h', CallOk Try.prog 88 [qV A] h' (.bool true) h' := fun h' => by have := small_ok h' A; rwa [smallB_of oa] at this
    have z4 : ∀ h', CallOk Try.prog 88 [qV B] h' (.bool true) h' := fun h' => by have := small_ok h' B; rwa [smallB_of ob] at this
    have z5 : ∀ h', CallOk Try.prog 46 [qV Q, qV P] h' (.bool false) h' := fun h' => by have := refLess_ok h' Q.1 Q.2 P.1 P.2 (InR_mul lb.1 la.2) (InR_mul la.1 lb.2); rwa [decide_eq_false hlt1] at this
    have z6 : ∀ h', CallOk Try.prog 46 [qV B, qV A] h' (.bool false) h' := fun h' => by have := refLess_ok h' B.1 B.2 A.1 A.2 (InR_mul6 ob.n oa.d) (InR_mul6 oa.n ob.d); rwa [decide_eq_false hlt2] at this
    (conv => whnf); (repeat' (first | ((with_reducible refine ifb_mk (fun hc => ?_) (fun hc => ?_)) <;> ((try simp only [decide_eq_true_eq, decide_eq_false_iff_not, Bool.not_eq_true', Bool.not_eq_false', Int.not_lt, Int.not_le, ne_eq, Decidable.not_not, beq_iff_eq, List.cons.injEq, and_true] at hc); (first | (exfalso; omega) | conv => whnf))) | ((with_reducible refine And.intro True.intro ?_); conv => whnf) | ((with_reducible refine grd_slow ?_); refine som_mk (a := ?_) ?hh ?_; (case hh => exact slow_eql_self q2 [_, _]); conv => whnf) | ((with_reducible refine CallX.all ?_); refine CallW.of_ok (k1 _ _ (SlC.own rfl)) ?_; conv => whnf) | ((with_reducible refine CallX.all ?_); refine CallW.of_ok (k3 _ _ (SlC.own rfl)) ?_; conv => whnf) | ((with_reducible refine CallX.all ?_); refine CallW.of_ok (k4 _ _ (SlC.own rfl)) ?_; conv => whnf) | ((with_reducible refine CallX.all ?_); refine CallW.of_ok (k5 _ _ (SlC.own rfl)) ?_; conv => whnf) | ((with_reducible refine CallX.all ?_); refine CallW.of_ok (z1 _) ?_; conv => whnf) | ((with_reducible refine CallX.all ?_); refine CallW.of_ok (z2 _) ?_; conv => whnf) | ((with_reducible refine CallX.all ?_); refine CallW.of_ok (z3 _) ?_; conv => whnf) | ((with_reducible refine CallX.all ?_); refine CallW.of_ok (z4 _) ?_; conv => whnf) | ((with_reducible refine CallX.all ?_); refine CallW.of_ok (z5 _) ?_; conv => whnf) | ((with_reducible refine CallX.all ?_); refine CallW.of_ok (z6 _) ?_; conv => whnf) | ((with_reducible refine CallX.all ?_); refine CallW.of_ok (k6 _ _ (SlC.own rfl)) ?_; conv => whnf) | ((with_reducible refine CallX.all ?_); refine CallW.of_ok (k7 _ _ (SlC.own rfl)) ?_; conv => whnf) | ((with_reducible refine WpR.draw (id := 10) mixed [0, 1, 2, 3, 4, 5, 7, 6, 8, 9, 10, 11, 12, 14, 13, 15, 16, 17, 18, 19] [0, 0, 0, 4, 12, 12, 60, 12, 252, 508, 1020, 2044, 2044, 8188, 2044, 32764, 65532, 16381, 147455, 524287] ?hh ?_); (case hh => kernel_rfl); conv => whnf) | ((with_reducible refine grd_ex ?_); refine ex_ok (k8 _) ?_; conv => whnf) | ((with_reducible refine grd_ex ?_); refine ex_ok (k9 _) ?_; conv => whnf) | ((with_reducible refine And.intro ?hh ?_); (case hh => (unfold InR; (try dsimp only); omega)); conv => whnf) | ((with_reducible refine And.intro ?hh ?_); (case hh => ((try dsimp only); omega)); conv => whnf) | ((with_reducible refine And.intro ?hh ?_); (case hh => ((conv => whnf); (repeat' (first | exact True.intro | rfl | refine And.intro ?_ ?_)); done)); conv => whnf) | fail))
    all_goals (first | (exfalso; omega) | (refine ⟨[], ?_, rfl, rfl, trivial, (by (repeat' (first | exact True.intro | rfl | refine And.intro ?_ ?_)))⟩; simp only [renV, renL]; (first | done | rfl | simp | grind)))
  | false =>
    have e1 : staErr lo hi l = 17 := by unfold staErr; rw [if_pos h0, hm]; rfl
    have e2 : plErr lo hi l y = 17 := by unfold plErr; rw [if_pos h0, if_pos hy]; exact e1
    have e4 : plcA lo hi l y = (((0, 0), (0, 0)), 17) := by unfold plcA; rw [if_neg (by omega), e2]
    have e5 : rateA lo hi l = (((0, 0), (0, 0)), 17) := by unfold rateA; rw [if_neg (by omega), e1]
    have e6 : endsA lo hi l y = ((((0, 0), (0, 0)), ((0, 0), (0, 0))), 17) := by unfold endsA; rw [hm]; rfl
    rw [e4] at k3
    rw [e5] at k1
    rw [e6]
    (conv => whnf); (repeat' (first | ((with_reducible refine ifb_mk (fun hc => ?_) (fun hc => ?_)) <;> ((try simp only [decide_eq_true_eq, decide_eq_false_iff_not, Bool.not_eq_true', Bool.not_eq_false', Int.not_lt, Int.not_le, ne_eq, Decidable.not_not, beq_iff_eq, List.cons.injEq, and_true] at hc); (first | (exfalso; omega) | conv => whnf))) | ((with_reducible refine And.intro True.intro ?_); conv => whnf) | ((with_reducible refine CallX.all ?_); refine CallW.of_ok (k1 _ _ (SlC.own rfl)) ?_; conv => whnf) | ((with_reducible refine CallX.all ?_); refine CallW.of_ok (k3 _ _ (SlC.own rfl)) ?_; conv => whnf) | ((with_reducible refine And.intro ?hh ?_); (case hh => (unfold InR; (try dsimp only); omega)); conv => whnf) | ((with_reducible refine And.intro ?hh ?_); (case hh => ((try dsimp only); omega)); conv => whnf) | ((with_reducible refine And.intro ?hh ?_); (case hh => ((conv => whnf); (repeat' (first | exact True.intro | rfl | refine And.intro ?_ ?_)); done)); conv => whnf) | fail))
    all_goals (first | (exfalso; omega) | (refine ⟨[], ?_, rfl, rfl, trivial, (by (repeat' (first | exact True.intro | rfl | refine And.intro ?_ ?_)))⟩; simp only [renV, renL]; (first | done | rfl | simp | grind)))
end Go.Proofs.D

namespace Go.Proofs.D
open Go.As
set_option maxRecDepth 20000
set_option linter.unusedVariables false
set_option linter.unusedSimpArgs false

theorem year_bd {yr : Int} (h : 0 ≤ yr ∧ yr ≤ 255) : 0 ≤ (IntKind.i64.wrap yr).tmod 201 ∧ (IntKind.i64.wrap yr).tmod 201 ≤ 200 := by
  obtain ⟨n, rfl⟩ : ∃ n : Nat, yr = n := ⟨yr.toNat, by omega⟩
  have hw : IntKind.i64.wrap (n : Int) = (n : Int) := wrap_in (by show Nat.ble n 9223372036854775807 = true; rw [Nat.ble_eq]; omega)
  rw [hw]
  have := Int.tmod_nonneg 201 h.1
  have := Int.tmod_lt_of_pos (n : Int) (show (0 : Int) < 201 by decide)
  omega

end Go.Proofs.D

namespace Go.Proofs.D
open Go.As
set_option maxRecDepth 20000
set_option linter.unusedVariables false
set_option linter.unusedSimpArgs false

/-! ### Midway between two years -/

def openQ (a b : Int × Int) : Int × Int := fr (b.1 * a.2 - a.1 * b.2) (b.2 * a.2)
structure OkW (x : Int × Int) : Prop where
  n : 0 ≤ x.1 ∧ x.1 ≤ 2400000000
  d : 1 ≤ x.2 ∧ x.2 ≤ 40000

theorem open_ok (h : H) (a b : Int × Int) (ha : OkH a) (hb : OkH b) : CallOk Try.prog 54 [qV a, qV b] h (qV (openQ a b)) h := by
  have g1 := mul_bd (by decide : (0 : Int) ≤ 6000000) hb.n (by have := ha.d; omega : 0 ≤ a.2 ∧ a.2 ≤ 200)
  have g2 := mul_bd (by decide : (0 : Int) ≤ 6000000) ha.n (by have := hb.d; omega : 0 ≤ b.2 ∧ b.2 ≤ 200)
  have g3 := mulp hb.d ha.d
  refine CallOk.run0 Try.func54 rfl rfl rfl rfl rfl (WpR.of_vc ?_)
  (conv => whnf); (repeat' (first | ((with_reducible refine ifb_mk (fun hc => ?_) (fun hc => ?_)) <;> ((try simp only [decide_eq_true_eq, decide_eq_false_iff_not, Bool.not_eq_true', Bool.not_eq_false', Int.not_lt, Int.not_le, ne_eq, Decidable.not_not, beq_iff_eq, List.cons.injEq, and_true] at hc); (first | (exfalso; omega) | conv => whnf))) | ((with_reducible refine And.intro True.intro ?_); conv => whnf) | ((with_reducible refine CallX.all ?_); refine CallW.of_ok (refFraction_ok _ (b.1 * a.2 - a.1 * b.2) (b.2 * a.2) (by unfold InQ; omega) (by omega)) ?_; conv => whnf) | ((with_reducible refine And.intro ?hh ?_); (case hh => (unfold InR; (try dsimp only); omega)); conv => whnf) | ((with_reducible refine And.intro ?hh ?_); (case hh => ((try dsimp only); omega)); conv => whnf) | ((with_reducible refine And.intro ?hh ?_); (case hh => ((conv => whnf); (repeat' (first | exact True.intro | rfl | refine And.intro ?_ ?_)); done)); conv => whnf) | fail))
  all_goals (refine ⟨[], ?_, rfl, rfl, trivial, (by (repeat' (first | exact True.intro | rfl | refine And.intro ?_ ?_)))⟩; first | rfl | (simp only [renV, renL]; first | done | rfl | (congr 1; grind [openQ]) | grind [openQ]))

theorem open_rat {a b : Int × Int} (ha : 0 < a.2) (hb : 0 < b.2) : rq (openQ a b) = rq b - rq a := by
  have hd := Int.mul_pos hb ha
  have h := rq_fr_mul (n := b.1 * a.2 - a.1 * b.2) hd
  have e1 := rq_mul ha
  have e2 := rq_mul hb
  apply cancelR (castNe hd)
  unfold openQ
  rw [h, Rat.intCast_sub, Rat.intCast_mul, Rat.intCast_mul, Rat.intCast_mul, ← e1, ← e2]
  grind
theorem open_W {a b : Int × Int} (ha : OkH a) (hb : OkH b) (h : rq a ≤ rq b) : OkW (openQ a b) := by
  have g1 := mul_bd (by decide : (0 : Int) ≤ 6000000) hb.n (by have := ha.d; omega : 0 ≤ a.2 ∧ a.2 ≤ 200)
  have g2 := mul_bd (by decide : (0 : Int) ≤ 6000000) ha.n (by have := hb.d; omega : 0 ≤ b.2 ∧ b.2 ≤ 200)
  have g3 := mulp hb.d ha.d
  have hd : 0 < b.2 * a.2 := by omega
  have h0 := h
  rw [rq_le (by have := ha.d; omega) (by have := hb.d; omega)] at h0
  have h1 := fr_bd (a := b.1 * a.2 - a.1 * b.2) hd (m := 2400000000) (by omega)
  refine ⟨⟨?_, h1.2⟩, fr_den hd (by omega)⟩
  obtain ⟨e1, _⟩ := fr_mul (a := b.1 * a.2 - a.1 * b.2) hd
  have hg := gcd_pos (b.1 * a.2 - a.1 * b.2) _ hd
  rcases Int.lt_or_le (fr (b.1 * a.2 - a.1 * b.2) (b.2 * a.2)).1 0 with hn | hn
  · have := Int.mul_neg_of_neg_of_pos hn hg
    omega
  · exact hn

theorem div_bd {a b : Int} (ha : 0 ≤ a) (hb : 1 ≤ b) : a = b * a.tdiv b + a.tmod b ∧ 0 ≤ a.tdiv b ∧ a.tdiv b ≤ a ∧ 0 ≤ a.tmod b ∧ a.tmod b < b := by
  refine ⟨(Int.mul_tdiv_add_tmod a b).symm, Int.tdiv_nonneg ha (by omega), Int.tdiv_le_self _ ha, Int.tmod_nonneg b ha, Int.tmod_lt_of_pos a (by omega)⟩

structure AbvP (vq vr uq ur wq wr v2 u2 w2 : Int) : Prop where
  le : (2 * vq - uq - wq) * v2 * u2 * w2 + (2 * vr * u2 * w2 - ur * v2 * w2 - wr * v2 * u2) ≤ 0
  top : 2 * vq - uq - wq ≤ 1

theorem above_le {v1 v2 u1 u2 w1 w2 vq vr uq ur wq wr : Int} (ev : v1 = v2 * vq + vr) (eu : u1 = u2 * uq + ur) (ew : w1 = w2 * wq + wr) (hv : 0 < v2) (hu : 0 < u2) (hw : 0 < w2) (hvr : 0 ≤ vr) (hur : ur < u2) (hwr : wr < w2)
    (h : 2 * v1 * u2 * w2 ≤ u1 * v2 * w2 + w1 * v2 * u2) : AbvP vq vr uq ur wq wr v2 u2 w2 := by
  subst ev eu ew
  have hD := Int.mul_pos (Int.mul_pos hv hu) hw
  have a1 := Int.mul_nonneg (Int.mul_nonneg hvr (Int.le_of_lt hu)) (Int.le_of_lt hw)
  have a2 := Int.mul_pos (Int.mul_pos (show 0 < u2 - ur by omega) hv) hw
  have a3 := Int.mul_pos (Int.mul_pos (show 0 < w2 - wr by omega) hv) hu
  have h1 : (2 * vq - uq - wq) * v2 * u2 * w2 + (2 * vr * u2 * w2 - ur * v2 * w2 - wr * v2 * u2) ≤ 0 := by grind
  refine ⟨h1, ?_⟩
  apply Int.not_lt.1
  intro hc
  have h2 := Int.mul_le_mul_of_nonneg_right (show 2 ≤ 2 * vq - uq - wq by omega) (Int.le_of_lt hD)
  grind

theorem mul3 {a b c m n k : Int} (ha : 0 ≤ a ∧ a ≤ m) (hb : 1 ≤ b ∧ b ≤ n) (hc : 1 ≤ c ∧ c ≤ k) (hm : 0 ≤ m) : (0 ≤ a * b ∧ a * b ≤ m * n) ∧ 0 ≤ a * b * c ∧ a * b * c ≤ m * n * k := by
  have h1 := mul_bd hm (by omega : -m ≤ a ∧ a ≤ m) (by omega : 0 ≤ b ∧ b ≤ n)
  have h2 := Int.mul_nonneg ha.1 (by omega : 0 ≤ b)
  have h3 : 0 ≤ m * n := by omega
  have h4 := mul_bd h3 (by omega : -(m * n) ≤ a * b ∧ a * b ≤ m * n) (by omega : 0 ≤ c ∧ c ≤ k)
  have h5 := Int.mul_nonneg h2 (by omega : 0 ≤ c)
  omega

set_option maxHeartbeats 1000000 in
theorem above_ok (h : H) (v u w : Int × Int) (hv : OkW v) (hu : OkW u) (hw : OkW w) (hle : 2 * v.1 * u.2 * w.2 ≤ u.1 * v.2 * w.2 + w.1 * v.2 * u.2) : CallOk Try.prog 55 [qV v, qV u, qV w] h (.bool false) h := by
  obtain ⟨v1, v2⟩ := v
  obtain ⟨u1, u2⟩ := u
  obtain ⟨w1, w2⟩ := w
  obtain ⟨nv, dv⟩ := hv
  obtain ⟨nu, du⟩ := hu
  obtain ⟨nw, dw⟩ := hw
  dsimp only at nv dv nu du nw dw hle
  obtain ⟨b1, b2, b3, b4, b5⟩ := div_bd nv.1 dv.1
  obtain ⟨c1, c2, c3, c4, c5⟩ := div_bd nu.1 du.1
  obtain ⟨d1, d2, d3, d4, d5⟩ := div_bd nw.1 dw.1
  obtain ⟨p1, p2⟩ := above_le b1 c1 d1 (by omega) (by omega) (by omega) b4 c5 d5 hle
  obtain ⟨q1, q2⟩ := mul3 (by omega : 0 ≤ 2 * v1.tmod v2 ∧ 2 * v1.tmod v2 ≤ 80000) du dw (by decide)
  obtain ⟨q3, q4⟩ := mul3 (by omega : 0 ≤ u1.tmod u2 ∧ u1.tmod u2 ≤ 40000) dv dw (by decide)
  obtain ⟨q5, q6⟩ := mul3 (by omega : 0 ≤ w1.tmod w2 ∧ w1.tmod w2 ≤ 40000) dv du (by decide)
  have zv : v2 ≠ 0 := by omega
  have zu : u2 ≠ 0 := by omega
  have zw : w2 ≠ 0 := by omega
  have hW : -1 ≤ 2 * v1.tdiv v2 - u1.tdiv u2 - w1.tdiv w2 → (-40000 ≤ (2 * v1.tdiv v2 - u1.tdiv u2 - w1.tdiv w2) * v2 ∧ (2 * v1.tdiv v2 - u1.tdiv u2 - w1.tdiv w2) * v2 ≤ 40000) ∧ (-1600000000 ≤ (2 * v1.tdiv v2 - u1.tdiv u2 - w1.tdiv w2) * v2 * u2 ∧ (2 * v1.tdiv v2 - u1.tdiv u2 - w1.tdiv w2) * v2 * u2 ≤ 1600000000) ∧ (-64000000000000 ≤ (2 * v1.tdiv v2 - u1.tdiv u2 - w1.tdiv w2) * v2 * u2 * w2 ∧ (2 * v1.tdiv v2 - u1.tdiv u2 - w1.tdiv w2) * v2 * u2 * w2 ≤ 64000000000000) := by
    intro h0
    generalize 2 * v1.tdiv v2 - u1.tdiv u2 - w1.tdiv w2 = W at *
    have e1 := mul_bd (by decide : (0 : Int) ≤ 1) (by omega : -1 ≤ W ∧ W ≤ 1) (by omega : 0 ≤ v2 ∧ v2 ≤ 40000)
    have e2 := mul_bd (by decide : (0 : Int) ≤ 40000) (by omega : -40000 ≤ W * v2 ∧ W * v2 ≤ 40000) (by omega : 0 ≤ u2 ∧ u2 ≤ 40000)
    have e3 := mul_bd (by decide : (0 : Int) ≤ 1600000000) (by omega : -1600000000 ≤ W * v2 * u2 ∧ W * v2 * u2 ≤ 1600000000) (by omega : 0 ≤ w2 ∧ w2 ≤ 40000)
    omega
  refine CallOk.run0 Try.func55 rfl rfl rfl rfl rfl (WpR.of_vc ?_)
  (conv => whnf); (repeat' (first | ((with_reducible refine ifb_mk (fun hc => ?_) (fun hc => ?_)) <;> ((try simp only [decide_eq_true_eq, decide_eq_false_iff_not, Bool.not_eq_true', Bool.not_eq_false', Int.not_lt, Int.not_le, ne_eq, Decidable.not_not, beq_iff_eq, List.cons.injEq, and_true] at hc); (first | (exfalso; omega) | conv => whnf))) | ((with_reducible refine And.intro True.intro ?_); conv => whnf) | ((with_reducible refine WpR.draw (id := 1) mixed [0, 1, 2, 3, 4, 5, 6, 7, 8, 9, 10, 11, 12, 13, 14, 15, 16, 17, 18] [0, 1, 0, 4, 15, 31, 0, 64, 0, 256, 960, 2047, 0, 4096, 0, 16384, 61440, 131071, 262143] ?hh ?_); (case hh => kernel_rfl); conv => whnf) | ((with_reducible refine WpR.draw (id := 4) mixed [0, 1, 2, 3, 4, 5, 6, 7, 8, 9, 10, 11, 12, 13, 14, 15, 16, 17] [0, 1, 0, 4, 15, 0, 32, 0, 128, 480, 0, 1024, 0, 4096, 15360, 31, 33791, 131071] ?hh ?_); (case hh => kernel_rfl); conv => whnf) | ((with_reducible refine And.intro ?hh ?_); (case hh => (unfold InR; (try dsimp only); omega)); conv => whnf) | ((with_reducible refine And.intro ?hh ?_); (case hh => ((try dsimp only); omega)); conv => whnf) | ((with_reducible refine And.intro ?hh ?_); (case hh => ((conv => whnf); (repeat' (first | exact True.intro | rfl | refine And.intro ?_ ?_)); done)); conv => whnf) | fail))
  all_goals (first | (exfalso; omega) | (refine ⟨[], ?_, rfl, rfl, trivial, (by (repeat' (first | exact True.intro | rfl | refine And.intro ?_ ?_)))⟩; simp only [renV, renL]; (first | rw [decide_eq_false (by omega)] | (congr 1; simp; omega))))
end Go.Proofs.D

namespace Go.Proofs.D
open Go.As
set_option maxRecDepth 20000
set_option linter.unusedVariables false
set_option linter.unusedSimpArgs false

theorem mid_le {lo hi : Int} {l : List E} (h0 : starErr lo hi l = 0) (hm : hasM lo hi l = true) {x y z : Int} (hxy : 2 * y = x + z) :
    2 * rq (plcQ (farA 1 lo hi l y) y) ≤ rq (plcQ (farA 1 lo hi l x) x) + rq (plcQ (farA 1 lo hi l z) z) ∧ rq (plcQ (farA 0 lo hi l x) x) + rq (plcQ (farA 0 lo hi l z) z) ≤ 2 * rq (plcQ (farA 0 lo hi l y) y) := by
  have hR : 2 * (y : Rat) = (x : Rat) + (z : Rat) := by
    have := congrArg (fun n : Int => (n : Rat)) hxy
    simpa [Rat.intCast_mul, Rat.intCast_add] using this
  have i0 := mot_in (far_err h0 hm (s := 0) (t := y) (.inl rfl)).1
  have i1 := mot_in (far_err h0 hm (s := 1) (t := y) (.inr rfl)).1
  have a1 := (mot_place i1 x).2
  have a2 := (mot_place i1 z).2
  have b1 := (mot_place i0 x).1
  have b2 := (mot_place i0 z).1
  rw [plc_rat i1.p1 i1.p2] at a1 a2 ⊢
  rw [plc_rat i0.p1 i0.p2] at b1 b2
  rw [plc_rat i0.p1 i0.p2]
  have e1 : 2 * (rq (farA 1 lo hi l y).2 * (y : Rat)) = rq (farA 1 lo hi l y).2 * (x : Rat) + rq (farA 1 lo hi l y).2 * (z : Rat) := by rw [← Rat.mul_add, ← hR]; grind
  have e2 : 2 * (rq (farA 0 lo hi l y).2 * (y : Rat)) = rq (farA 0 lo hi l y).2 * (x : Rat) + rq (farA 0 lo hi l y).2 * (z : Rat) := by rw [← Rat.mul_add, ← hR]; grind
  constructor <;> grind

theorem above_in {u v w : Int × Int} (hv : OkW v) (hu : OkW u) (hw : OkW w) (h : 2 * rq v ≤ rq u + rq w) : 2 * v.1 * u.2 * w.2 ≤ u.1 * v.2 * w.2 + w.1 * v.2 * u.2 := by
  have dv := hv.d
  have du := hu.d
  have dw := hw.d
  have rv := rq_mul (x := v) (by omega)
  have ru := rq_mul (x := u) (by omega)
  have rw' := rq_mul (x := w) (by omega)
  have hD : (0 : Rat) ≤ (v.2 : Rat) * (u.2 : Rat) * (w.2 : Rat) := Rat.mul_nonneg (Rat.mul_nonneg (Rat.intCast_nonneg.2 (by omega)) (Rat.intCast_nonneg.2 (by omega))) (Rat.intCast_nonneg.2 (by omega))
  have h1 := mul_mono h hD
  rw [← Rat.intCast_le_intCast, Rat.intCast_add, Rat.intCast_mul, Rat.intCast_mul, Rat.intCast_mul, Rat.intCast_mul, Rat.intCast_mul, Rat.intCast_mul, Rat.intCast_mul, ← rv, ← ru, ← rw']
  have e2 : ((2 : Int) : Rat) = 2 := rfl
  rw [e2]
  grind

/-- What the law compares. -/
structure MidOk (lo hi : Int) (l : List E) (x y z : Int) : Prop where
  a : EndsOk lo hi l x
  b : EndsOk lo hi l y
  c : EndsOk lo hi l z
  le : 2 * (openQ (plcQ (farA 0 lo hi l y) y) (plcQ (farA 1 lo hi l y) y)).1 * (openQ (plcQ (farA 0 lo hi l x) x) (plcQ (farA 1 lo hi l x) x)).2 * (openQ (plcQ (farA 0 lo hi l z) z) (plcQ (farA 1 lo hi l z) z)).2 ≤ (openQ (plcQ (farA 0 lo hi l x) x) (plcQ (farA 1 lo hi l x) x)).1 * (openQ (plcQ (farA 0 lo hi l y) y) (plcQ (farA 1 lo hi l y) y)).2 * (openQ (plcQ (farA 0 lo hi l z) z) (plcQ (farA 1 lo hi l z) z)).2 + (openQ (plcQ (farA 0 lo hi l z) z) (plcQ (farA 1 lo hi l z) z)).1 * (openQ (plcQ (farA 0 lo hi l y) y) (plcQ (farA 1 lo hi l y) y)).2 * (openQ (plcQ (farA 0 lo hi l x) x) (plcQ (farA 1 lo hi l x) x)).2

theorem mid_ok {lo hi : Int} {l : List E} (h0 : starErr lo hi l = 0) (hm : hasM lo hi l = true) {x y z : Int} (hx : 0 ≤ x ∧ x ≤ 200) (hy : 0 ≤ y ∧ y ≤ 200) (hz : 0 ≤ z ∧ z ≤ 200) (hxy : 2 * y = x + z) : MidOk lo hi l x y z := by
  have a := ends_small h0 hm hx
  have b := ends_small h0 hm hy
  have c := ends_small h0 hm hz
  obtain ⟨m1, m2⟩ := mid_le h0 hm hxy
  refine ⟨a, b, c, above_in (open_W b.a b.b b.le) (open_W a.a a.b a.le) (open_W c.a c.b c.le) ?_⟩
  have pa0 := a.a.d
  have pa1 := a.b.d
  have pb0 := b.a.d
  have pb1 := b.b.d
  have pc0 := c.a.d
  have pc1 := c.b.d
  rw [open_rat (by omega) (by omega), open_rat (by omega) (by omega), open_rat (by omega) (by omega)]
  grind

set_option maxHeartbeats 1000000 in
theorem driftBetween_ok (hw : ∀ h, CallOk Try.prog 16 [] h (.bool true) h) (h : H) (lo hi : Int) (l : List E) (sv : V) (one : Int) (h1 : 0 ≤ one ∧ one ≤ 255) (two : Int) (h2 : 0 ≤ two ∧ two ≤ 255) (hl : l.length ≤ 9223372036854775807) (hs : SlC h (entVs l) l.length sv) :
    CallOk Try.prog 13 [starV lo hi sv, .int .u8 one, .int .u8 two] h (.bool true) h := by
  obtain ⟨vo, svC, hsv, hca, hvw⟩ := hs.view 0
  refine CallOk.run Try.func13 rfl rfl (argsC := [starV lo hi svC, .int .u8 one, .int .u8 two]) (Nat.le_of_ble_eq_true rfl) [vo] (.cons (CaL.agg (.cons (.bare rfl) (.cons (.bare rfl) (.cons (hca _ rfl) .nil)))) (CaL.lt0 rfl)) (viewMc1 entVs_bare hvw) rfl (WpR.of_vc ?_)
  have hBare := @entVs_bare l
  have k0 := fun h' sv' hs' => fine_ok h' lo hi l sv' hl hs'
  cases hsv with
  | nil h0 =>
    have e1 : starErr lo hi l = 6 := by unfold starErr; rw [if_pos (by omega)]
    rw [decide_eq_false (by omega)] at k0
    (conv => whnf); (repeat' (first | ((with_reducible refine ifb_mk (fun hc => ?_) (fun hc => ?_)) <;> ((try simp only [decide_eq_true_eq, decide_eq_false_iff_not, Bool.not_eq_true', Bool.not_eq_false', Int.not_lt, Int.not_le, ne_eq, Decidable.not_not, beq_iff_eq, List.cons.injEq, and_true] at hc); (first | (exfalso; omega) | conv => whnf))) | ((with_reducible refine And.intro True.intro ?_); conv => whnf) | ((with_reducible refine CallX.all ?_); refine CallW.of_ok (k0 _ _ (SlC.none h0)) ?_; conv => whnf) | ((with_reducible refine CallX.all ?_); refine CallW.of_ok (hw _) ?_; conv => whnf) | ((with_reducible refine And.intro ?hh ?_); (case hh => (unfold InR; (try dsimp only); omega)); conv => whnf) | ((with_reducible refine And.intro ?hh ?_); (case hh => ((try dsimp only); omega)); conv => whnf) | ((with_reducible refine And.intro ?hh ?_); (case hh => ((conv => whnf); (repeat' (first | exact True.intro | rfl | refine And.intro ?_ ?_)); done)); conv => whnf) | fail))
    all_goals (refine ⟨[], ?_, rfl, rfl, trivial, (by (repeat' (first | exact True.intro | rfl | refine And.intro ?_ ?_)))⟩; simp only [renV, renL]; (first | done | rfl | simp | grind))
  | @sl cap ex =>
    by_cases h0 : starErr lo hi l = 0
    · rw [decide_eq_true h0] at k0
      have hX := year_bd h1
      have hZ := year_bd h2
      (conv => whnf); (repeat' (first | ((with_reducible refine ifb_mk (fun hc => ?_) (fun hc => ?_)) <;> ((try simp only [decide_eq_true_eq, decide_eq_false_iff_not, Bool.not_eq_true', Bool.not_eq_false', Int.not_lt, Int.not_le, ne_eq, Decidable.not_not, beq_iff_eq, List.cons.injEq, and_true] at hc); (first | (exfalso; omega) | conv => whnf))) | ((with_reducible refine And.intro True.intro ?_); conv => whnf) | ((with_reducible refine CallX.all ?_); refine CallW.of_ok (k0 _ _ (SlC.own rfl)) ?_; conv => whnf) | ((with_reducible refine And.intro ?hh ?_); (case hh => (unfold InR; (try dsimp only); omega)); conv => whnf) | ((with_reducible refine And.intro ?hh ?_); (case hh => ((try dsimp only); omega)); conv => whnf) | ((with_reducible refine And.intro ?hh ?_); (case hh => ((conv => whnf); (repeat' (first | exact True.intro | rfl | refine And.intro ?_ ?_)); done)); conv => whnf) | fail))
      all_goals generalize (IntKind.i64.wrap one).tmod 201 = X at *
      all_goals generalize (IntKind.i64.wrap two).tmod 201 = Z at *
      have hT : 0 ≤ (X + Z).tmod 2 ∧ (X + Z).tmod 2 ≤ 1 := by have := Int.tmod_nonneg 2 (show 0 ≤ X + Z by omega); have := Int.tmod_lt_of_pos (X + Z) (show (0 : Int) < 2 by decide); omega
      have hD := Int.mul_tdiv_add_tmod (X + Z) 2
      by_cases hev : (X + Z).tmod 2 = 0
      · have hXY : 2 * (X + Z).tdiv 2 = X + Z := by omega
        have hY : 0 ≤ (X + Z).tdiv 2 ∧ (X + Z).tdiv 2 ≤ 200 := by omega
        have hZ' := hZ
        have k1 := fun h' sv' hs' => ends_ok h' lo hi l h0 sv' X hX hl hs'
        have k2 := fun h' sv' hs' => ends_ok h' lo hi l h0 sv' ((X + Z).tdiv 2) hY hl hs'
        have k3 := fun h' sv' hs' => ends_ok h' lo hi l h0 sv' Z hZ' hl hs'
        cases hm : hasM lo hi l with
        | true =>
          have e6 : ∀ y, endsA lo hi l y = (((loQ lo hi l, hiQ lo hi l), (plcQ (farA 0 lo hi l y) y, plcQ (farA 1 lo hi l y) y)), 0) := fun y => by unfold endsA; rw [hm]; rfl
          rw [e6] at k1 k2 k3
          obtain ⟨ea, eb, ec, hle⟩ := mid_ok h0 hm hX hY hZ' hXY
          have wa := open_W ea.a ea.b ea.le
          have wb := open_W eb.a eb.b eb.le
          have wc := open_W ec.a ec.b ec.le
          have o1 := fun h' => open_ok h' _ _ ea.a ea.b
          have o2 := fun h' => open_ok h' _ _ eb.a eb.b
          have o3 := fun h' => open_ok h' _ _ ec.a ec.b
          have o4 := fun h' => above_ok h' _ _ _ wb wa wc hle
          clear e6 ea eb ec hle wa wb wc
          (conv => whnf); (repeat' (first | ((with_reducible refine ifb_mk (fun hc => ?_) (fun hc => ?_)) <;> ((try simp only [decide_eq_true_eq, decide_eq_false_iff_not, Bool.not_eq_true', Bool.not_eq_false', Int.not_lt, Int.not_le, ne_eq, Decidable.not_not, beq_iff_eq, List.cons.injEq, and_true] at hc); (first | (exfalso; omega) | conv => whnf))) | ((with_reducible refine And.intro True.intro ?_); conv => whnf) | ((with_reducible refine CallX.all ?_); refine CallW.of_ok (k1 _ _ (SlC.own rfl)) ?_; conv => whnf) | ((with_reducible refine CallX.all ?_); refine CallW.of_ok (k2 _ _ (SlC.own rfl)) ?_; conv => whnf) | ((with_reducible refine CallX.all ?_); refine CallW.of_ok (k3 _ _ (SlC.own rfl)) ?_; conv => whnf) | ((with_reducible refine WpR.draw (id := 16) mixed [0, 1, 2, 3, 5, 6, 7, 8, 10, 11, 12, 13, 15, 16, 17, 4, 9, 14, 18, 19, 20] [0, 1, 0, 4, 15, 0, 32, 0, 128, 511, 0, 1024, 0, 4096, 16383, 0, 0, 0, 262143, 524287, 1048575] ?hh ?_); (case hh => kernel_rfl); conv => whnf) | ((with_reducible refine grd_ex ?_); refine ex_ok (o1 _) ?_; conv => whnf) | ((with_reducible refine grd_ex ?_); refine ex_ok (o2 _) ?_; conv => whnf) | ((with_reducible refine grd_ex ?_); refine ex_ok (o3 _) ?_; conv => whnf) | ((with_reducible refine CallX.all ?_); refine CallW.of_ok (o4 _) ?_; conv => whnf) | ((with_reducible refine CallX.all ?_); refine CallW.of_ok (hw _) ?_; conv => whnf) | ((with_reducible refine And.intro ?hh ?_); (case hh => (unfold InR; (try dsimp only); omega)); conv => whnf) | ((with_reducible refine And.intro ?hh ?_); (case hh => ((try dsimp only); omega)); conv => whnf) | ((with_reducible refine And.intro ?hh ?_); (case hh => ((conv => whnf); (repeat' (first | exact True.intro | rfl | refine And.intro ?_ ?_)); done)); conv => whnf) | fail))
          all_goals (first | (exfalso; omega) | (refine ⟨[], ?_, rfl, rfl, trivial, (by (repeat' (first | exact True.intro | rfl | refine And.intro ?_ ?_)))⟩; simp only [renV, renL]; (first | done | rfl | simp | grind)))
        | false =>
          have e6 : ∀ y, endsA lo hi l y = ((((0, 0), (0, 0)), ((0, 0), (0, 0))), 17) := fun y => by unfold endsA; rw [hm]; rfl
          rw [e6] at k1 k2 k3
          clear e6
          (conv => whnf); (repeat' (first | ((with_reducible refine ifb_mk (fun hc => ?_) (fun hc => ?_)) <;> ((try simp only [decide_eq_true_eq, decide_eq_false_iff_not, Bool.not_eq_true', Bool.not_eq_false', Int.not_lt, Int.not_le, ne_eq, Decidable.not_not, beq_iff_eq, List.cons.injEq, and_true] at hc); (first | (exfalso; omega) | conv => whnf))) | ((with_reducible refine And.intro True.intro ?_); conv => whnf) | ((with_reducible refine CallX.all ?_); refine CallW.of_ok (k1 _ _ (SlC.own rfl)) ?_; conv => whnf) | ((with_reducible refine CallX.all ?_); refine CallW.of_ok (k2 _ _ (SlC.own rfl)) ?_; conv => whnf) | ((with_reducible refine CallX.all ?_); refine CallW.of_ok (k3 _ _ (SlC.own rfl)) ?_; conv => whnf) | ((with_reducible refine CallX.all ?_); refine CallW.of_ok (hw _) ?_; conv => whnf) | ((with_reducible refine And.intro ?hh ?_); (case hh => (unfold InR; (try dsimp only); omega)); conv => whnf) | ((with_reducible refine And.intro ?hh ?_); (case hh => ((try dsimp only); omega)); conv => whnf) | ((with_reducible refine And.intro ?hh ?_); (case hh => ((conv => whnf); (repeat' (first | exact True.intro | rfl | refine And.intro ?_ ?_)); done)); conv => whnf) | fail))
          all_goals (first | (exfalso; omega) | (refine ⟨[], ?_, rfl, rfl, trivial, (by (repeat' (first | exact True.intro | rfl | refine And.intro ?_ ?_)))⟩; simp only [renV, renL]; (first | done | rfl | simp | grind)))
      · by_cases hb : 0 < Z - 1
        · have hb' : ilt 0 (Z - 1) = true := by rw [ilt_eq]; exact decide_eq_true hb
          (conv => whnf); (repeat' (first | ((with_reducible refine ifb_mk (fun hc => ?_) (fun hc => ?_)) <;> ((try simp only [decide_eq_true_eq, decide_eq_false_iff_not, Bool.not_eq_true', Bool.not_eq_false', Int.not_lt, Int.not_le, ne_eq, Decidable.not_not, beq_iff_eq, List.cons.injEq, and_true] at hc); (first | (exfalso; omega) | conv => whnf))) | ((with_reducible refine And.intro True.intro ?_); conv => whnf) | ((with_reducible refine And.intro ?hh ?_); (case hh => (unfold InR; (try dsimp only); omega)); conv => whnf) | ((with_reducible refine And.intro ?hh ?_); (case hh => ((try dsimp only); omega)); conv => whnf) | ((with_reducible refine And.intro ?hh ?_); (case hh => ((conv => whnf); (repeat' (first | exact True.intro | rfl | refine And.intro ?_ ?_)); done)); conv => whnf) | fail))
          rw [hb']
          have hT2 : (X + (Z - 1)).tmod 2 = 0 := by have := Int.tmod_nonneg 2 (show 0 ≤ X + (Z - 1) by omega); have := Int.tmod_lt_of_pos (X + (Z - 1)) (show (0 : Int) < 2 by decide); have := Int.mul_tdiv_add_tmod (X + (Z - 1)) 2; omega
          have hD2 := Int.mul_tdiv_add_tmod (X + (Z - 1)) 2
          have hXY : 2 * (X + (Z - 1)).tdiv 2 = X + (Z - 1) := by omega
          have hY : 0 ≤ (X + (Z - 1)).tdiv 2 ∧ (X + (Z - 1)).tdiv 2 ≤ 200 := by omega
          have hZ' : 0 ≤ Z - 1 ∧ Z - 1 ≤ 200 := by omega
          have k1 := fun h' sv' hs' => ends_ok h' lo hi l h0 sv' X hX hl hs'
          have k2 := fun h' sv' hs' => ends_ok h' lo hi l h0 sv' ((X + (Z - 1)).tdiv 2) hY hl hs'
          have k3 := fun h' sv' hs' => ends_ok h' lo hi l h0 sv' (Z - 1) hZ' hl hs'
          cases hm : hasM lo hi l with
          | true =>
            have e6 : ∀ y, endsA lo hi l y = (((loQ lo hi l, hiQ lo hi l), (plcQ (farA 0 lo hi l y) y, plcQ (farA 1 lo hi l y) y)), 0) := fun y => by unfold endsA; rw [hm]; rfl
            rw [e6] at k1 k2 k3
            obtain ⟨ea, eb, ec, hle⟩ := mid_ok h0 hm hX hY hZ' hXY
            have wa := open_W ea.a ea.b ea.le
            have wb := open_W eb.a eb.b eb.le
            have wc := open_W ec.a ec.b ec.le
            have o1 := fun h' => open_ok h' _ _ ea.a ea.b
            have o2 := fun h' => open_ok h' _ _ eb.a eb.b
            have o3 := fun h' => open_ok h' _ _ ec.a ec.b
            have o4 := fun h' => above_ok h' _ _ _ wb wa wc hle
            clear e6 ea eb ec hle wa wb wc
            (conv => whnf); (repeat' (first | ((with_reducible refine ifb_mk (fun hc => ?_) (fun hc => ?_)) <;> ((try simp only [decide_eq_true_eq, decide_eq_false_iff_not, Bool.not_eq_true', Bool.not_eq_false', Int.not_lt, Int.not_le, ne_eq, Decidable.not_not, beq_iff_eq, List.cons.injEq, and_true] at hc); (first | (exfalso; omega) | conv => whnf))) | ((with_reducible refine And.intro True.intro ?_); conv => whnf) | ((with_reducible refine CallX.all ?_); refine CallW.of_ok (k1 _ _ (SlC.own rfl)) ?_; conv => whnf) | ((with_reducible refine CallX.all ?_); refine CallW.of_ok (k2 _ _ (SlC.own rfl)) ?_; conv => whnf) | ((with_reducible refine CallX.all ?_); refine CallW.of_ok (k3 _ _ (SlC.own rfl)) ?_; conv => whnf) | ((with_reducible refine WpR.draw (id := 16) mixed [0, 1, 2, 3, 5, 6, 7, 8, 10, 11, 12, 13, 15, 16, 17, 4, 9, 14, 18, 19, 20] [0, 1, 0, 4, 15, 0, 32, 0, 128, 511, 0, 1024, 0, 4096, 16383, 0, 0, 0, 262143, 524287, 1048575] ?hh ?_); (case hh => kernel_rfl); conv => whnf) | ((with_reducible refine grd_ex ?_); refine ex_ok (o1 _) ?_; conv => whnf) | ((with_reducible refine grd_ex ?_); refine ex_ok (o2 _) ?_; conv => whnf) | ((with_reducible refine grd_ex ?_); refine ex_ok (o3 _) ?_; conv => whnf) | ((with_reducible refine CallX.all ?_); refine CallW.of_ok (o4 _) ?_; conv => whnf) | ((with_reducible refine CallX.all ?_); refine CallW.of_ok (hw _) ?_; conv => whnf) | ((with_reducible refine And.intro ?hh ?_); (case hh => (unfold InR; (try dsimp only); omega)); conv => whnf) | ((with_reducible refine And.intro ?hh ?_); (case hh => ((try dsimp only); omega)); conv => whnf) | ((with_reducible refine And.intro ?hh ?_); (case hh => ((conv => whnf); (repeat' (first | exact True.intro | rfl | refine And.intro ?_ ?_)); done)); conv => whnf) | fail))
            all_goals (first | (exfalso; omega) | (refine ⟨[], ?_, rfl, rfl, trivial, (by (repeat' (first | exact True.intro | rfl | refine And.intro ?_ ?_)))⟩; simp only [renV, renL]; (first | done | rfl | simp | grind)))
          | false =>
            have e6 : ∀ y, endsA lo hi l y = ((((0, 0), (0, 0)), ((0, 0), (0, 0))), 17) := fun y => by unfold endsA; rw [hm]; rfl
            rw [e6] at k1 k2 k3
            clear e6
            (conv => whnf); (repeat' (first | ((with_reducible refine ifb_mk (fun hc => ?_) (fun hc => ?_)) <;> ((try simp only [decide_eq_true_eq, decide_eq_false_iff_not, Bool.not_eq_true', Bool.not_eq_false', Int.not_lt, Int.not_le, ne_eq, Decidable.not_not, beq_iff_eq, List.cons.injEq, and_true] at hc); (first | (exfalso; omega) | conv => whnf))) | ((with_reducible refine And.intro True.intro ?_); conv => whnf) | ((with_reducible refine CallX.all ?_); refine CallW.of_ok (k1 _ _ (SlC.own rfl)) ?_; conv => whnf) | ((with_reducible refine CallX.all ?_); refine CallW.of_ok (k2 _ _ (SlC.own rfl)) ?_; conv => whnf) | ((with_reducible refine CallX.all ?_); refine CallW.of_ok (k3 _ _ (SlC.own rfl)) ?_; conv => whnf) | ((with_reducible refine CallX.all ?_); refine CallW.of_ok (hw _) ?_; conv => whnf) | ((with_reducible refine And.intro ?hh ?_); (case hh => (unfold InR; (try dsimp only); omega)); conv => whnf) | ((with_reducible refine And.intro ?hh ?_); (case hh => ((try dsimp only); omega)); conv => whnf) | ((with_reducible refine And.intro ?hh ?_); (case hh => ((conv => whnf); (repeat' (first | exact True.intro | rfl | refine And.intro ?_ ?_)); done)); conv => whnf) | fail))
            all_goals (first | (exfalso; omega) | (refine ⟨[], ?_, rfl, rfl, trivial, (by (repeat' (first | exact True.intro | rfl | refine And.intro ?_ ?_)))⟩; simp only [renV, renL]; (first | done | rfl | simp | grind)))
        · have hb' : ilt 0 (Z - 1) = false := by rw [ilt_eq]; exact decide_eq_false hb
          (conv => whnf); (repeat' (first | ((with_reducible refine ifb_mk (fun hc => ?_) (fun hc => ?_)) <;> ((try simp only [decide_eq_true_eq, decide_eq_false_iff_not, Bool.not_eq_true', Bool.not_eq_false', Int.not_lt, Int.not_le, ne_eq, Decidable.not_not, beq_iff_eq, List.cons.injEq, and_true] at hc); (first | (exfalso; omega) | conv => whnf))) | ((with_reducible refine And.intro True.intro ?_); conv => whnf) | ((with_reducible refine And.intro ?hh ?_); (case hh => (unfold InR; (try dsimp only); omega)); conv => whnf) | ((with_reducible refine And.intro ?hh ?_); (case hh => ((try dsimp only); omega)); conv => whnf) | ((with_reducible refine And.intro ?hh ?_); (case hh => ((conv => whnf); (repeat' (first | exact True.intro | rfl | refine And.intro ?_ ?_)); done)); conv => whnf) | fail))
          rw [hb']
          have hT2 : 0 ≤ (X + 0).tmod 2 ∧ (X + 0).tmod 2 ≤ 1 := by have := Int.tmod_nonneg 2 (show 0 ≤ X + 0 by omega); have := Int.tmod_lt_of_pos (X + 0) (show (0 : Int) < 2 by decide); omega
          have hD2 := Int.mul_tdiv_add_tmod (X + 0) 2
          by_cases hev2 : (X + 0).tmod 2 = 0
          · have hXY : 2 * (X + 0).tdiv 2 = X + 0 := by omega
            have hY : 0 ≤ (X + 0).tdiv 2 ∧ (X + 0).tdiv 2 ≤ 200 := by omega
            have hZ' : (0 : Int) ≤ 0 ∧ (0 : Int) ≤ 200 := by omega
            have k1 := fun h' sv' hs' => ends_ok h' lo hi l h0 sv' X hX hl hs'
            have k2 := fun h' sv' hs' => ends_ok h' lo hi l h0 sv' ((X + 0).tdiv 2) hY hl hs'
            have k3 := fun h' sv' hs' => ends_ok h' lo hi l h0 sv' 0 hZ' hl hs'
            cases hm : hasM lo hi l with
            | true =>
              have e6 : ∀ y, endsA lo hi l y = (((loQ lo hi l, hiQ lo hi l), (plcQ (farA 0 lo hi l y) y, plcQ (farA 1 lo hi l y) y)), 0) := fun y => by unfold endsA; rw [hm]; rfl
              rw [e6] at k1 k2 k3
              obtain ⟨ea, eb, ec, hle⟩ := mid_ok h0 hm hX hY hZ' hXY
              have wa := open_W ea.a ea.b ea.le
              have wb := open_W eb.a eb.b eb.le
              have wc := open_W ec.a ec.b ec.le
              have o1 := fun h' => open_ok h' _ _ ea.a ea.b
              have o2 := fun h' => open_ok h' _ _ eb.a eb.b
              have o3 := fun h' => open_ok h' _ _ ec.a ec.b
              have o4 := fun h' => above_ok h' _ _ _ wb wa wc hle
              clear e6 ea eb ec hle wa wb wc
              (conv => whnf); (repeat' (first | ((with_reducible refine ifb_mk (fun hc => ?_) (fun hc => ?_)) <;> ((try simp only [decide_eq_true_eq, decide_eq_false_iff_not, Bool.not_eq_true', Bool.not_eq_false', Int.not_lt, Int.not_le, ne_eq, Decidable.not_not, beq_iff_eq, List.cons.injEq, and_true] at hc); (first | (exfalso; omega) | conv => whnf))) | ((with_reducible refine And.intro True.intro ?_); conv => whnf) | ((with_reducible refine CallX.all ?_); refine CallW.of_ok (k1 _ _ (SlC.own rfl)) ?_; conv => whnf) | ((with_reducible refine CallX.all ?_); refine CallW.of_ok (k2 _ _ (SlC.own rfl)) ?_; conv => whnf) | ((with_reducible refine CallX.all ?_); refine CallW.of_ok (k3 _ _ (SlC.own rfl)) ?_; conv => whnf) | ((with_reducible refine WpR.draw (id := 16) mixed [0, 1, 2, 3, 5, 6, 7, 8, 10, 11, 12, 13, 15, 16, 17, 4, 9, 14, 18, 19, 20] [0, 1, 0, 4, 15, 0, 32, 0, 128, 511, 0, 1024, 0, 4096, 16383, 0, 0, 0, 262143, 524287, 1048575] ?hh ?_); (case hh => kernel_rfl); conv => whnf) | ((with_reducible refine grd_ex ?_); refine ex_ok (o1 _) ?_; conv => whnf) | ((with_reducible refine grd_ex ?_); refine ex_ok (o2 _) ?_; conv => whnf) | ((with_reducible refine grd_ex ?_); refine ex_ok (o3 _) ?_; conv => whnf) | ((with_reducible refine CallX.all ?_); refine CallW.of_ok (o4 _) ?_; conv => whnf) | ((with_reducible refine CallX.all ?_); refine CallW.of_ok (hw _) ?_; conv => whnf) | ((with_reducible refine And.intro ?hh ?_); (case hh => (unfold InR; (try dsimp only); omega)); conv => whnf) | ((with_reducible refine And.intro ?hh ?_); (case hh => ((try dsimp only); omega)); conv => whnf) | ((with_reducible refine And.intro ?hh ?_); (case hh => ((conv => whnf); (repeat' (first | exact True.intro | rfl | refine And.intro ?_ ?_)); done)); conv => whnf) | fail))
              all_goals (first | (exfalso; omega) | (refine ⟨[], ?_, rfl, rfl, trivial, (by (repeat' (first | exact True.intro | rfl | refine And.intro ?_ ?_)))⟩; simp only [renV, renL]; (first | done | rfl | simp | grind)))
            | false =>
              have e6 : ∀ y, endsA lo hi l y = ((((0, 0), (0, 0)), ((0, 0), (0, 0))), 17) := fun y => by unfold endsA; rw [hm]; rfl
              rw [e6] at k1 k2 k3
              clear e6
              (conv => whnf); (repeat' (first | ((with_reducible refine ifb_mk (fun hc => ?_) (fun hc => ?_)) <;> ((try simp only [decide_eq_true_eq, decide_eq_false_iff_not, Bool.not_eq_true', Bool.not_eq_false', Int.not_lt, Int.not_le, ne_eq, Decidable.not_not, beq_iff_eq, List.cons.injEq, and_true] at hc); (first | (exfalso; omega) | conv => whnf))) | ((with_reducible refine And.intro True.intro ?_); conv => whnf) | ((with_reducible refine CallX.all ?_); refine CallW.of_ok (k1 _ _ (SlC.own rfl)) ?_; conv => whnf) | ((with_reducible refine CallX.all ?_); refine CallW.of_ok (k2 _ _ (SlC.own rfl)) ?_; conv => whnf) | ((with_reducible refine CallX.all ?_); refine CallW.of_ok (k3 _ _ (SlC.own rfl)) ?_; conv => whnf) | ((with_reducible refine CallX.all ?_); refine CallW.of_ok (hw _) ?_; conv => whnf) | ((with_reducible refine And.intro ?hh ?_); (case hh => (unfold InR; (try dsimp only); omega)); conv => whnf) | ((with_reducible refine And.intro ?hh ?_); (case hh => ((try dsimp only); omega)); conv => whnf) | ((with_reducible refine And.intro ?hh ?_); (case hh => ((conv => whnf); (repeat' (first | exact True.intro | rfl | refine And.intro ?_ ?_)); done)); conv => whnf) | fail))
              all_goals (first | (exfalso; omega) | (refine ⟨[], ?_, rfl, rfl, trivial, (by (repeat' (first | exact True.intro | rfl | refine And.intro ?_ ?_)))⟩; simp only [renV, renL]; (first | done | rfl | simp | grind)))
          · (conv => whnf); (repeat' (first | ((with_reducible refine ifb_mk (fun hc => ?_) (fun hc => ?_)) <;> ((try simp only [decide_eq_true_eq, decide_eq_false_iff_not, Bool.not_eq_true', Bool.not_eq_false', Int.not_lt, Int.not_le, ne_eq, Decidable.not_not, beq_iff_eq, List.cons.injEq, and_true] at hc); (first | (exfalso; omega) | conv => whnf))) | ((with_reducible refine And.intro True.intro ?_); conv => whnf) | ((with_reducible refine CallX.all ?_); refine CallW.of_ok (hw _) ?_; conv => whnf) | ((with_reducible refine And.intro ?hh ?_); (case hh => (unfold InR; (try dsimp only); omega)); conv => whnf) | ((with_reducible refine And.intro ?hh ?_); (case hh => ((try dsimp only); omega)); conv => whnf) | ((with_reducible refine And.intro ?hh ?_); (case hh => ((conv => whnf); (repeat' (first | exact True.intro | rfl | refine And.intro ?_ ?_)); done)); conv => whnf) | fail))
            all_goals (first | (exfalso; omega) | (refine ⟨[], ?_, rfl, rfl, trivial, (by (repeat' (first | exact True.intro | rfl | refine And.intro ?_ ?_)))⟩; simp only [renV, renL]; (first | done | rfl | simp | grind)))
    · rw [decide_eq_false h0] at k0
      (conv => whnf); (repeat' (first | ((with_reducible refine ifb_mk (fun hc => ?_) (fun hc => ?_)) <;> ((try simp only [decide_eq_true_eq, decide_eq_false_iff_not, Bool.not_eq_true', Bool.not_eq_false', Int.not_lt, Int.not_le, ne_eq, Decidable.not_not, beq_iff_eq, List.cons.injEq, and_true] at hc); (first | (exfalso; omega) | conv => whnf))) | ((with_reducible refine And.intro True.intro ?_); conv => whnf) | ((with_reducible refine CallX.all ?_); refine CallW.of_ok (k0 _ _ (SlC.own rfl)) ?_; conv => whnf) | ((with_reducible refine CallX.all ?_); refine CallW.of_ok (hw _) ?_; conv => whnf) | ((with_reducible refine And.intro ?hh ?_); (case hh => (unfold InR; (try dsimp only); omega)); conv => whnf) | ((with_reducible refine And.intro ?hh ?_); (case hh => ((try dsimp only); omega)); conv => whnf) | ((with_reducible refine And.intro ?hh ?_); (case hh => ((conv => whnf); (repeat' (first | exact True.intro | rfl | refine And.intro ?_ ?_)); done)); conv => whnf) | fail))
      all_goals (refine ⟨[], ?_, rfl, rfl, trivial, (by (repeat' (first | exact True.intro | rfl | refine And.intro ?_ ?_)))⟩; simp only [renV, renL]; (first | done | rfl | simp | grind))
end Go.Proofs.D

namespace Go.Proofs.D
open Go.As
set_option maxRecDepth 20000
set_option linter.unusedVariables false
set_option linter.unusedSimpArgs false

/-! ### Stars turned round, and years counted back -/

theorem negQ_neg (q : Int × Int) : negQ (negQ q) = q := by unfold negQ; simp
theorem turn_turn (l : List E) : turnL (turnL l) = l := by
  unfold turnL
  rw [List.map_map]
  conv => rhs; rw [← List.map_id l]
  refine List.map_congr_left fun e _ => ?_
  show turnE (turnE e) = e
  unfold turnE; simp

theorem loQ_red {lo hi : Int} {l : List E} (hS : OkS lo hi l) : Int.gcd (loQ lo hi l).1 (loQ lo hi l).2 = 1 := by
  obtain ⟨⟨p, m, e⟩, _, _, _⟩ := boundsP hS
  dsimp only at e
  rw [e]; exact (bndOf_red hS m).1
theorem hiQ_red {lo hi : Int} {l : List E} (hS : OkS lo hi l) : Int.gcd (hiQ lo hi l).1 (hiQ lo hi l).2 = 1 := by
  obtain ⟨_, ⟨p, m, e⟩, _, _⟩ := boundsP hS
  dsimp only at e
  rw [e]; exact (bndOf_red hS m).2
theorem negQ_red {q : Int × Int} (h : Int.gcd q.1 q.2 = 1) : Int.gcd (negQ q).1 (negQ q).2 = 1 := by unfold negQ; dsimp only; rw [Int.neg_gcd]; exact h

/-- A star whose bounds are those of another one, turned round. -/
structure Opp (lo hi lo' hi' : Int) (l l' : List E) : Prop where
  ok : OkS lo hi l
  ok' : OkS lo' hi' l'
  el : rq (loQ lo' hi' l') = -rq (hiQ lo hi l)
  eh : rq (hiQ lo' hi' l') = -rq (loQ lo hi l)

theorem Opp.eqs {lo hi lo' hi' : Int} {l l' : List E} (h : Opp lo hi lo' hi' l l') : loQ lo' hi' l' = negQ (hiQ lo hi l) ∧ hiQ lo' hi' l' = negQ (loQ lo hi l) ∧ hasM lo' hi' l' = hasM lo hi l := by
  have a := (loQ_bd h.ok).2
  have b := (hiQ_bd h.ok).2
  have a' := (loQ_bd h.ok').2
  have b' := (hiQ_bd h.ok').2
  have e1 : loQ lo' hi' l' = negQ (hiQ lo hi l) := rq_inj (by omega) (show 0 < (hiQ lo hi l).2 by omega) (loQ_red h.ok') (negQ_red (hiQ_red h.ok)) (by rw [rq_neg]; exact h.el)
  have e2 : hiQ lo' hi' l' = negQ (loQ lo hi l) := rq_inj (by omega) (show 0 < (loQ lo hi l).2 by omega) (hiQ_red h.ok') (negQ_red (loQ_red h.ok)) (by rw [rq_neg]; exact h.eh)
  refine ⟨e1, e2, ?_⟩
  unfold hasM
  rw [e1, e2]
  unfold negQ
  dsimp only
  congr 1
  rw [decide_eq_decide, Int.neg_mul, Int.neg_mul]
  omega

theorem opp_turn {lo hi : Int} {l : List E} (hS : OkS lo hi l) : Opp lo hi (-hi) (-lo) l (turnL l) := ⟨hS, turn_OkS hS, turn_lo hS, turn_hi hS⟩

theorem turn_places {lo hi : Int} {l : List E} (hS : OkS lo hi l) (hm : hasM lo hi l = true) (t : Int) :
    plcQ (farA 0 (-hi) (-lo) (turnL l) t) t = negQ (plcQ (farA 1 lo hi l t) t) ∧ plcQ (farA 1 (-hi) (-lo) (turnL l) t) t = negQ (plcQ (farA 0 lo hi l t) t) := by
  have hT := turn_OkS hS
  have hm' : hasM (-hi) (-lo) (turnL l) = true := by rw [(opp_turn hS).eqs.2.2]; exact hm
  have h0 := place0 hT hm' t
  rw [turn_turn, Int.neg_neg, Int.neg_neg, ← place1 hS hm t] at h0
  refine ⟨h0, ?_⟩
  rw [place1 hT hm' t, place0 hS hm t, negQ_neg]

/-! Years counted back. -/

def revE (e : E) : E := (200 - e.1, e.2.1, e.2.2)
def revL (l : List E) : List E := l.reverse.map revE
theorem rev_len (l : List E) : (revL l).length = l.length := by unfold revL; rw [List.length_map, List.length_reverse]
theorem rev_get {l : List E} {i : Nat} (hi : i < l.length) : (revL l)[i]? = (l[l.length - 1 - i]?).map revE := by
  unfold revL
  rw [List.getElem?_map, List.getElem?_reverse hi]
theorem rev_at {l : List E} {i : Nat} {e : E} (h : (revL l)[i]? = some e) : i < l.length ∧ ∃ f, l[l.length - 1 - i]? = some f ∧ e = revE f := by
  have hi := (List.getElem?_eq_some_iff.1 h).1
  rw [rev_len] at hi
  rw [rev_get hi] at h
  obtain ⟨f, h1, h2⟩ := Option.map_eq_some_iff.1 h
  exact ⟨hi, f, h1, h2.symm⟩

theorem rev_OkS {lo hi : Int} {l : List E} (hS : OkS lo hi l) : OkS (-hi) (-lo) (revL l) where
  one := by rw [rev_len]; exact hS.one
  most := by rw [rev_len]; exact hS.most
  rate := by have := hS.rate; omega
  ent i e he := by
    obtain ⟨_, f, hf, rfl⟩ := rev_at he
    have := hS.ent _ f hf
    unfold revE
    dsimp only
    omega
  inc i j e f hij he hf := by
    obtain ⟨h1, e', he', rfl⟩ := rev_at he
    obtain ⟨h2, f', hf', rfl⟩ := rev_at hf
    have := hS.inc _ _ f' e' (by omega) hf' he'
    unfold revE
    dsimp only
    omega

theorem bnd_rev {lo hi : Int} {l : List E} {i j : Nat} (hij : i < j) (hj : j < l.length) : bndOf (-hi) (-lo) (revL l) ((i : Int), (j : Int)) = (negQ (bndOf lo hi l (((l.length - 1 - j : Nat) : Int), ((l.length - 1 - i : Nat) : Int))).2, negQ (bndOf lo hi l (((l.length - 1 - j : Nat) : Int), ((l.length - 1 - i : Nat) : Int))).1) := by
  have ga : l[l.length - 1 - i]? = some (l[l.length - 1 - i]'(by omega)) := List.getElem?_eq_getElem _
  have gb : l[l.length - 1 - j]? = some (l[l.length - 1 - j]'(by omega)) := List.getElem?_eq_getElem _
  have ra := rev_get (l := l) (i := i) (by omega)
  have rb := rev_get (l := l) (i := j) hj
  rw [ga] at ra
  rw [gb] at rb
  rw [bndOf_two ra rb, bndOf_two gb ga]
  generalize l[l.length - 1 - i]'(by omega) = e
  generalize l[l.length - 1 - j]'(by omega) = f
  unfold bnd2 revE negQ
  dsimp only
  rw [show 200 - f.1 - (200 - e.1) = e.1 - f.1 from by omega, show f.2.1 - e.2.2 = -(e.2.2 - f.2.1) from by omega, show f.2.2 - e.2.1 = -(e.2.1 - f.2.2) from by omega, fr_neg, fr_neg]

theorem bnd_rev2 {lo hi : Int} {l : List E} {p : Int × Int} (hp : p ∈ pairsL l.length) : ∃ q ∈ pairsL l.length, bndOf (-hi) (-lo) (revL l) p = (negQ (bndOf lo hi l q).2, negQ (bndOf lo hi l q).1) := by
  rcases pairsL_mem.1 hp with rfl | ⟨i, j, h1, h2, rfl⟩
  · exact ⟨(-1, -1), pairsL_mem.2 (.inl rfl), rfl⟩
  · exact ⟨_, pairsL_mem.2 (.inr ⟨l.length - 1 - j, l.length - 1 - i, by omega, by omega, rfl⟩), bnd_rev h1 h2⟩
theorem bnd_rev3 {lo hi : Int} {l : List E} {q : Int × Int} (hq : q ∈ pairsL l.length) : ∃ p ∈ pairsL l.length, bndOf (-hi) (-lo) (revL l) p = (negQ (bndOf lo hi l q).2, negQ (bndOf lo hi l q).1) := by
  rcases pairsL_mem.1 hq with rfl | ⟨i, j, h1, h2, rfl⟩
  · exact ⟨(-1, -1), pairsL_mem.2 (.inl rfl), rfl⟩
  · refine ⟨_, pairsL_mem.2 (.inr ⟨l.length - 1 - j, l.length - 1 - i, by omega, by omega, rfl⟩), ?_⟩
    have := bnd_rev (lo := lo) (hi := hi) (l := l) (i := l.length - 1 - j) (j := l.length - 1 - i) (by omega) (by omega)
    rw [show l.length - 1 - (l.length - 1 - i) = i from by omega, show l.length - 1 - (l.length - 1 - j) = j from by omega] at this
    exact this

theorem opp_rev {lo hi : Int} {l : List E} (hS : OkS lo hi l) : Opp lo hi (-hi) (-lo) l (revL l) := by
  have hR := rev_OkS hS
  obtain ⟨⟨p1, m1, e1⟩, ⟨p2, m2, e2⟩, h3, h4⟩ := boundsP hS
  obtain ⟨⟨q1, n1, d1⟩, ⟨q2, n2, d2⟩, g3, g4⟩ := boundsP hR
  rw [rev_len] at n1 n2 g3 g4
  dsimp only at *
  refine ⟨hS, hR, ?_, ?_⟩
  · obtain ⟨a, ma, ea⟩ := bnd_rev2 (lo := lo) (hi := hi) n1
    obtain ⟨b, mb, eb⟩ := bnd_rev3 (lo := lo) (hi := hi) m2
    have b1 := h4 a ma
    have b2 := g3 b mb
    rw [ea] at d1
    rw [eb] at b2
    dsimp only at d1 b2
    rw [rq_neg, ← e2] at b2
    rw [d1, rq_neg] at b2 ⊢
    grind
  · obtain ⟨a, ma, ea⟩ := bnd_rev2 (lo := lo) (hi := hi) n2
    obtain ⟨b, mb, eb⟩ := bnd_rev3 (lo := lo) (hi := hi) m1
    have b1 := h3 a ma
    have b2 := g4 b mb
    rw [ea] at d2
    rw [eb] at b2
    dsimp only at d2 b2
    rw [rq_neg, ← e1] at b2
    rw [d2, rq_neg] at b2 ⊢
    grind

def revP (p : Rat × Rat) : Rat × Rat := (200 - p.1, p.2)
theorem LeT.rev {P P' : List (Rat × Rat)} {t t' a b x : Rat} (hP : ∀ p, p ∈ P' → revP p ∈ P) (ht : t' = 200 - t) (h : LeT P t a b x) : LeT P' t' (-b) (-a) x where
  low p hp hy := by
    have hq := hP p hp
    by_cases he : p.1 = t'
    · have := h.low _ hq (by unfold revP; grind)
      unfold revP at this
      dsimp only at this
      have e0 : t - (200 - p.1) = 0 := by grind
      have e1 : t' - p.1 = 0 := by grind
      rw [e0, Rat.mul_zero] at this
      rw [e1, Rat.mul_zero]
      exact this
    · have := h.high _ hq (by unfold revP; grind)
      unfold revP at this
      dsimp only at this
      rw [ht]
      grind
  high p hp hy := by
    have := h.low _ (hP p hp) (by unfold revP; grind)
    unfold revP at this
    dsimp only at this
    rw [ht]
    grind
  two p hp q hq h1 h2 h3 := by
    have := h.two _ (hP q hq) _ (hP p hp) (by unfold revP; grind) (by unfold revP; grind) (by unfold revP; grind)
    unfold revP at this
    dsimp only at this
    rw [ht]
    grind

theorem revP_pt (e : E) : revP (ptE (revE e)) = ptE e := by
  unfold revP ptE revE
  dsimp only
  rw [Rat.intCast_sub]
  have : ((200 : Int) : Rat) = 200 := rfl
  rw [this]
  congr 1
  grind
theorem revP_pt2 (e : E) : revP (ptE e) = ptE (revE e) := by
  unfold revP ptE revE
  dsimp only
  rw [Rat.intCast_sub]
  rfl
theorem rev_mem {l : List E} {e : E} : e ∈ revL l ↔ ∃ f ∈ l, e = revE f := by
  unfold revL
  rw [List.mem_map]
  exact ⟨fun ⟨f, h1, h2⟩ => ⟨f, List.mem_reverse.1 h1, h2.symm⟩, fun ⟨f, h1, h2⟩ => ⟨f, List.mem_reverse.2 h1, h2.symm⟩⟩

theorem IsTop.rev {l : List E} {t : Int} {a b x : Rat} (h : IsTop (l.map ptE) (t : Rat) a b x) : IsTop ((revL l).map ptE) ((200 - t : Int) : Rat) (-b) (-a) x := by
  have ht : ((200 - t : Int) : Rat) = 200 - (t : Rat) := by rw [Rat.intCast_sub]; rfl
  have f1 : ∀ p, p ∈ (revL l).map ptE → revP p ∈ l.map ptE := by
    intro p hp
    obtain ⟨e, he, rfl⟩ := List.mem_map.1 hp
    obtain ⟨f, hf, rfl⟩ := rev_mem.1 he
    rw [revP_pt]
    exact List.mem_map.2 ⟨f, hf, rfl⟩
  have f2 : ∀ p, p ∈ l.map ptE → revP p ∈ (revL l).map ptE := by
    intro p hp
    obtain ⟨e, he, rfl⟩ := List.mem_map.1 hp
    rw [revP_pt2]
    exact List.mem_map.2 ⟨_, rev_mem.2 ⟨e, he, rfl⟩, rfl⟩
  refine ⟨h.le.rev f1 ht, fun z hz => h.top z ?_⟩
  have := hz.rev (P' := l.map ptE) (t' := (t : Rat)) f2 (by rw [ht]; grind)
  rwa [Rat.neg_neg, Rat.neg_neg] at this

theorem hiQt_rev {lo hi : Int} {l : List E} (hS : OkS lo hi l) (t : Int) : hiQt (200 - t) (loQ (-hi) (-lo) (revL l)) (hiQ (-hi) (-lo) (revL l)) (revL l) = hiQt t (loQ lo hi l) (hiQ lo hi l) l := by
  have hR := rev_OkS hS
  have o := opp_rev hS
  have h1 := (loQ_bd hS).2
  have h2 := (hiQ_bd hS).2
  have k1 := (loQ_bd hR).2
  have k2 := (hiQ_bd hR).2
  obtain ⟨g1, g2⟩ := hiQt_top (t := t) (by omega : 0 < (loQ lo hi l).2) (by omega : 0 < (hiQ lo hi l).2) hS.one hS.pw
  obtain ⟨g3, g4⟩ := hiQt_top (t := 200 - t) (by omega : 0 < (loQ (-hi) (-lo) (revL l)).2) (by omega : 0 < (hiQ (-hi) (-lo) (revL l)).2) hR.one hR.pw
  have g5 := g1.rev
  rw [← o.el, ← o.eh] at g5
  exact rq_inj g4 g2 (hiGo_red (by omega) (by omega) _ (0, 0) true (fun _ => hR.one) (fun h => by cases h) hR.pw) (hiGo_red (by omega) (by omega) _ (0, 0) true (fun _ => hS.one) (fun h => by cases h) hS.pw) (g3.eq g5)

theorem rev_turn (l : List E) : turnL (revL l) = revL (turnL l) := by
  unfold turnL revL
  rw [List.map_map, ← List.map_reverse, List.map_map]
  refine List.map_congr_left fun e _ => rfl

theorem rev_places {lo hi : Int} {l : List E} (hS : OkS lo hi l) (hm : hasM lo hi l = true) (t : Int) :
    plcQ (farA 0 (-hi) (-lo) (revL l) (200 - t)) (200 - t) = plcQ (farA 0 lo hi l t) t ∧ plcQ (farA 1 (-hi) (-lo) (revL l) (200 - t)) (200 - t) = plcQ (farA 1 lo hi l t) t := by
  have hR := rev_OkS hS
  have hm' : hasM (-hi) (-lo) (revL l) = true := by rw [(opp_rev hS).eqs.2.2]; exact hm
  refine ⟨?_, ?_⟩
  · rw [place0 hR hm' (200 - t), place0 hS hm t, rev_turn]
    have := hiQt_rev (turn_OkS hS) t
    rw [Int.neg_neg, Int.neg_neg] at this ⊢
    rw [this]
  · rw [place1 hR hm' (200 - t), place1 hS hm t, hiQt_rev hS t]
end Go.Proofs.D

namespace Go.Proofs.D
open Go.As
set_option maxRecDepth 20000
set_option linter.unusedVariables false
set_option linter.unusedSimpArgs false

theorem srt_of : ∀ {l : List E}, (∀ (i j : Nat) (e f : E), i < j → l[i]? = some e → l[j]? = some f → e.1 < f.1) → srt l = true
  | [], _ => rfl
  | [a], _ => rfl
  | a :: b :: l, h => by
    rw [srt_two, Bool.and_eq_true, decide_eq_true_eq]
    exact ⟨h 0 1 a b (by omega) rfl rfl, srt_of fun i j e f hij hi hj => h (i + 1) (j + 1) e f (by omega) (by simpa using hi) (by simpa using hj)⟩

theorem starErr_of {lo hi : Int} {l : List E} (h : OkS lo hi l) : starErr lo hi l = 0 := by
  have h1 := h.one
  have h2 := h.most
  have h3 := h.rate
  have e1 : vr lo hi 500 = true := decide_eq_true (by omega)
  have e2 : l.all okE = true := List.all_eq_true.2 fun e he => by
    obtain ⟨i, hi'⟩ := List.mem_iff_getElem?.1 he
    have := h.ent i e hi'
    unfold okE vr
    simp only [Bool.and_eq_true, decide_eq_true_eq]
    omega
  unfold starErr
  rw [if_neg (by omega), e1, e2, srt_of h.inc]
  rfl

/-- What ends says of a star turned round, and of one whose years are counted back. -/
theorem ends_turn {lo hi : Int} {l : List E} (hS : OkS lo hi l) (hm : hasM lo hi l = true) (y : Int) : endsA (-hi) (-lo) (turnL l) y = (((negQ (hiQ lo hi l), negQ (loQ lo hi l)), (negQ (plcQ (farA 1 lo hi l y) y), negQ (plcQ (farA 0 lo hi l y) y))), 0) := by
  obtain ⟨e1, e2, e3⟩ := (opp_turn hS).eqs
  obtain ⟨p1, p2⟩ := turn_places hS hm y
  unfold endsA
  rw [e3, hm, if_pos rfl, e1, e2, p1, p2]
theorem ends_rev {lo hi : Int} {l : List E} (hS : OkS lo hi l) (hm : hasM lo hi l = true) (y : Int) : endsA (-hi) (-lo) (revL l) (200 - y) = (((negQ (hiQ lo hi l), negQ (loQ lo hi l)), (plcQ (farA 0 lo hi l y) y, plcQ (farA 1 lo hi l y) y)), 0) := by
  obtain ⟨e1, e2, e3⟩ := (opp_rev hS).eqs
  obtain ⟨p1, p2⟩ := rev_places hS hm y
  unfold endsA
  rw [e3, hm, if_pos rfl, e1, e2, p1, p2]
theorem ends_no {lo hi lo' hi' : Int} {l l' : List E} (o : Opp lo hi lo' hi' l l') (hm : hasM lo hi l = false) (y : Int) : endsA lo' hi' l' y = ((((0, 0), (0, 0)), ((0, 0), (0, 0))), 17) := by
  unfold endsA
  rw [o.eqs.2.2, hm]
  rfl
end Go.Proofs.D

namespace Go.Proofs.D
open Go.As
set_option maxRecDepth 20000
set_option linter.unusedVariables false
set_option linter.unusedSimpArgs false

theorem entry_ok (h : H) (a b c : Int) : CallOk Try.prog 50 [.int .i64 a, .int .i64 b, .int .i64 c] h (.agg [.int .i64 a, .int .i64 b, .int .i64 c]) h := by
  refine CallOk.run0 Try.func50 rfl rfl rfl rfl rfl (WpR.of_vc ?_)
  (conv => whnf); (repeat' (first | ((with_reducible refine ifb_mk (fun hc => ?_) (fun hc => ?_)) <;> ((try simp only [decide_eq_true_eq, decide_eq_false_iff_not, Bool.not_eq_true', Bool.not_eq_false', Int.not_lt, Int.not_le, ne_eq, Decidable.not_not, beq_iff_eq, List.cons.injEq, and_true] at hc); (first | (exfalso; omega) | conv => whnf))) | ((with_reducible refine And.intro True.intro ?_); conv => whnf) | ((with_reducible refine And.intro ?hh ?_); (case hh => (unfold InR; (try dsimp only); omega)); conv => whnf) | ((with_reducible refine And.intro ?hh ?_); (case hh => ((try dsimp only); omega)); conv => whnf) | ((with_reducible refine And.intro ?hh ?_); (case hh => ((conv => whnf); (repeat' (first | exact True.intro | rfl | refine And.intro ?_ ?_)); done)); conv => whnf) | fail))
  all_goals (refine ⟨[], ?_, rfl, rfl, trivial, (by (repeat' (first | exact True.intro | rfl | refine And.intro ?_ ?_)))⟩; first | rfl | (simp only [renV, renL]; first | done | rfl | (congr 1; grind []) | grind []))

theorem minus_ok (h : H) (q : Int × Int) (hq : -4611686018427387904 ≤ q.1 ∧ q.1 ≤ 4611686018427387904) : CallOk Try.prog 51 [qV q] h (qV (negQ q)) h := by
  refine CallOk.run0 Try.func51 rfl rfl rfl rfl rfl (WpR.of_vc ?_)
  (conv => whnf); (repeat' (first | ((with_reducible refine ifb_mk (fun hc => ?_) (fun hc => ?_)) <;> ((try simp only [decide_eq_true_eq, decide_eq_false_iff_not, Bool.not_eq_true', Bool.not_eq_false', Int.not_lt, Int.not_le, ne_eq, Decidable.not_not, beq_iff_eq, List.cons.injEq, and_true] at hc); (first | (exfalso; omega) | conv => whnf))) | ((with_reducible refine And.intro True.intro ?_); conv => whnf) | ((with_reducible refine CallX.all (f := 61) ?_); refine CallW.inline Try.func61 rfl rfl (Nat.le_of_ble_eq_true rfl) (WpR.of_vc ?_); conv => whnf) | ((with_reducible refine And.intro ?hh ?_); (case hh => (unfold InR; (try dsimp only); omega)); conv => whnf) | ((with_reducible refine And.intro ?hh ?_); (case hh => ((try dsimp only); omega)); conv => whnf) | ((with_reducible refine And.intro ?hh ?_); (case hh => ((conv => whnf); (repeat' (first | exact True.intro | rfl | refine And.intro ?_ ?_)); done)); conv => whnf) | fail))
  all_goals (refine ⟨[], ?_, rfl, rfl, trivial, (by (repeat' (first | exact True.intro | rfl | refine And.intro ?_ ?_)))⟩; first | rfl | (simp only [renV, renL]; first | done | rfl | (congr 1; grind [negQ]) | grind [negQ]))

def dnI (n : Int) : Nat → Int
  | 0 => n - 1
  | i + 1 => dnI n i - 1
theorem dnI_eq (n : Int) : ∀ i : Nat, dnI n i = n - 1 - i
  | 0 => by show n - 1 = _; omega
  | i + 1 => by show dnI n i - 1 = _; rw [dnI_eq n i]; omega

set_option maxHeartbeats 1000000 in
theorem driftTurned_ok (hw : ∀ h, CallOk Try.prog 16 [] h (.bool true) h) (h : H) (lo hi : Int) (l : List E) (sv : V) (yr : Int) (hyr : 0 ≤ yr ∧ yr ≤ 255) (hl : l.length ≤ 9223372036854775807) (hs : SlC h (entVs l) l.length sv) :
    CallOk Try.prog 10 [starV lo hi sv, .int .u8 yr] h (.bool true) h := by
  obtain ⟨vo, svC, hsv, hca, hvw⟩ := hs.view 0
  have q8 : eqOk Try.prog 63 8 = true := by kernel_rfl
  refine CallOk.run Try.func10 rfl rfl (argsC := [starV lo hi svC, .int .u8 yr]) (Nat.le_of_ble_eq_true rfl) [vo] (.cons (CaL.agg (.cons (.bare rfl) (.cons (.bare rfl) (.cons (hca _ rfl) .nil)))) (CaL.lt0 rfl)) (viewMc1 entVs_bare hvw) rfl (WpR.of_vc ?_)
  have hBare := @entVs_bare l
  have hBare2 := @entVs_bare (turnL l)
  have k0 := fun h' sv' hs' => fine_ok h' lo hi l sv' hl hs'
  cases hsv with
  | nil h0 =>
    have e1 : starErr lo hi l = 6 := by unfold starErr; rw [if_pos (by omega)]
    rw [decide_eq_false (by omega)] at k0
    (conv => whnf); (repeat' (first | ((with_reducible refine ifb_mk (fun hc => ?_) (fun hc => ?_)) <;> ((try simp only [decide_eq_true_eq, decide_eq_false_iff_not, Bool.not_eq_true', Bool.not_eq_false', Int.not_lt, Int.not_le, ne_eq, Decidable.not_not, beq_iff_eq, List.cons.injEq, and_true] at hc); (first | (exfalso; omega) | conv => whnf))) | ((with_reducible refine And.intro True.intro ?_); conv => whnf) | ((with_reducible refine CallX.all ?_); refine CallW.of_ok (k0 _ _ (SlC.none h0)) ?_; conv => whnf) | ((with_reducible refine CallX.all ?_); refine CallW.of_ok (hw _) ?_; conv => whnf) | ((with_reducible refine And.intro ?hh ?_); (case hh => (unfold InR; (try dsimp only); omega)); conv => whnf) | ((with_reducible refine And.intro ?hh ?_); (case hh => ((try dsimp only); omega)); conv => whnf) | ((with_reducible refine And.intro ?hh ?_); (case hh => ((conv => whnf); (repeat' (first | exact True.intro | rfl | refine And.intro ?_ ?_)); done)); conv => whnf) | fail))
    all_goals (refine ⟨[], ?_, rfl, rfl, trivial, (by (repeat' (first | exact True.intro | rfl | refine And.intro ?_ ?_)))⟩; simp only [renV, renL]; (first | done | rfl | simp | grind))
  | @sl cap ex =>
    by_cases h0 : starErr lo hi l = 0
    · rw [decide_eq_true h0] at k0
      have hS := starErr_ok h0
      have hn := hS.most
      have hn0 := hS.one
      have hr := hS.rate
      have hY := year_bd hyr
      (conv => whnf); (repeat' (first | ((with_reducible refine ifb_mk (fun hc => ?_) (fun hc => ?_)) <;> ((try simp only [decide_eq_true_eq, decide_eq_false_iff_not, Bool.not_eq_true', Bool.not_eq_false', Int.not_lt, Int.not_le, ne_eq, Decidable.not_not, beq_iff_eq, List.cons.injEq, and_true] at hc); (first | (exfalso; omega) | conv => whnf))) | ((with_reducible refine And.intro True.intro ?_); conv => whnf) | ((with_reducible refine CallX.all ?_); refine CallW.of_ok (k0 _ _ (SlC.own rfl)) ?_; conv => whnf) | ((with_reducible refine CallX.all ?_); refine turned_W lo hi l hS _ (SlC.own rfl) ?_; conv => whnf) | ((with_reducible refine And.intro ?hh ?_); (case hh => (unfold InR; (try dsimp only); omega)); conv => whnf) | ((with_reducible refine And.intro ?hh ?_); (case hh => ((try dsimp only); omega)); conv => whnf) | ((with_reducible refine And.intro ?hh ?_); (case hh => ((conv => whnf); (repeat' (first | exact True.intro | rfl | refine And.intro ?_ ?_)); done)); conv => whnf) | fail))
      all_goals generalize (IntKind.i64.wrap yr).tmod 201 = Y at *
      have hT : ∀ i e, l[l.length - 1 - i]? = some e → i < l.length → entVs ((revL l).take (i + 1)) = entVs ((revL l).take i) ++ [.int .i64 (200 - e.1), .int .i64 e.2.1, .int .i64 e.2.2] := fun i e he hi => entVs_take (e := revE e) (by rw [rev_get hi, he]; rfl)
      have hB3 : ∀ i, ∀ v ∈ entVs ((revL l).take i), bare0 v = true := fun i => entVs_bare
      have hlen : ∀ i, i ≤ l.length → (entVs ((revL l).take i)).length = i * 3 := fun i hi => by rw [entVs_length, List.length_take, rev_len]; omega
      have hOne : ∀ i, (entVs ((revL l).take i)).all one = true := fun i => entVs_one _
      have hMap : ∀ i, ltB 6 (.cells (ofL [.int .i64 (-hi), .int .i64 (-lo), grV 5 i] 0) true none) := fun i => ltB_ofL (by intro v hv; (repeat (rcases List.mem_cons.1 hv with rfl | hv; (first | rfl | exact grV_lt rfl i))); cases hv)
      have hMap2 : ∀ i, ltB 6 (grB 3 (entVs ((revL l).take i)) i) := fun i => grB_lt (hB3 i) i
      refine WpR.loopD (ι := Nat) [5] [2, 5, 6, 7] [4, 5] [] 6 (fun i => [(8, .int .i64 (dnI l.length i))]) (fun i => [(4, .cells (ofL [.int .i64 (-hi), .int .i64 (-lo), grV 5 i] 0) true none), (5, grB 3 (entVs ((revL l).take i)) i)]) (fun i => l.length - i) (fun i => i ≤ l.length) ?_ (0) (Nat.zero_le _) [] ⟨rfl, rfl, (by (repeat' (first | exact True.intro | rfl | refine And.intro ?_ ?_))), (by (repeat' (first | exact True.intro | rfl | refine And.intro ?_ ?_))), (by (repeat' (first | exact True.intro | rfl | refine And.intro ?_ ?_))), (by (repeat' (first | exact True.intro | exact Or.inl rfl | refine And.intro ?_ ?_ | refine Or.inr ⟨_, rfl, ?_⟩ | exact SubQ.same (n := 1000) (Y := []) (fun _ _ _ => rfl) (by first | exact True.intro | exact ltB_all rfl | exact ltB_ofLb (by first | exact bare0_ints | assumption | (intro v hv; (repeat (rcases List.mem_cons.1 hv with rfl | hv; exact rfl)); cases hv)) | exact ltB_loop rfl rfl | exact hMap _ | exact hMap2 _ | exact grB_lt (by first | exact bare0_ints | assumption | (intro v hv; (repeat (rcases List.mem_cons.1 hv with rfl | hv; exact rfl)); cases hv)) _ | exact ltB_mapB | assumption) (avB_nil _) rfl | exact SubQ.ofL (by first | rfl | simp) (by first | exact bare0_ints | assumption | (intro v hv; (repeat (rcases List.mem_cons.1 hv with rfl | hv; exact rfl)); cases hv)) (by first | exact Or.inl rfl | exact Or.inr rfl) | exact SubQ.fin (by (conv => whnf); (repeat' (first | exact True.intro | rfl | refine And.intro ?_ ?_)); done) (fun h => h) (by first | exact Or.inl rfl | exact Or.inr rfl)))), rfl, rfl⟩ rfl rfl rfl (fun _ => rfl) (by (repeat' (first | exact True.intro | refine And.intro ?_ ?_ | exact avV_nil _ | rfl))) (by (repeat' (first | exact True.intro | (with_reducible exact avB_nil _) | ((with_reducible refine avB_all ?_); rfl) | ((with_reducible refine avB_ofLb ?_); exact (by first | exact bare0_ints | assumption | (intro v hv; (repeat (rcases List.mem_cons.1 hv with rfl | hv; exact rfl)); cases hv))) | ((with_reducible refine ltB_all ?_); rfl) | ((with_reducible refine ltB_ofLb ?_); exact (by first | exact bare0_ints | assumption | (intro v hv; (repeat (rcases List.mem_cons.1 hv with rfl | hv; exact rfl)); cases hv))) | ((with_reducible refine ltB_loop ?_ ?_) <;> rfl) | (with_reducible exact hMap _) | (with_reducible exact hMap2 _) | (with_reducible exact ltB_mapB) | ((with_reducible refine grB_lt ?_ _); exact (by first | exact bare0_ints | assumption | (intro v hv; (repeat (rcases List.mem_cons.1 hv with rfl | hv; exact rfl)); cases hv))) | (with_reducible assumption) | refine And.intro ?_ ?_ | exact (by first | exact True.intro | exact ltB_all rfl | exact ltB_ofLb (by first | exact bare0_ints | assumption | (intro v hv; (repeat (rcases List.mem_cons.1 hv with rfl | hv; exact rfl)); cases hv)) | exact ltB_loop rfl rfl | exact hMap _ | exact hMap2 _ | exact grB_lt (by first | exact bare0_ints | assumption | (intro v hv; (repeat (rcases List.mem_cons.1 hv with rfl | hv; exact rfl)); cases hv)) _ | exact ltB_mapB | assumption)))) (fun _ _ => (by (repeat' (first | exact True.intro | rfl | refine And.intro ?_ ?_ | exact (by decide) | exact (by first | exact True.intro | exact hMap _ | exact hMap2 _ | exact grB_lt (by first | exact bare0_ints | assumption | (intro v hv; (repeat (rcases List.mem_cons.1 hv with rfl | hv; exact rfl)); cases hv)) _ | exact ltB_all rfl | exact ltB_ofLb (by first | exact bare0_ints | assumption | (intro v hv; (repeat (rcases List.mem_cons.1 hv with rfl | hv; exact rfl)); cases hv)) | exact ltB_loop rfl rfl | exact ltB_mapB | assumption))))) (fun _ _ => (by (repeat' (first | exact True.intro | rfl | refine And.intro ?_ ?_ | exact (by decide) | exact (by first | exact True.intro | exact hMap _ | exact hMap2 _ | exact grB_lt (by first | exact bare0_ints | assumption | (intro v hv; (repeat (rcases List.mem_cons.1 hv with rfl | hv; exact rfl)); cases hv)) _ | exact ltB_all rfl | exact ltB_ofLb (by first | exact bare0_ints | assumption | (intro v hv; (repeat (rcases List.mem_cons.1 hv with rfl | hv; exact rfl)); cases hv)) | exact ltB_loop rfl rfl | exact ltB_mapB | assumption))))) (fun _ _ => (by (repeat' (first | exact True.intro | rfl | refine And.intro ?_ ?_)))) rfl
      intro i hi2
      refine WpR.of_vc ?_
      have hd := dnI_eq l.length i
      by_cases hlt : i < l.length
      · have hx : l[l.length - 1 - i]? = some (l[l.length - 1 - i]'(by omega)) := List.getElem?_eq_getElem _
        generalize l[l.length - 1 - i]'(by omega) = e at hx
        have he := hS.ent _ _ hx
        have hT1 := hT i e hx hlt
        have hn' : dnI l.length i = ((l.length - 1 - i : Nat) : Int) := by omega
        cases i with
        | zero =>
          have hd0 : (l.length : Int) - 1 = ((l.length - 1 - 0 : Nat) : Int) := hn'
          (conv => whnf); (repeat' (first | ((with_reducible refine ifb_mk (fun hc => ?_) (fun hc => ?_)) <;> ((try simp only [decide_eq_true_eq, decide_eq_false_iff_not, Bool.not_eq_true', Bool.not_eq_false', Int.not_lt, Int.not_le, ne_eq, Decidable.not_not, beq_iff_eq, List.cons.injEq, and_true] at hc); (first | (exfalso; omega) | conv => whnf))) | ((with_reducible refine And.intro True.intro ?_); conv => whnf) | ((with_reducible refine grd_getN ?_); refine som_mk (a := ?_) ?hh ?_; (case hh => exact entGetR' hx _ hn'); conv => whnf) | ((with_reducible refine WpR.drawTail (id := 10) mixed 15 [0, 1, 2, 3, 4, 5, 6, 7, 8, 9, 10, 11, 12, 13, 14] [0, 1, 0, 4, 0, 28, 60, 124, 252, 0, 512, 0, 2048, 8188, 16380] ?hh ?hk ?_); (case hh => kernel_rfl); (case hk => kernel_rfl); conv => whnf) | ((with_reducible refine grd_get ?_); refine som_mk (a := ?_) ?hh ?_; (case hh => exact entGet0' hx _ hn'); conv => whnf) | ((with_reducible refine grd_ex ?_); refine ex_ok (entry_ok _ _ _ _) ?_; conv => whnf) | (refine AppX.nil (n := 1) Nat.zero_lt_one (Nat.le_of_ble_eq_true rfl) ?_; conv => whnf) | ((with_reducible refine And.intro ?hh ?_); (case hh => (unfold InR; (try dsimp only); omega)); conv => whnf) | ((with_reducible refine And.intro ?hh ?_); (case hh => ((try dsimp only); omega)); conv => whnf) | ((with_reducible refine And.intro ?hh ?_); (case hh => ((conv => whnf); (repeat' (first | exact True.intro | rfl | refine And.intro ?_ ?_)); done)); conv => whnf) | fail))
          rw [show (0 : Nat) + 1 = 1 from rfl] at hT1
          refine ⟨1, [(5, 8)], by omega, by omega, ?_⟩
          have h1 : grB 3 (entVs ((revL l).take 1)) 1 = .cells (ofL [.int .i64 (200 - e.1), .int .i64 e.2.1, .int .i64 e.2.2] 0) true (some (3, 1 * 3)) := by unfold grB; rw [hT1]; rfl
          dsimp only
          rw [h1]
          exact ⟨rfl, rfl, (by (repeat' (first | exact True.intro | rfl | refine And.intro ?_ ?_))), (by (repeat' (first | exact True.intro | rfl | refine And.intro ?_ ?_))), (by (repeat' (first | exact True.intro | rfl | refine And.intro ?_ ?_))), (by (repeat' (first | exact True.intro | exact Or.inl rfl | refine And.intro ?_ ?_ | refine Or.inr ⟨_, rfl, ?_⟩ | exact SubQ.same (n := 1000) (Y := []) (fun _ _ _ => rfl) (by first | exact True.intro | exact ltB_all rfl | exact ltB_ofLb (by first | exact bare0_ints | assumption | (intro v hv; (repeat (rcases List.mem_cons.1 hv with rfl | hv; exact rfl)); cases hv)) | exact ltB_loop rfl rfl | exact hMap _ | exact hMap2 _ | exact grB_lt (by first | exact bare0_ints | assumption | (intro v hv; (repeat (rcases List.mem_cons.1 hv with rfl | hv; exact rfl)); cases hv)) _ | exact ltB_mapB | assumption) (avB_nil _) rfl | exact SubQ.ofL (by first | rfl | simp) (by first | exact bare0_ints | assumption | (intro v hv; (repeat (rcases List.mem_cons.1 hv with rfl | hv; exact rfl)); cases hv)) (by first | exact Or.inl rfl | exact Or.inr rfl) | exact SubQ.fin (by (conv => whnf); (repeat' (first | exact True.intro | rfl | refine And.intro ?_ ?_)); done) (fun h => h) (by first | exact Or.inl rfl | exact Or.inr rfl)))), rfl, rfl⟩
        | succ i =>
          have hd0 := dnI_eq l.length i
          (conv => whnf); (repeat' (first | ((with_reducible refine ifb_mk (fun hc => ?_) (fun hc => ?_)) <;> ((try simp only [decide_eq_true_eq, decide_eq_false_iff_not, Bool.not_eq_true', Bool.not_eq_false', Int.not_lt, Int.not_le, ne_eq, Decidable.not_not, beq_iff_eq, List.cons.injEq, and_true] at hc); (first | (exfalso; omega) | conv => whnf))) | ((with_reducible refine And.intro True.intro ?_); conv => whnf) | ((with_reducible refine grd_getN ?_); refine som_mk (a := ?_) ?hh ?_; (case hh => exact entGetR' hx _ hn'); conv => whnf) | ((with_reducible refine WpR.drawTail (id := 10) mixed 15 [0, 1, 2, 3, 4, 5, 6, 7, 8, 9, 10, 11, 12, 13, 14] [0, 1, 0, 4, 0, 28, 60, 124, 252, 0, 512, 0, 2048, 8188, 16380] ?hh ?hk ?_); (case hh => kernel_rfl); (case hk => kernel_rfl); conv => whnf) | ((with_reducible refine grd_get ?_); refine som_mk (a := ?_) ?hh ?_; (case hh => exact entGet0' hx _ hn'); conv => whnf) | ((with_reducible refine grd_ex ?_); refine ex_ok (entry_ok _ _ _ _) ?_; conv => whnf) | (refine AppX.own (n := 1) (L := entVs ((revL l).take (i + 1))) (len := i + 1) rfl (hlen _ hi2) (hOne _) Nat.zero_lt_one (by omega) ?_; conv => whnf) | ((with_reducible refine And.intro ?hh ?_); (case hh => (unfold InR; (try dsimp only); omega)); conv => whnf) | ((with_reducible refine And.intro ?hh ?_); (case hh => ((try dsimp only); omega)); conv => whnf) | ((with_reducible refine And.intro ?hh ?_); (case hh => ((conv => whnf); (repeat' (first | exact True.intro | rfl | refine And.intro ?_ ?_)); done)); conv => whnf) | fail))
          refine ⟨i + 1 + 1, [(5, 8)], by omega, by omega, ?_⟩
          have h1 : grB 3 (entVs ((revL l).take (i + 1 + 1))) (i + 1 + 1) = .cells (ofL (entVs ((revL l).take (i + 1)) ++ [.int .i64 (200 - e.1), .int .i64 e.2.1, .int .i64 e.2.2]) 0) true (some (3, (i + 1 + 1) * 3)) := by unfold grB; rw [hT1]
          have hB4 : ∀ v ∈ entVs ((revL l).take (i + 1)) ++ [.int .i64 (200 - e.1), .int .i64 e.2.1, .int .i64 e.2.2], bare0 v = true := by rw [← hT1]; exact entVs_bare
          dsimp only
          rw [h1]
          exact ⟨rfl, rfl, (by (repeat' (first | exact True.intro | rfl | refine And.intro ?_ ?_))), (by (repeat' (first | exact True.intro | rfl | refine And.intro ?_ ?_))), (by (repeat' (first | exact True.intro | rfl | refine And.intro ?_ ?_))), (by (repeat' (first | exact True.intro | exact Or.inl rfl | refine And.intro ?_ ?_ | refine Or.inr ⟨_, rfl, ?_⟩ | exact SubQ.same (n := 1000) (Y := []) (fun _ _ _ => rfl) (by first | exact True.intro | exact ltB_all rfl | exact ltB_ofLb (by first | exact bare0_ints | assumption | (intro v hv; (repeat (rcases List.mem_cons.1 hv with rfl | hv; exact rfl)); cases hv)) | exact ltB_loop rfl rfl | exact hMap _ | exact hMap2 _ | exact grB_lt (by first | exact bare0_ints | assumption | (intro v hv; (repeat (rcases List.mem_cons.1 hv with rfl | hv; exact rfl)); cases hv)) _ | exact ltB_mapB | assumption) (avB_nil _) rfl | exact SubQ.ofL (by first | rfl | simp) (by first | exact bare0_ints | assumption | (intro v hv; (repeat (rcases List.mem_cons.1 hv with rfl | hv; exact rfl)); cases hv)) (by first | exact Or.inl rfl | exact Or.inr rfl) | exact SubQ.fin (by (conv => whnf); (repeat' (first | exact True.intro | rfl | refine And.intro ?_ ?_)); done) (fun h => h) (by first | exact Or.inl rfl | exact Or.inr rfl)))), rfl, rfl⟩
      · cases i with
        | zero => omega
        | succ i =>
          have hd0 := dnI_eq l.length i
          have hil : i + 1 = l.length := by omega
          have hE : entVs (revL l) = entVs ((revL l).take (i + 1)) := by rw [List.take_of_length_le (by rw [rev_len]; omega)]
          have k1 := fun h' sv' hs' => ends_ok h' lo hi l h0 sv' Y hY hl hs'
          have k2 : ∀ h' sv', SlC h' (entVs (turnL l)) l.length sv' → _ := fun h' sv' hs' => ends_ok h' (-hi) (-lo) (turnL l) (starErr_of (turn_OkS hS)) sv' Y hY (by rw [turn_len]; exact hl) (by rw [turn_len]; exact hs')
          have k3 : ∀ h' sv', SlC h' (entVs ((revL l).take (i + 1))) (i + 1) sv' → _ := fun h' sv' hs' => ends_ok h' (-hi) (-lo) (revL l) (starErr_of (rev_OkS hS)) sv' (200 - Y) (by omega) (by rw [rev_len]; exact hl) (by rw [rev_len, ← hil, hE]; exact hs')
          have hB5 := hB3 (i + 1)
          cases hm : hasM lo hi l with
          | true =>
            have e6 : endsA lo hi l Y = (((loQ lo hi l, hiQ lo hi l), (plcQ (farA 0 lo hi l Y) Y, plcQ (farA 1 lo hi l Y) Y)), 0) := by unfold endsA; rw [hm]; rfl
            rw [e6] at k1
            rw [ends_turn hS hm] at k2
            rw [ends_rev hS hm] at k3
            have la := loQ_bd hS
            have lb := hiQ_bd hS
            obtain ⟨oa, ob, _⟩ := ends_small h0 hm hY
            have na := oa.n
            have nb := ob.n
            have m1 := fun h' => minus_ok h' (loQ lo hi l) (by omega)
            have m2 := fun h' => minus_ok h' (hiQ lo hi l) (by omega)
            have m3 := fun h' => minus_ok h' (plcQ (farA 0 lo hi l Y) Y) (by omega)
            have m4 := fun h' => minus_ok h' (plcQ (farA 1 lo hi l Y) Y) (by omega)
            clear e6 la lb oa ob na nb
            generalize plcQ (farA 0 lo hi l Y) Y = A at *
            generalize plcQ (farA 1 lo hi l Y) Y = B at *
            generalize loQ lo hi l = P at *
            generalize hiQ lo hi l = Q at *
            (conv => whnf); (repeat' (first | ((with_reducible refine ifb_mk (fun hc => ?_) (fun hc => ?_)) <;> ((try simp only [decide_eq_true_eq, decide_eq_false_iff_not, Bool.not_eq_true', Bool.not_eq_false', Int.not_lt, Int.not_le, ne_eq, Decidable.not_not, beq_iff_eq, List.cons.injEq, and_true] at hc); (first | (exfalso; omega) | conv => whnf))) | ((with_reducible refine And.intro True.intro ?_); conv => whnf) | ((with_reducible refine CallX.all ?_); refine CallW.of_ok (k1 _ _ (SlC.own rfl)) ?_; conv => whnf) | ((with_reducible refine CallX.all ?_); refine CallW.of_ok (k2 _ _ (SlC.own rfl)) ?_; conv => whnf) | ((with_reducible refine CallX.all ?_); refine CallW.of_ok (k3 _ _ (SlC.own rfl)) ?_; conv => whnf) | ((with_reducible refine WpR.draw (id := 18) mixed [0, 1, 2, 4, 5, 7, 8, 10, 11, 3, 6, 9, 12, 13, 14, 15, 16, 17, 18, 20, 21, 23, 24, 25, 26, 19, 22, 27, 28, 29, 30, 31, 32, 33] [0, 0, 2, 6, 0, 16, 62, 0, 128, 510, 0, 1024, 4094, 8190, 16383, 32767, 65535, 65535, 196607, 458751, 65535, 1114111, 4128767, 65535, 8454143, 65535, 33619967, 134152191, 268435455, 536870911, 1073741823, 2147483647, 4294967295, 8589934591] ?hh ?_); (case hh => kernel_rfl); conv => whnf) | ((with_reducible refine grd_ex ?_); refine ex_ok (m1 _) ?_; conv => whnf) | ((with_reducible refine grd_ex ?_); refine ex_ok (m2 _) ?_; conv => whnf) | ((with_reducible refine grd_ex ?_); refine ex_ok (m3 _) ?_; conv => whnf) | ((with_reducible refine grd_ex ?_); refine ex_ok (m4 _) ?_; conv => whnf) | ((with_reducible refine grd_slow ?_); refine som_mk (a := ?_) ?hh ?_; (case hh => exact slow_eql_self q8 [_, _, _, _, _, _, _, _]); conv => whnf) | ((with_reducible refine grd_ex ?_); refine ex_ok (hw _) ?_; conv => whnf) | ((with_reducible refine And.intro ?hh ?_); (case hh => (unfold InR; (try dsimp only); omega)); conv => whnf) | ((with_reducible refine And.intro ?hh ?_); (case hh => ((try dsimp only); omega)); conv => whnf) | ((with_reducible refine And.intro ?hh ?_); (case hh => ((conv => whnf); (repeat' (first | exact True.intro | rfl | refine And.intro ?_ ?_)); done)); conv => whnf) | fail))
            all_goals (first | (exfalso; omega) | (refine ⟨[], ?_, rfl, rfl, trivial, (by (repeat' (first | exact True.intro | rfl | refine And.intro ?_ ?_)))⟩; simp only [renV, renL]; (first | done | rfl | simp | grind)))
          | false =>
            have e6 : endsA lo hi l Y = ((((0, 0), (0, 0)), ((0, 0), (0, 0))), 17) := by unfold endsA; rw [hm]; rfl
            rw [e6] at k1
            rw [ends_no (opp_turn hS) hm] at k2
            rw [ends_no (opp_rev hS) hm] at k3
            (conv => whnf); (repeat' (first | ((with_reducible refine ifb_mk (fun hc => ?_) (fun hc => ?_)) <;> ((try simp only [decide_eq_true_eq, decide_eq_false_iff_not, Bool.not_eq_true', Bool.not_eq_false', Int.not_lt, Int.not_le, ne_eq, Decidable.not_not, beq_iff_eq, List.cons.injEq, and_true] at hc); (first | (exfalso; omega) | conv => whnf))) | ((with_reducible refine And.intro True.intro ?_); conv => whnf) | ((with_reducible refine CallX.all ?_); refine CallW.of_ok (k1 _ _ (SlC.own rfl)) ?_; conv => whnf) | ((with_reducible refine CallX.all ?_); refine CallW.of_ok (k2 _ _ (SlC.own rfl)) ?_; conv => whnf) | ((with_reducible refine CallX.all ?_); refine CallW.of_ok (k3 _ _ (SlC.own rfl)) ?_; conv => whnf) | ((with_reducible refine CallX.all ?_); refine CallW.of_ok (hw _) ?_; conv => whnf) | ((with_reducible refine And.intro ?hh ?_); (case hh => (unfold InR; (try dsimp only); omega)); conv => whnf) | ((with_reducible refine And.intro ?hh ?_); (case hh => ((try dsimp only); omega)); conv => whnf) | ((with_reducible refine And.intro ?hh ?_); (case hh => ((conv => whnf); (repeat' (first | exact True.intro | rfl | refine And.intro ?_ ?_)); done)); conv => whnf) | fail))
            all_goals (first | (exfalso; omega) | (refine ⟨[], ?_, rfl, rfl, trivial, (by (repeat' (first | exact True.intro | rfl | refine And.intro ?_ ?_)))⟩; simp only [renV, renL]; (first | done | rfl | simp | grind)))
    · rw [decide_eq_false h0] at k0
      (conv => whnf); (repeat' (first | ((with_reducible refine ifb_mk (fun hc => ?_) (fun hc => ?_)) <;> ((try simp only [decide_eq_true_eq, decide_eq_false_iff_not, Bool.not_eq_true', Bool.not_eq_false', Int.not_lt, Int.not_le, ne_eq, Decidable.not_not, beq_iff_eq, List.cons.injEq, and_true] at hc); (first | (exfalso; omega) | conv => whnf))) | ((with_reducible refine And.intro True.intro ?_); conv => whnf) | ((with_reducible refine CallX.all ?_); refine CallW.of_ok (k0 _ _ (SlC.own rfl)) ?_; conv => whnf) | ((with_reducible refine CallX.all ?_); refine CallW.of_ok (hw _) ?_; conv => whnf) | ((with_reducible refine And.intro ?hh ?_); (case hh => (unfold InR; (try dsimp only); omega)); conv => whnf) | ((with_reducible refine And.intro ?hh ?_); (case hh => ((try dsimp only); omega)); conv => whnf) | ((with_reducible refine And.intro ?hh ?_); (case hh => ((conv => whnf); (repeat' (first | exact True.intro | rfl | refine And.intro ?_ ?_)); done)); conv => whnf) | fail))
      all_goals (refine ⟨[], ?_, rfl, rfl, trivial, (by (repeat' (first | exact True.intro | rfl | refine And.intro ?_ ?_)))⟩; simp only [renV, renL]; (first | done | rfl | simp | grind))
end Go.Proofs.D

