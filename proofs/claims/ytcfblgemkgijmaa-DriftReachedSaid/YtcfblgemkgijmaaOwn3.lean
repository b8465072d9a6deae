/- What the functions answer that the laws call, one after another, part 3. -/
import Derived.Test.YtcfblgemkgijmaaOwn2

set_option linter.unusedVariables false
namespace Go.Proofs.D
open Go.As
set_option maxRecDepth 20000
set_option linter.unusedVariables false
set_option linter.unusedSimpArgs false

/-! ### Motions that reach an end -/

def sideE (s : Int) (e : E) : Int := if s = 1 then e.2.2 else e.2.1
def cardV (lo hi : Int) (sv : V) (m : Nat) : V := .agg [.int .i64 lo, .int .i64 hi, sv, .map m]
def crossQ (s : Int) (e f : E) : Int × Int := fr (sideE s f - sideE s e) (f.1 - e.1)

theorem crossing_ok (h : H) (lo hi : Int) (l : List E) (hS : OkS lo hi l) (sv : V) (hsv : SlC h (entVs l) l.length sv) (B : List ((Int × Int) × Bd × Nat)) (clock : Nat) (m : Nat) (hm : h.get m = some (.map (mapB B) clock)) (s : Int) (hs : s = 0 ∨ s = 1)
    (i j : Nat) (e f : E) (hij : i < j) (he : l[i]? = some e) (hf : l[j]? = some f) :
    CallOk Try.prog 117 [cardV lo hi sv m, pV ((i : Int), (j : Int)), .int .i64 s] h (qV (crossQ s e f)) h := by
  obtain ⟨vo, svC, hsv', hca, hvw⟩ := hsv.view 0
  obtain ⟨cap, ex, rfl⟩ := Sv.pos hsv' hS.one
  have hn := hS.most
  have hBare := @entVs_bare l
  have h1 := hS.ent _ _ he
  have h2 := hS.ent _ _ hf
  have h3 := hS.inc _ _ _ _ hij he hf
  have hil := (List.getElem?_eq_some_iff.1 he).1
  have hjl := (List.getElem?_eq_some_iff.1 hf).1
  refine CallOk.run Try.func117 rfl rfl (argsC := [cardV lo hi (.sl 0 0 l.length cap ex) 1, pV ((i : Int), (j : Int)), .int .i64 s]) (bs := [.cells (ofL (entVs l) 0) false none, .map (mapB B) clock]) (Nat.le_of_ble_eq_true rfl) [vo, some (m, 0)] (.cons (CaL.agg (.cons (.bare rfl) (.cons (.bare rfl) (.cons (hca _ rfl) (.cons (.map rfl) .nil))))) (CaL.lt0 rfl)) (viewMcm hBare hvw hm (fun e he => by obtain ⟨x, _, rfl⟩ := List.mem_map.1 he; rfl)) rfl (WpR.of_vc ?_)
  rcases hs with rfl | rfl
  · (conv => whnf); (repeat' (first | ((with_reducible refine ifb_mk (fun hc => ?_) (fun hc => ?_)) <;> ((try simp only [decide_eq_true_eq, decide_eq_false_iff_not, Bool.not_eq_true', Bool.not_eq_false', Int.not_lt, Int.not_le, ne_eq, Decidable.not_not, beq_iff_eq, List.cons.injEq, and_true] at hc); (first | (exfalso; omega) | conv => whnf))) | ((with_reducible refine And.intro True.intro ?_); conv => whnf) | ((with_reducible refine WpR.draw (id := 1) mixed [0, 1, 2, 3, 5, 7, 8, 9, 10, 12, 4, 6, 11, 13, 14, 15] [0, 1, 0, 4, 15, 0, 63, 0, 128, 0, 512, 1951, 0, 8095, 16383, 32767] ?hh ?_); (case hh => kernel_rfl); conv => whnf) | ((with_reducible refine WpR.draw (id := 2) mixed [0, 1, 2, 3, 4, 5, 6, 7, 8, 9, 10, 11, 12, 13, 14, 15, 16, 17, 18, 19] [0, 0, 2, 6, 0, 16, 62, 126, 254, 0, 512, 1536, 0, 4096, 15872, 32256, 65024, 131070, 262143, 524287] ?hh ?_); (case hh => kernel_rfl); conv => whnf) | ((with_reducible refine grd_ex ?_); refine ex_ok (endsOf_ok _ lo hi l _ j f hf (SlC.own rfl)) ?_; conv => whnf) | ((with_reducible refine grd_ex ?_); refine ex_ok (endsOf_ok _ lo hi l _ i e he (SlC.own rfl)) ?_; conv => whnf) | ((with_reducible refine grd_get ?_); refine som_mk (a := ?_) ?hh ?_; (case hh => exact entGet0 he); conv => whnf) | ((with_reducible refine grd_get ?_); refine som_mk (a := ?_) ?hh ?_; (case hh => exact entGet0 hf); conv => whnf) | ((with_reducible refine grd_ex ?_); refine ex_ok (fraction_ok _ _ _ (by unfold InQ; omega) (by omega)) ?_; conv => whnf) | ((with_reducible refine And.intro ?hh ?_); (case hh => (unfold InR; (try dsimp only); omega)); conv => whnf) | ((with_reducible refine And.intro ?hh ?_); (case hh => ((try dsimp only); omega)); conv => whnf) | ((with_reducible refine And.intro ?hh ?_); (case hh => ((conv => whnf); (repeat' (first | exact True.intro | rfl | refine And.intro ?_ ?_)); done)); conv => whnf) | fail))
    all_goals (refine ⟨[], ?_, rfl, rfl, trivial, (by (repeat' (first | exact True.intro | rfl | refine And.intro ?_ ?_)))⟩; first | rfl | (simp only [renV, renL]; first | done | rfl | (congr 1; grind [crossQ, sideE]) | grind [crossQ, sideE]))
  · (conv => whnf); (repeat' (first | ((with_reducible refine ifb_mk (fun hc => ?_) (fun hc => ?_)) <;> ((try simp only [decide_eq_true_eq, decide_eq_false_iff_not, Bool.not_eq_true', Bool.not_eq_false', Int.not_lt, Int.not_le, ne_eq, Decidable.not_not, beq_iff_eq, List.cons.injEq, and_true] at hc); (first | (exfalso; omega) | conv => whnf))) | ((with_reducible refine And.intro True.intro ?_); conv => whnf) | ((with_reducible refine WpR.draw (id := 1) mixed [0, 1, 2, 3, 5, 7, 8, 9, 10, 12, 4, 6, 11, 13, 14, 15] [0, 1, 0, 4, 15, 0, 63, 0, 128, 0, 512, 1951, 0, 8095, 16383, 32767] ?hh ?_); (case hh => kernel_rfl); conv => whnf) | ((with_reducible refine WpR.draw (id := 2) mixed [0, 1, 2, 3, 4, 5, 6, 7, 8, 9, 10, 11, 12, 13, 14, 15, 16, 17, 18, 19] [0, 0, 2, 6, 0, 16, 62, 126, 254, 0, 512, 1536, 0, 4096, 15872, 32256, 65024, 131070, 262143, 524287] ?hh ?_); (case hh => kernel_rfl); conv => whnf) | ((with_reducible refine grd_ex ?_); refine ex_ok (endsOf_ok _ lo hi l _ j f hf (SlC.own rfl)) ?_; conv => whnf) | ((with_reducible refine grd_ex ?_); refine ex_ok (endsOf_ok _ lo hi l _ i e he (SlC.own rfl)) ?_; conv => whnf) | ((with_reducible refine grd_get ?_); refine som_mk (a := ?_) ?hh ?_; (case hh => exact entGet0 he); conv => whnf) | ((with_reducible refine grd_get ?_); refine som_mk (a := ?_) ?hh ?_; (case hh => exact entGet0 hf); conv => whnf) | ((with_reducible refine grd_ex ?_); refine ex_ok (fraction_ok _ _ _ (by unfold InQ; omega) (by omega)) ?_; conv => whnf) | ((with_reducible refine And.intro ?hh ?_); (case hh => (unfold InR; (try dsimp only); omega)); conv => whnf) | ((with_reducible refine And.intro ?hh ?_); (case hh => ((try dsimp only); omega)); conv => whnf) | ((with_reducible refine And.intro ?hh ?_); (case hh => ((conv => whnf); (repeat' (first | exact True.intro | rfl | refine And.intro ?_ ?_)); done)); conv => whnf) | fail))
    all_goals (refine ⟨[], ?_, rfl, rfl, trivial, (by (repeat' (first | exact True.intro | rfl | refine And.intro ?_ ?_)))⟩; first | rfl | (simp only [renV, renL]; first | done | rfl | (congr 1; grind [crossQ, sideE]) | grind [crossQ, sideE]))
end Go.Proofs.D

namespace Go.Proofs.D
open Go.As
set_option maxRecDepth 20000
set_option linter.unusedVariables false
set_option linter.unusedSimpArgs false

def startQ (s : Int) (r : Int × Int) (e : E) : Int × Int := fr (sideE s e * r.2 + r.1 * (-e.1) * 1) (1 * r.2)
def bestQ (s : Int) (l : List (Int × Int)) : Option (Int × Int) := l.foldl (stepB (tighterF s)) none
def outQ (s : Int) (r : Int × Int) (l : List E) : Int × Int := (bestQ s (l.map (startQ s r))).getD (0, 0)

/-- A rate between the ends. -/
def OkR (r : Int × Int) : Prop := (-20000 ≤ r.1 ∧ r.1 ≤ 20000) ∧ 1 ≤ r.2 ∧ r.2 ≤ 200

theorem mul_bd {a b m n : Int} (hm : 0 ≤ m) (ha : -m ≤ a ∧ a ≤ m) (hb : 0 ≤ b ∧ b ≤ n) : -(m * n) ≤ a * b ∧ a * b ≤ m * n := by
  have h1 := Int.mul_le_mul_of_nonneg_right ha.2 hb.1
  have h2 := Int.mul_le_mul_of_nonneg_left hb.2 hm
  have h3 := Int.mul_le_mul_of_nonneg_right ha.1 hb.1
  have h4 : -m * b = -(m * b) := Int.neg_mul ..
  omega

structure StartOk (s : Int) (r : Int × Int) (e : E) : Prop where
  a : -2000000 ≤ sideE s e * r.2 ∧ sideE s e * r.2 ≤ 2000000
  b : -4000000 ≤ r.1 * (-e.1) ∧ r.1 * (-e.1) ≤ 4000000
  num : -6000000 ≤ (startQ s r e).1 ∧ (startQ s r e).1 ≤ 6000000
  den : 1 ≤ (startQ s r e).2 ∧ (startQ s r e).2 ≤ 200

theorem start_ok {s : Int} {r : Int × Int} (hr : OkR r) {e : E} (he : 0 ≤ e.1 ∧ e.1 ≤ 200 ∧ -10000 ≤ e.2.1 ∧ e.2.1 ≤ e.2.2 ∧ e.2.2 ≤ 10000) : StartOk s r e := by
  obtain ⟨h1, h2, h3⟩ := hr
  have hs : -10000 ≤ sideE s e ∧ sideE s e ≤ 10000 := by unfold sideE; split <;> omega
  have ha := mul_bd (by decide : (0 : Int) ≤ 10000) hs (⟨by omega, h3⟩ : 0 ≤ r.2 ∧ r.2 ≤ 200)
  have hb := mul_bd (by decide : (0 : Int) ≤ 20000) h1 (⟨he.1, he.2.1⟩ : 0 ≤ e.1 ∧ e.1 ≤ 200)
  have hb' : r.1 * (-e.1) = -(r.1 * e.1) := Int.mul_neg ..
  have hn : 0 < 1 * r.2 := by omega
  exact ⟨by omega, by omega, fr_bd hn (by omega), fr_den hn (by omega)⟩

theorem InR_mul6 {a d : Int} (h1 : -6000000 ≤ a ∧ a ≤ 6000000) (h2 : 1 ≤ d ∧ d ≤ 200) : InR (a * d) := by
  have := mul_bd (by decide : (0 : Int) ≤ 6000000) h1 (⟨by omega, h2.2⟩ : 0 ≤ d ∧ d ≤ 200)
  unfold InR; omega

theorem tight6_ok (h : H) (s : Int) (a b : Int × Int) (h1 : -6000000 ≤ a.1 ∧ a.1 ≤ 6000000) (h2 : 1 ≤ a.2 ∧ a.2 ≤ 200) (h3 : -6000000 ≤ b.1 ∧ b.1 ≤ 6000000) (h4 : 1 ≤ b.2 ∧ b.2 ≤ 200) : CallOk Try.prog 98 [.int .i64 s, .agg [.int .i64 a.1, .int .i64 a.2], .agg [.int .i64 b.1, .int .i64 b.2]] h (.bool (tighterF s a b)) h :=
  tighter_ok h s a.1 a.2 b.1 b.2 (InR_mul6 h1 h4) (InR_mul6 h3 h2)

theorem whole_ok' (h : H) (n : Int) : CallOk Try.prog 92 [.int .i64 n] h (.agg [.int .i64 n, .int .i64 1]) h := by
  refine CallOk.run0 Try.func92 rfl rfl rfl rfl rfl (WpR.of_vc ?_)
  (conv => whnf); (repeat' (first | ((with_reducible refine ifb_mk (fun hc => ?_) (fun hc => ?_)) <;> ((try simp only [decide_eq_true_eq, decide_eq_false_iff_not, Bool.not_eq_true', Bool.not_eq_false', Int.not_lt, Int.not_le, ne_eq, Decidable.not_not, beq_iff_eq, List.cons.injEq, and_true] at hc); (first | (exfalso; omega) | conv => whnf))) | ((with_reducible refine And.intro True.intro ?_); conv => whnf) | ((with_reducible refine And.intro ?hh ?_); (case hh => (unfold InR; (try dsimp only); omega)); conv => whnf) | ((with_reducible refine And.intro ?hh ?_); (case hh => ((try dsimp only); omega)); conv => whnf) | ((with_reducible refine And.intro ?hh ?_); (case hh => ((conv => whnf); (repeat' (first | exact True.intro | rfl | refine And.intro ?_ ?_)); done)); conv => whnf) | fail))
  all_goals (refine ⟨[], ?_, rfl, rfl, trivial, (by (repeat' (first | exact True.intro | rfl | refine And.intro ?_ ?_)))⟩; first | rfl | (simp only [renV, renL]; first | done | rfl | (congr 1; grind []) | grind []))

theorem bestQ_in {s : Int} {L : List (Int × Int)} : ∀ {f : Int × Int}, bestQ s L = some f → f ∈ L := by
  have : ∀ (l : List (Int × Int)) (a : Option (Int × Int)), ∀ f, l.foldl (stepB (tighterF s)) a = some f → f ∈ l ∨ a = some f := by
    intro l
    induction l with
    | nil => intro a f hf; exact .inr hf
    | cons x l ih =>
      intro a f hf
      rcases ih _ f hf with h1 | h1
      · exact .inl (List.mem_cons_of_mem _ h1)
      · cases a with
        | none => cases h1; exact .inl (List.mem_cons_self ..)
        | some g =>
          simp only [stepB, Option.some.injEq] at h1
          split at h1
          · subst h1; exact .inl (List.mem_cons_self ..)
          · subst h1; exact .inr rfl
  intro f hf
  rcases this L none f hf with h1 | h1
  · exact h1
  · cases h1

theorem bestQ_take {s : Int} {L : List (Int × Int)} {k : Nat} {x : Int × Int} (h : L[k]? = some x) : bestQ s (L.take (k + 1)) = stepB (tighterF s) (bestQ s (L.take k)) x := foldl_take _ _ h

theorem startV_ok (h : H) (s : Int) (r : Int × Int) (hr : OkR r) (e : E) (he : 0 ≤ e.1 ∧ e.1 ≤ 200 ∧ -10000 ≤ e.2.1 ∧ e.2.1 ≤ e.2.2 ∧ e.2.2 ≤ 10000) (u : Int) (hu : u = sideE s e) : CallOk Try.prog 102 [.agg [.int .i64 u, .int .i64 1], .agg [.int .i64 r.1, .int .i64 r.2], .int .i64 (-e.1)] h (.agg [.int .i64 (startQ s r e).1, .int .i64 (startQ s r e).2]) h := by
  subst hu
  have hS := start_ok (s := s) hr he
  have h1 := hS.a
  have h2 := hS.b
  have h3 := hr.2
  exact plus_ok h (sideE s e) 1 r.1 r.2 (-e.1) (by unfold InR; omega) (by unfold InR; omega) (by unfold InR; omega) (by unfold InQ; omega) (by omega)

set_option maxHeartbeats 2000000 in
theorem outermost_ok (h : H) (lo hi : Int) (l : List E) (hS : OkS lo hi l) (sv : V) (hsv : SlC h (entVs l) l.length sv) (B : List ((Int × Int) × Bd × Nat)) (clock : Nat) (m : Nat) (hm : h.get m = some (.map (mapB B) clock)) (s : Int) (hs : s = 0 ∨ s = 1)
    (r : Int × Int) (hr : OkR r) :
    CallOk Try.prog 116 [cardV lo hi sv m, qV r, .int .i64 s] h (.agg [.int .i64 (outQ s r l).1, .int .i64 (outQ s r l).2, .int .i64 r.1, .int .i64 r.2]) h := by
  obtain ⟨vo, svC, hsv', hca, hvw⟩ := hsv.view 0
  obtain ⟨cap, ex, rfl⟩ := Sv.pos hsv' hS.one
  have hn := hS.most
  have hBare := @entVs_bare l
  have hMap : ∀ n, ltB n (.map (mapB B) clock) := fun _ => ltB_mapB
  refine CallOk.run Try.func116 rfl rfl (argsC := [cardV lo hi (.sl 0 0 l.length cap ex) 1, qV r, .int .i64 s]) (bs := [.cells (ofL (entVs l) 0) false none, .map (mapB B) clock]) (Nat.le_of_ble_eq_true rfl) [vo, some (m, 0)] (.cons (CaL.agg (.cons (.bare rfl) (.cons (.bare rfl) (.cons (hca _ rfl) (.cons (.map rfl) .nil))))) (CaL.lt0 rfl)) (viewMcm hBare hvw hm (fun e he => by obtain ⟨x, _, rfl⟩ := List.mem_map.1 he; rfl)) rfl (WpR.of_vc ?_)
  (conv => whnf); (repeat' (first | ((with_reducible refine ifb_mk (fun hc => ?_) (fun hc => ?_)) <;> ((try simp only [decide_eq_true_eq, decide_eq_false_iff_not, Bool.not_eq_true', Bool.not_eq_false', Int.not_lt, Int.not_le, ne_eq, Decidable.not_not, beq_iff_eq, List.cons.injEq, and_true] at hc); (first | (exfalso; omega) | conv => whnf))) | ((with_reducible refine And.intro True.intro ?_); conv => whnf) | ((with_reducible refine CallX.all (f := 121) ?_); refine CallW.inline Try.func121 rfl rfl (Nat.le_of_ble_eq_true rfl) (WpR.of_vc ?_); conv => whnf) | ((with_reducible refine RangeX.all ?_); conv => whnf) | ((with_reducible refine CallW.inline (f := 120) Try.func120 rfl rfl (Nat.le_of_ble_eq_true rfl) (WpR.of_vc ?_)); conv => whnf) | ((with_reducible refine And.intro ?hh ?_); (case hh => (unfold InR; (try dsimp only); omega)); conv => whnf) | ((with_reducible refine And.intro ?hh ?_); (case hh => ((try dsimp only); omega)); conv => whnf) | ((with_reducible refine And.intro ?hh ?_); (case hh => ((conv => whnf); (repeat' (first | exact True.intro | rfl | refine And.intro ?_ ?_)); done)); conv => whnf) | fail))
  have hL : ∀ k e, l[k]? = some e → (l.map (startQ s r))[k]? = some (startQ s r e) := fun k e he => by rw [List.getElem?_map, he]; rfl
  refine WpR.loopD (ι := Nat) [] [0, 1, 2, 3, 9, 10] [8, 9] [] 12 (fun i => [(11, .int .i64 i)]) (fun i => [(8, .cells (ofL [.int .i64 ((bestQ s ((l.map (startQ s r)).take i)).getD (0, 0)).1, .int .i64 ((bestQ s ((l.map (startQ s r)).take i)).getD (0, 0)).2] 0) true none), (9, .cells (ofL [.bool (bestQ s ((l.map (startQ s r)).take i)).isNone] 0) true none)]) (fun i => l.length - i) (fun i => i ≤ l.length) ?_ (0) (Nat.zero_le _) [] ⟨rfl, rfl, (by (repeat' (first | exact True.intro | rfl | refine And.intro ?_ ?_))), (by (repeat' (first | exact True.intro | rfl | refine And.intro ?_ ?_))), (by (repeat' (first | exact True.intro | rfl | refine And.intro ?_ ?_))), (by (repeat' (first | exact True.intro | exact Or.inl rfl | refine And.intro ?_ ?_ | refine Or.inr ⟨_, rfl, ?_⟩ | exact SubQ.same (n := 1000) (Y := []) (fun _ _ _ => rfl) (by first | exact True.intro | exact ltB_all rfl | exact ltB_ofLb (by first | exact bare0_ints | assumption | (intro v hv; (repeat (rcases List.mem_cons.1 hv with rfl | hv; exact rfl)); cases hv)) | exact ltB_loop rfl rfl | exact hMap _ | exact hMap2 _ | exact grB_lt (by first | exact bare0_ints | assumption | (intro v hv; (repeat (rcases List.mem_cons.1 hv with rfl | hv; exact rfl)); cases hv)) _ | exact ltB_mapB | assumption) (avB_nil _) rfl | exact SubQ.ofL (by first | rfl | simp) (by first | exact bare0_ints | assumption | (intro v hv; (repeat (rcases List.mem_cons.1 hv with rfl | hv; exact rfl)); cases hv)) (by first | exact Or.inl rfl | exact Or.inr rfl) | exact SubQ.fin (by (conv => whnf); (repeat' (first | exact True.intro | rfl | refine And.intro ?_ ?_)); done) (fun h => h) (by first | exact Or.inl rfl | exact Or.inr rfl)))), rfl, rfl⟩ rfl rfl rfl (fun _ => rfl) (by (repeat' (first | exact True.intro | refine And.intro ?_ ?_ | exact avV_nil _ | rfl))) (by (repeat' (first | exact True.intro | (with_reducible exact avB_nil _) | ((with_reducible refine avB_all ?_); rfl) | ((with_reducible refine avB_ofLb ?_); exact (by first | exact bare0_ints | assumption | (intro v hv; (repeat (rcases List.mem_cons.1 hv with rfl | hv; exact rfl)); cases hv))) | ((with_reducible refine ltB_all ?_); rfl) | ((with_reducible refine ltB_ofLb ?_); exact (by first | exact bare0_ints | assumption | (intro v hv; (repeat (rcases List.mem_cons.1 hv with rfl | hv; exact rfl)); cases hv))) | ((with_reducible refine ltB_loop ?_ ?_) <;> rfl) | (with_reducible exact hMap _) | (with_reducible exact hMap2 _) | (with_reducible exact ltB_mapB) | ((with_reducible refine grB_lt ?_ _); exact (by first | exact bare0_ints | assumption | (intro v hv; (repeat (rcases List.mem_cons.1 hv with rfl | hv; exact rfl)); cases hv))) | (with_reducible assumption) | refine And.intro ?_ ?_ | exact (by first | exact True.intro | exact ltB_all rfl | exact ltB_ofLb (by first | exact bare0_ints | assumption | (intro v hv; (repeat (rcases List.mem_cons.1 hv with rfl | hv; exact rfl)); cases hv)) | exact ltB_loop rfl rfl | exact hMap _ | exact hMap2 _ | exact grB_lt (by first | exact bare0_ints | assumption | (intro v hv; (repeat (rcases List.mem_cons.1 hv with rfl | hv; exact rfl)); cases hv)) _ | exact ltB_mapB | assumption)))) (fun _ _ => (by (repeat' (first | exact True.intro | rfl | refine And.intro ?_ ?_ | exact (by decide) | exact (by first | exact True.intro | exact hMap _ | exact hMap2 _ | exact grB_lt (by first | exact bare0_ints | assumption | (intro v hv; (repeat (rcases List.mem_cons.1 hv with rfl | hv; exact rfl)); cases hv)) _ | exact ltB_all rfl | exact ltB_ofLb (by first | exact bare0_ints | assumption | (intro v hv; (repeat (rcases List.mem_cons.1 hv with rfl | hv; exact rfl)); cases hv)) | exact ltB_loop rfl rfl | exact ltB_mapB | assumption))))) (fun _ _ => (by (repeat' (first | exact True.intro | rfl | refine And.intro ?_ ?_ | exact (by decide) | exact (by first | exact True.intro | exact hMap _ | exact hMap2 _ | exact grB_lt (by first | exact bare0_ints | assumption | (intro v hv; (repeat (rcases List.mem_cons.1 hv with rfl | hv; exact rfl)); cases hv)) _ | exact ltB_all rfl | exact ltB_ofLb (by first | exact bare0_ints | assumption | (intro v hv; (repeat (rcases List.mem_cons.1 hv with rfl | hv; exact rfl)); cases hv)) | exact ltB_loop rfl rfl | exact ltB_mapB | assumption))))) (fun _ _ => (by (repeat' (first | exact True.intro | rfl | refine And.intro ?_ ?_)))) rfl
  rintro i hi2
  refine WpR.of_vc ?_
  cases hx : l[i]? with
  | some e =>
    have hlt := (List.getElem?_eq_some_iff.1 hx).1
    have he := hS.ent _ _ hx
    have hso := start_ok (s := s) hr he
    have hb := bestQ_take (s := s) (hL i e hx)
    have e0 : ∀ h' sv', SlC h' (entVs l) l.length sv' → CallOk Try.prog 93 [starV lo hi sv', .int .i64 i] h' (.agg [.int .i64 e.2.1, .int .i64 e.2.2]) h' := fun h' sv' hs' => endsOf_ok h' lo hi l sv' i e hx hs'
    rcases hs with rfl | rfl
    all_goals (conv => whnf); (repeat' (first | ((with_reducible refine ifb_mk (fun hc => ?_) (fun hc => ?_)) <;> ((try simp only [decide_eq_true_eq, decide_eq_false_iff_not, Bool.not_eq_true', Bool.not_eq_false', Int.not_lt, Int.not_le, ne_eq, Decidable.not_not, beq_iff_eq, List.cons.injEq, and_true] at hc); (first | (exfalso; omega) | conv => whnf))) | ((with_reducible refine And.intro True.intro ?_); conv => whnf) | ((with_reducible refine grd_getN ?_); refine som_mk (a := ?_) ?hh ?_; (case hh => exact entGetN hx); conv => whnf) | ((with_reducible refine WpR.drawTail (id := 3) mixed 13 [0, 1, 2, 3, 5, 8, 9, 10, 11, 4, 6, 7, 12] [0, 0, 2, 0, 14, 0, 62, 126, 0, 0, 512, 1536, 4094] ?hh ?hk ?_); (case hh => kernel_rfl); (case hk => kernel_rfl); conv => whnf) | ((with_reducible refine grd_ex ?_); refine ex_ok (e0 _ _ (SlC.own rfl)) ?_; conv => whnf) | ((with_reducible refine grd_ex ?_); refine ex_ok (whole_ok' _ _) ?_; conv => whnf) | ((with_reducible refine grd_ex ?_); refine ex_ok (startV_ok _ 0 r hr e he _ rfl) ?_; conv => whnf) | ((with_reducible refine grd_ex ?_); refine ex_ok (startV_ok _ 1 r hr e he _ rfl) ?_; conv => whnf) | ((with_reducible refine And.intro ?hh ?_); (case hh => (unfold InR; (try dsimp only); omega)); conv => whnf) | ((with_reducible refine And.intro ?hh ?_); (case hh => ((try dsimp only); omega)); conv => whnf) | ((with_reducible refine And.intro ?hh ?_); (case hh => ((conv => whnf); (repeat' (first | exact True.intro | rfl | refine And.intro ?_ ?_)); done)); conv => whnf) | fail))
    all_goals (refine YldX.all ?_; refine YldW.inline rfl rfl rfl (WpR.of_vc ?_))
    · cases hacc : bestQ 0 ((l.map (startQ 0 r)).take i) with
      | none =>
        have hb2 : bestQ 0 ((l.map (startQ 0 r)).take (i + 1)) = some (startQ 0 r e) := by rw [hb, hacc]; rfl
        conv => whnf
        refine ⟨rfl, _, rfl, rfl, WpR.of_vc ?_⟩
        (conv => whnf); (repeat' (first | ((with_reducible refine ifb_mk (fun hc => ?_) (fun hc => ?_)) <;> ((try simp only [decide_eq_true_eq, decide_eq_false_iff_not, Bool.not_eq_true', Bool.not_eq_false', Int.not_lt, Int.not_le, ne_eq, Decidable.not_not, beq_iff_eq, List.cons.injEq, and_true] at hc); (first | (exfalso; omega) | conv => whnf))) | ((with_reducible refine And.intro True.intro ?_); conv => whnf) | ((with_reducible refine And.intro ?hh ?_); (case hh => (unfold InR; (try dsimp only); omega)); conv => whnf) | ((with_reducible refine And.intro ?hh ?_); (case hh => ((try dsimp only); omega)); conv => whnf) | ((with_reducible refine And.intro ?hh ?_); (case hh => ((conv => whnf); (repeat' (first | exact True.intro | rfl | refine And.intro ?_ ?_)); done)); conv => whnf) | fail))
        refine ⟨_, _, rfl, ?_⟩
        (conv => whnf); (repeat' (first | ((with_reducible refine ifb_mk (fun hc => ?_) (fun hc => ?_)) <;> ((try simp only [decide_eq_true_eq, decide_eq_false_iff_not, Bool.not_eq_true', Bool.not_eq_false', Int.not_lt, Int.not_le, ne_eq, Decidable.not_not, beq_iff_eq, List.cons.injEq, and_true] at hc); (first | (exfalso; omega) | conv => whnf))) | ((with_reducible refine And.intro True.intro ?_); conv => whnf) | ((with_reducible refine And.intro ?hh ?_); (case hh => (unfold InR; (try dsimp only); omega)); conv => whnf) | ((with_reducible refine And.intro ?hh ?_); (case hh => ((try dsimp only); omega)); conv => whnf) | ((with_reducible refine And.intro ?hh ?_); (case hh => ((conv => whnf); (repeat' (first | exact True.intro | rfl | refine And.intro ?_ ?_)); done)); conv => whnf) | fail))
        exact ⟨i + 1, [], by omega, by omega, by dsimp only; rw [hb2]; exact ⟨rfl, rfl, (by (repeat' (first | exact True.intro | rfl | refine And.intro ?_ ?_))), (by (repeat' (first | exact True.intro | rfl | refine And.intro ?_ ?_))), (by (repeat' (first | exact True.intro | rfl | refine And.intro ?_ ?_))), (by (repeat' (first | exact True.intro | exact Or.inl rfl | refine And.intro ?_ ?_ | refine Or.inr ⟨_, rfl, ?_⟩ | exact SubQ.same (n := 1000) (Y := []) (fun _ _ _ => rfl) (by first | exact True.intro | exact ltB_all rfl | exact ltB_ofLb (by first | exact bare0_ints | assumption | (intro v hv; (repeat (rcases List.mem_cons.1 hv with rfl | hv; exact rfl)); cases hv)) | exact ltB_loop rfl rfl | exact hMap _ | exact hMap2 _ | exact grB_lt (by first | exact bare0_ints | assumption | (intro v hv; (repeat (rcases List.mem_cons.1 hv with rfl | hv; exact rfl)); cases hv)) _ | exact ltB_mapB | assumption) (avB_nil _) rfl | exact SubQ.ofL (by first | rfl | simp) (by first | exact bare0_ints | assumption | (intro v hv; (repeat (rcases List.mem_cons.1 hv with rfl | hv; exact rfl)); cases hv)) (by first | exact Or.inl rfl | exact Or.inr rfl) | exact SubQ.fin (by (conv => whnf); (repeat' (first | exact True.intro | rfl | refine And.intro ?_ ?_)); done) (fun h => h) (by first | exact Or.inl rfl | exact Or.inr rfl)))), rfl, rfl⟩⟩
      | some f =>
        obtain ⟨e', he', rfl⟩ := List.mem_map.1 (List.mem_of_mem_take (bestQ_in hacc))
        obtain ⟨j', hj'⟩ := List.mem_iff_getElem?.1 he'
        have hso' := start_ok (s := 0) hr (hS.ent _ _ hj')
        conv => whnf
        refine ⟨rfl, _, rfl, rfl, WpR.of_vc ?_⟩
        (conv => whnf); (repeat' (first | ((with_reducible refine ifb_mk (fun hc => ?_) (fun hc => ?_)) <;> ((try simp only [decide_eq_true_eq, decide_eq_false_iff_not, Bool.not_eq_true', Bool.not_eq_false', Int.not_lt, Int.not_le, ne_eq, Decidable.not_not, beq_iff_eq, List.cons.injEq, and_true] at hc); (first | (exfalso; omega) | conv => whnf))) | ((with_reducible refine And.intro True.intro ?_); conv => whnf) | ((with_reducible refine CallX.all (f := 122) ?_); refine CallW.inline Try.func122 rfl rfl (Nat.le_of_ble_eq_true rfl) (WpR.of_vc ?_); conv => whnf) | ((with_reducible refine CallX.all ?_); refine CallW.of_ok (tight6_ok _ 0 _ _ hso.num hso.den hso'.num hso'.den) ?_; conv => whnf) | ((with_reducible refine And.intro ?hh ?_); (case hh => (unfold InR; (try dsimp only); omega)); conv => whnf) | ((with_reducible refine And.intro ?hh ?_); (case hh => ((try dsimp only); omega)); conv => whnf) | ((with_reducible refine And.intro ?hh ?_); (case hh => ((conv => whnf); (repeat' (first | exact True.intro | rfl | refine And.intro ?_ ?_)); done)); conv => whnf) | fail))
        · have hb2 : bestQ 0 ((l.map (startQ 0 r)).take (i + 1)) = some (startQ 0 r e) := by rw [hb, hacc]; exact stepB_true hc
          refine ⟨_, _, rfl, ?_⟩
          (conv => whnf); (repeat' (first | ((with_reducible refine ifb_mk (fun hc => ?_) (fun hc => ?_)) <;> ((try simp only [decide_eq_true_eq, decide_eq_false_iff_not, Bool.not_eq_true', Bool.not_eq_false', Int.not_lt, Int.not_le, ne_eq, Decidable.not_not, beq_iff_eq, List.cons.injEq, and_true] at hc); (first | (exfalso; omega) | conv => whnf))) | ((with_reducible refine And.intro True.intro ?_); conv => whnf) | ((with_reducible refine And.intro ?hh ?_); (case hh => (unfold InR; (try dsimp only); omega)); conv => whnf) | ((with_reducible refine And.intro ?hh ?_); (case hh => ((try dsimp only); omega)); conv => whnf) | ((with_reducible refine And.intro ?hh ?_); (case hh => ((conv => whnf); (repeat' (first | exact True.intro | rfl | refine And.intro ?_ ?_)); done)); conv => whnf) | fail))
          exact ⟨i + 1, [], by omega, by omega, by dsimp only; rw [hb2]; exact ⟨rfl, rfl, (by (repeat' (first | exact True.intro | rfl | refine And.intro ?_ ?_))), (by (repeat' (first | exact True.intro | rfl | refine And.intro ?_ ?_))), (by (repeat' (first | exact True.intro | rfl | refine And.intro ?_ ?_))), (by (repeat' (first | exact True.intro | exact Or.inl rfl | refine And.intro ?_ ?_ | refine Or.inr ⟨_, rfl, ?_⟩ | exact SubQ.same (n := 1000) (Y := []) (fun _ _ _ => rfl) (by first | exact True.intro | exact ltB_all rfl | exact ltB_ofLb (by first | exact bare0_ints | assumption | (intro v hv; (repeat (rcases List.mem_cons.1 hv with rfl | hv; exact rfl)); cases hv)) | exact ltB_loop rfl rfl | exact hMap _ | exact hMap2 _ | exact grB_lt (by first | exact bare0_ints | assumption | (intro v hv; (repeat (rcases List.mem_cons.1 hv with rfl | hv; exact rfl)); cases hv)) _ | exact ltB_mapB | assumption) (avB_nil _) rfl | exact SubQ.ofL (by first | rfl | simp) (by first | exact bare0_ints | assumption | (intro v hv; (repeat (rcases List.mem_cons.1 hv with rfl | hv; exact rfl)); cases hv)) (by first | exact Or.inl rfl | exact Or.inr rfl) | exact SubQ.fin (by (conv => whnf); (repeat' (first | exact True.intro | rfl | refine And.intro ?_ ?_)); done) (fun h => h) (by first | exact Or.inl rfl | exact Or.inr rfl)))), rfl, rfl⟩⟩
        · have hb2 : bestQ 0 ((l.map (startQ 0 r)).take (i + 1)) = some (startQ 0 r e') := by rw [hb, hacc]; exact stepB_false hc
          refine ⟨_, _, rfl, ?_⟩
          (conv => whnf); (repeat' (first | ((with_reducible refine ifb_mk (fun hc => ?_) (fun hc => ?_)) <;> ((try simp only [decide_eq_true_eq, decide_eq_false_iff_not, Bool.not_eq_true', Bool.not_eq_false', Int.not_lt, Int.not_le, ne_eq, Decidable.not_not, beq_iff_eq, List.cons.injEq, and_true] at hc); (first | (exfalso; omega) | conv => whnf))) | ((with_reducible refine And.intro True.intro ?_); conv => whnf) | ((with_reducible refine And.intro ?hh ?_); (case hh => (unfold InR; (try dsimp only); omega)); conv => whnf) | ((with_reducible refine And.intro ?hh ?_); (case hh => ((try dsimp only); omega)); conv => whnf) | ((with_reducible refine And.intro ?hh ?_); (case hh => ((conv => whnf); (repeat' (first | exact True.intro | rfl | refine And.intro ?_ ?_)); done)); conv => whnf) | fail))
          exact ⟨i + 1, [], by omega, by omega, by dsimp only; rw [hb2]; exact ⟨rfl, rfl, (by (repeat' (first | exact True.intro | rfl | refine And.intro ?_ ?_))), (by (repeat' (first | exact True.intro | rfl | refine And.intro ?_ ?_))), (by (repeat' (first | exact True.intro | rfl | refine And.intro ?_ ?_))), (by (repeat' (first | exact True.intro | exact Or.inl rfl | refine And.intro ?_ ?_ | refine Or.inr ⟨_, rfl, ?_⟩ | exact SubQ.same (n := 1000) (Y := []) (fun _ _ _ => rfl) (by first | exact True.intro | exact ltB_all rfl | exact ltB_ofLb (by first | exact bare0_ints | assumption | (intro v hv; (repeat (rcases List.mem_cons.1 hv with rfl | hv; exact rfl)); cases hv)) | exact ltB_loop rfl rfl | exact hMap _ | exact hMap2 _ | exact grB_lt (by first | exact bare0_ints | assumption | (intro v hv; (repeat (rcases List.mem_cons.1 hv with rfl | hv; exact rfl)); cases hv)) _ | exact ltB_mapB | assumption) (avB_nil _) rfl | exact SubQ.ofL (by first | rfl | simp) (by first | exact bare0_ints | assumption | (intro v hv; (repeat (rcases List.mem_cons.1 hv with rfl | hv; exact rfl)); cases hv)) (by first | exact Or.inl rfl | exact Or.inr rfl) | exact SubQ.fin (by (conv => whnf); (repeat' (first | exact True.intro | rfl | refine And.intro ?_ ?_)); done) (fun h => h) (by first | exact Or.inl rfl | exact Or.inr rfl)))), rfl, rfl⟩⟩
    · cases hacc : bestQ 1 ((l.map (startQ 1 r)).take i) with
      | none =>
        have hb2 : bestQ 1 ((l.map (startQ 1 r)).take (i + 1)) = some (startQ 1 r e) := by rw [hb, hacc]; rfl
        conv => whnf
        refine ⟨rfl, _, rfl, rfl, WpR.of_vc ?_⟩
        (conv => whnf); (repeat' (first | ((with_reducible refine ifb_mk (fun hc => ?_) (fun hc => ?_)) <;> ((try simp only [decide_eq_true_eq, decide_eq_false_iff_not, Bool.not_eq_true', Bool.not_eq_false', Int.not_lt, Int.not_le, ne_eq, Decidable.not_not, beq_iff_eq, List.cons.injEq, and_true] at hc); (first | (exfalso; omega) | conv => whnf))) | ((with_reducible refine And.intro True.intro ?_); conv => whnf) | ((with_reducible refine And.intro ?hh ?_); (case hh => (unfold InR; (try dsimp only); omega)); conv => whnf) | ((with_reducible refine And.intro ?hh ?_); (case hh => ((try dsimp only); omega)); conv => whnf) | ((with_reducible refine And.intro ?hh ?_); (case hh => ((conv => whnf); (repeat' (first | exact True.intro | rfl | refine And.intro ?_ ?_)); done)); conv => whnf) | fail))
        refine ⟨_, _, rfl, ?_⟩
        (conv => whnf); (repeat' (first | ((with_reducible refine ifb_mk (fun hc => ?_) (fun hc => ?_)) <;> ((try simp only [decide_eq_true_eq, decide_eq_false_iff_not, Bool.not_eq_true', Bool.not_eq_false', Int.not_lt, Int.not_le, ne_eq, Decidable.not_not, beq_iff_eq, List.cons.injEq, and_true] at hc); (first | (exfalso; omega) | conv => whnf))) | ((with_reducible refine And.intro True.intro ?_); conv => whnf) | ((with_reducible refine And.intro ?hh ?_); (case hh => (unfold InR; (try dsimp only); omega)); conv => whnf) | ((with_reducible refine And.intro ?hh ?_); (case hh => ((try dsimp only); omega)); conv => whnf) | ((with_reducible refine And.intro ?hh ?_); (case hh => ((conv => whnf); (repeat' (first | exact True.intro | rfl | refine And.intro ?_ ?_)); done)); conv => whnf) | fail))
        exact ⟨i + 1, [], by omega, by omega, by dsimp only; rw [hb2]; exact ⟨rfl, rfl, (by (repeat' (first | exact True.intro | rfl | refine And.intro ?_ ?_))), (by (repeat' (first | exact True.intro | rfl | refine And.intro ?_ ?_))), (by (repeat' (first | exact True.intro | rfl | refine And.intro ?_ ?_))), (by (repeat' (first | exact True.intro | exact Or.inl rfl | refine And.intro ?_ ?_ | refine Or.inr ⟨_, rfl, ?_⟩ | exact SubQ.same (n := 1000) (Y := []) (fun _ _ _ => rfl) (by first | exact True.intro | exact ltB_all rfl | exact ltB_ofLb (by first | exact bare0_ints | assumption | (intro v hv; (repeat (rcases List.mem_cons.1 hv with rfl | hv; exact rfl)); cases hv)) | exact ltB_loop rfl rfl | exact hMap _ | exact hMap2 _ | exact grB_lt (by first | exact bare0_ints | assumption | (intro v hv; (repeat (rcases List.mem_cons.1 hv with rfl | hv; exact rfl)); cases hv)) _ | exact ltB_mapB | assumption) (avB_nil _) rfl | exact SubQ.ofL (by first | rfl | simp) (by first | exact bare0_ints | assumption | (intro v hv; (repeat (rcases List.mem_cons.1 hv with rfl | hv; exact rfl)); cases hv)) (by first | exact Or.inl rfl | exact Or.inr rfl) | exact SubQ.fin (by (conv => whnf); (repeat' (first | exact True.intro | rfl | refine And.intro ?_ ?_)); done) (fun h => h) (by first | exact Or.inl rfl | exact Or.inr rfl)))), rfl, rfl⟩⟩
      | some f =>
        obtain ⟨e', he', rfl⟩ := List.mem_map.1 (List.mem_of_mem_take (bestQ_in hacc))
        obtain ⟨j', hj'⟩ := List.mem_iff_getElem?.1 he'
        have hso' := start_ok (s := 1) hr (hS.ent _ _ hj')
        conv => whnf
        refine ⟨rfl, _, rfl, rfl, WpR.of_vc ?_⟩
        (conv => whnf); (repeat' (first | ((with_reducible refine ifb_mk (fun hc => ?_) (fun hc => ?_)) <;> ((try simp only [decide_eq_true_eq, decide_eq_false_iff_not, Bool.not_eq_true', Bool.not_eq_false', Int.not_lt, Int.not_le, ne_eq, Decidable.not_not, beq_iff_eq, List.cons.injEq, and_true] at hc); (first | (exfalso; omega) | conv => whnf))) | ((with_reducible refine And.intro True.intro ?_); conv => whnf) | ((with_reducible refine CallX.all (f := 122) ?_); refine CallW.inline Try.func122 rfl rfl (Nat.le_of_ble_eq_true rfl) (WpR.of_vc ?_); conv => whnf) | ((with_reducible refine CallX.all ?_); refine CallW.of_ok (tight6_ok _ 1 _ _ hso.num hso.den hso'.num hso'.den) ?_; conv => whnf) | ((with_reducible refine And.intro ?hh ?_); (case hh => (unfold InR; (try dsimp only); omega)); conv => whnf) | ((with_reducible refine And.intro ?hh ?_); (case hh => ((try dsimp only); omega)); conv => whnf) | ((with_reducible refine And.intro ?hh ?_); (case hh => ((conv => whnf); (repeat' (first | exact True.intro | rfl | refine And.intro ?_ ?_)); done)); conv => whnf) | fail))
        · have hb2 : bestQ 1 ((l.map (startQ 1 r)).take (i + 1)) = some (startQ 1 r e) := by rw [hb, hacc]; exact stepB_true hc
          refine ⟨_, _, rfl, ?_⟩
          (conv => whnf); (repeat' (first | ((with_reducible refine ifb_mk (fun hc => ?_) (fun hc => ?_)) <;> ((try simp only [decide_eq_true_eq, decide_eq_false_iff_not, Bool.not_eq_true', Bool.not_eq_false', Int.not_lt, Int.not_le, ne_eq, Decidable.not_not, beq_iff_eq, List.cons.injEq, and_true] at hc); (first | (exfalso; omega) | conv => whnf))) | ((with_reducible refine And.intro True.intro ?_); conv => whnf) | ((with_reducible refine And.intro ?hh ?_); (case hh => (unfold InR; (try dsimp only); omega)); conv => whnf) | ((with_reducible refine And.intro ?hh ?_); (case hh => ((try dsimp only); omega)); conv => whnf) | ((with_reducible refine And.intro ?hh ?_); (case hh => ((conv => whnf); (repeat' (first | exact True.intro | rfl | refine And.intro ?_ ?_)); done)); conv => whnf) | fail))
          exact ⟨i + 1, [], by omega, by omega, by dsimp only; rw [hb2]; exact ⟨rfl, rfl, (by (repeat' (first | exact True.intro | rfl | refine And.intro ?_ ?_))), (by (repeat' (first | exact True.intro | rfl | refine And.intro ?_ ?_))), (by (repeat' (first | exact True.intro | rfl | refine And.intro ?_ ?_))), (by (repeat' (first | exact True.intro | exact Or.inl rfl | refine And.intro ?_ ?_ | refine Or.inr ⟨_, rfl, ?_⟩ | exact SubQ.same (n := 1000) (Y := []) (fun _ _ _ => rfl) (by first | exact True.intro | exact ltB_all rfl | exact ltB_ofLb (by first | exact bare0_ints | assumption | (intro v hv; (repeat (rcases List.mem_cons.1 hv with rfl | hv; exact rfl)); cases hv)) | exact ltB_loop rfl rfl | exact hMap _ | exact hMap2 _ | exact grB_lt (by first | exact bare0_ints | assumption | (intro v hv; (repeat (rcases List.mem_cons.1 hv with rfl | hv; exact rfl)); cases hv)) _ | exact ltB_mapB | assumption) (avB_nil _) rfl | exact SubQ.ofL (by first | rfl | simp) (by first | exact bare0_ints | assumption | (intro v hv; (repeat (rcases List.mem_cons.1 hv with rfl | hv; exact rfl)); cases hv)) (by first | exact Or.inl rfl | exact Or.inr rfl) | exact SubQ.fin (by (conv => whnf); (repeat' (first | exact True.intro | rfl | refine And.intro ?_ ?_)); done) (fun h => h) (by first | exact Or.inl rfl | exact Or.inr rfl)))), rfl, rfl⟩⟩
        · have hb2 : bestQ 1 ((l.map (startQ 1 r)).take (i + 1)) = some (startQ 1 r e') := by rw [hb, hacc]; exact stepB_false hc
          refine ⟨_, _, rfl, ?_⟩
          (conv => whnf); (repeat' (first | ((with_reducible refine ifb_mk (fun hc => ?_) (fun hc => ?_)) <;> ((try simp only [decide_eq_true_eq, decide_eq_false_iff_not, Bool.not_eq_true', Bool.not_eq_false', Int.not_lt, Int.not_le, ne_eq, Decidable.not_not, beq_iff_eq, List.cons.injEq, and_true] at hc); (first | (exfalso; omega) | conv => whnf))) | ((with_reducible refine And.intro True.intro ?_); conv => whnf) | ((with_reducible refine And.intro ?hh ?_); (case hh => (unfold InR; (try dsimp only); omega)); conv => whnf) | ((with_reducible refine And.intro ?hh ?_); (case hh => ((try dsimp only); omega)); conv => whnf) | ((with_reducible refine And.intro ?hh ?_); (case hh => ((conv => whnf); (repeat' (first | exact True.intro | rfl | refine And.intro ?_ ?_)); done)); conv => whnf) | fail))
          exact ⟨i + 1, [], by omega, by omega, by dsimp only; rw [hb2]; exact ⟨rfl, rfl, (by (repeat' (first | exact True.intro | rfl | refine And.intro ?_ ?_))), (by (repeat' (first | exact True.intro | rfl | refine And.intro ?_ ?_))), (by (repeat' (first | exact True.intro | rfl | refine And.intro ?_ ?_))), (by (repeat' (first | exact True.intro | exact Or.inl rfl | refine And.intro ?_ ?_ | refine Or.inr ⟨_, rfl, ?_⟩ | exact SubQ.same (n := 1000) (Y := []) (fun _ _ _ => rfl) (by first | exact True.intro | exact ltB_all rfl | exact ltB_ofLb (by first | exact bare0_ints | assumption | (intro v hv; (repeat (rcases List.mem_cons.1 hv with rfl | hv; exact rfl)); cases hv)) | exact ltB_loop rfl rfl | exact hMap _ | exact hMap2 _ | exact grB_lt (by first | exact bare0_ints | assumption | (intro v hv; (repeat (rcases List.mem_cons.1 hv with rfl | hv; exact rfl)); cases hv)) _ | exact ltB_mapB | assumption) (avB_nil _) rfl | exact SubQ.ofL (by first | rfl | simp) (by first | exact bare0_ints | assumption | (intro v hv; (repeat (rcases List.mem_cons.1 hv with rfl | hv; exact rfl)); cases hv)) (by first | exact Or.inl rfl | exact Or.inr rfl) | exact SubQ.fin (by (conv => whnf); (repeat' (first | exact True.intro | rfl | refine And.intro ?_ ?_)); done) (fun h => h) (by first | exact Or.inl rfl | exact Or.inr rfl)))), rfl, rfl⟩⟩
  | none =>
    have hlen : l.length ≤ i := by simpa using hx
    rw [List.take_of_length_le (by simpa using hlen)]
    (conv => whnf); (repeat' (first | ((with_reducible refine ifb_mk (fun hc => ?_) (fun hc => ?_)) <;> ((try simp only [decide_eq_true_eq, decide_eq_false_iff_not, Bool.not_eq_true', Bool.not_eq_false', Int.not_lt, Int.not_le, ne_eq, Decidable.not_not, beq_iff_eq, List.cons.injEq, and_true] at hc); (first | (exfalso; omega) | conv => whnf))) | ((with_reducible refine And.intro True.intro ?_); conv => whnf) | ((with_reducible refine And.intro ?hh ?_); (case hh => (unfold InR; (try dsimp only); omega)); conv => whnf) | ((with_reducible refine And.intro ?hh ?_); (case hh => ((try dsimp only); omega)); conv => whnf) | ((with_reducible refine And.intro ?hh ?_); (case hh => ((conv => whnf); (repeat' (first | exact True.intro | rfl | refine And.intro ?_ ?_)); done)); conv => whnf) | fail))
    (refine ⟨[], ?_, rfl, rfl, trivial, (by (repeat' (first | exact True.intro | rfl | refine And.intro ?_ ?_)))⟩; simp only [renV, renL]; (first | done | rfl | simp | grind))
end Go.Proofs.D

namespace Go.Proofs.D
open Go.As
set_option maxRecDepth 20000
set_option linter.unusedVariables false
set_option linter.unusedSimpArgs false

/-! ### The farthest motion -/

abbrev Mo := (Int × Int) × (Int × Int)
def plcQ (m : Mo) (y : Int) : Int × Int := fr (m.1.1 * m.2.2 + m.2.1 * y * m.1.2) (m.1.2 * m.2.2)
def outM (s : Int) (l : List E) (r : Int × Int) : Mo := (outQ s r l, r)
def cornF (s : Int) (a b : Int × Int) (l : List E) (p : Int × Int) : Option Mo :=
  if p = (-1, -1) then none else
    let r := crossQ s (l.getD p.1.toNat (0, 0, 0)) (l.getD p.2.toNat (0, 0, 0))
    if a.1 * r.2 < r.1 * a.2 ∧ r.1 * b.2 < b.1 * r.2 then some (outM s l r) else none
def betM (s y : Int) (m n : Mo) : Bool := tighterF s (plcQ n y) (plcQ m y)
def stepM (s y : Int) (a b : Int × Int) (l : List E) (x : Mo) (p : Int × Int) : Mo := match cornF s a b l p with
  | some c => if betM s y c x then c else x
  | none => x
def farP (s y : Int) (a b : Int × Int) (l : List E) (x : Mo) (L : List (Int × Int)) : Mo := L.foldl (stepM s y a b l) x
def farM (s y : Int) (a b : Int × Int) (l : List E) : Mo := farP s y a b l (if betM s y (outM s l b) (outM s l a) then outM s l b else outM s l a) (pairsL l.length)

structure OkM (m : Mo) : Prop where
  pn : -6000000 ≤ m.1.1 ∧ m.1.1 ≤ 6000000
  pd : 1 ≤ m.1.2 ∧ m.1.2 ≤ 200
  rt : OkR m.2

theorem mulp {a b m n : Int} (ha : 1 ≤ a ∧ a ≤ m) (hb : 1 ≤ b ∧ b ≤ n) : 1 ≤ a * b ∧ a * b ≤ m * n := by
  have h1 := Int.mul_le_mul_of_nonneg_right ha.2 (by omega : 0 ≤ b)
  have h2 := Int.mul_le_mul_of_nonneg_left hb.2 (by omega : 0 ≤ m)
  have h3 := Int.mul_pos (by omega : 0 < a) (by omega : 0 < b)
  omega

structure PlcOk (m : Mo) (y : Int) : Prop where
  a : -1200000000 ≤ m.1.1 * m.2.2 ∧ m.1.1 * m.2.2 ≤ 1200000000
  b : -4000000 ≤ m.2.1 * y ∧ m.2.1 * y ≤ 4000000
  c : -800000000 ≤ m.2.1 * y * m.1.2 ∧ m.2.1 * y * m.1.2 ≤ 800000000
  d : 1 ≤ m.1.2 * m.2.2 ∧ m.1.2 * m.2.2 ≤ 40000
  num : -2000000000 ≤ (plcQ m y).1 ∧ (plcQ m y).1 ≤ 2000000000
  den : 1 ≤ (plcQ m y).2 ∧ (plcQ m y).2 ≤ 40000

theorem plc_ok {m : Mo} (hm : OkM m) {y : Int} (hy : 0 ≤ y ∧ y ≤ 200) : PlcOk m y := by
  obtain ⟨h1, h2, h3, h4, h5⟩ := hm
  have ha := mul_bd (by decide : (0 : Int) ≤ 6000000) h1 (⟨by omega, h5⟩ : 0 ≤ m.2.2 ∧ m.2.2 ≤ 200)
  have hb := mul_bd (by decide : (0 : Int) ≤ 20000) h3 hy
  have hc := mul_bd (by decide : (0 : Int) ≤ 4000000) (⟨by omega, by omega⟩ : -4000000 ≤ m.2.1 * y ∧ m.2.1 * y ≤ 4000000) (⟨by omega, h2.2⟩ : 0 ≤ m.1.2 ∧ m.1.2 ≤ 200)
  have hd := mulp h2 (⟨h4, h5⟩ : 1 ≤ m.2.2 ∧ m.2.2 ≤ 200)
  have hn : 0 < m.1.2 * m.2.2 := by omega
  exact ⟨by omega, by omega, by omega, by omega, fr_bd hn (by omega), fr_den hn (by omega)⟩

theorem placeM_ok (h : H) (m : Mo) (y : Int) (hm : OkM m) (hy : 0 ≤ y ∧ y ≤ 200) : CallOk Try.prog 77 [.agg [.int .i64 m.1.1, .int .i64 m.1.2, .int .i64 m.2.1, .int .i64 m.2.2], .int .i64 y] h (.agg [.int .i64 (plcQ m y).1, .int .i64 (plcQ m y).2]) h := by
  obtain ⟨h1, h2, h3, h4, _, _⟩ := plc_ok hm hy
  exact placeIn_ok h m.1.1 m.1.2 m.2.1 m.2.2 y (by unfold InR; omega) (by unfold InR; omega) (by unfold InR; omega) (by unfold InQ; omega) (by omega)

theorem InR_mul9 {a d : Int} (h1 : -2000000000 ≤ a ∧ a ≤ 2000000000) (h2 : 1 ≤ d ∧ d ≤ 40000) : InR (a * d) := by
  have := mul_bd (by decide : (0 : Int) ≤ 2000000000) h1 (⟨by omega, h2.2⟩ : 0 ≤ d ∧ d ≤ 40000)
  unfold InR; omega

theorem betM_ok (h : H) (s y : Int) (m n : Mo) (hm : OkM m) (hn : OkM n) (hy : 0 ≤ y ∧ y ≤ 200) : CallOk Try.prog 98 [.int .i64 s, .agg [.int .i64 (plcQ n y).1, .int .i64 (plcQ n y).2], .agg [.int .i64 (plcQ m y).1, .int .i64 (plcQ m y).2]] h (.bool (betM s y m n)) h := by
  have h1 := plc_ok hm hy
  have h2 := plc_ok hn hy
  exact tighter_ok h s _ _ _ _ (InR_mul9 h2.num h1.den) (InR_mul9 h1.num h2.den)

theorem outM_ok {s : Int} {l : List E} {lo hi : Int} (hS : OkS lo hi l) {r : Int × Int} (hr : OkR r) : OkM (outM s l r) := by
  have h1 := hS.one
  have hg : l[0]? = some l[0] := List.getElem?_eq_getElem _
  have key : ∃ f, bestQ s (l.map (startQ s r)) = some f := by
    have : ∀ (L : List (Int × Int)) (a : Int × Int), ∃ f, L.foldl (stepB (tighterF s)) (some a) = some f := by
      intro L
      induction L with
      | nil => intro a; exact ⟨a, rfl⟩
      | cons x L ih => intro a; simp only [List.foldl_cons, stepB]; exact ih _
    cases hl : l with
    | nil => rw [hl] at h1; simp at h1
    | cons e l' =>
      unfold bestQ
      rw [List.map_cons, List.foldl_cons]
      exact this _ _
  obtain ⟨f, hf⟩ := key
  obtain ⟨e, he, rfl⟩ := List.mem_map.1 (bestQ_in hf)
  obtain ⟨j, hj⟩ := List.mem_iff_getElem?.1 he
  have := start_ok (s := s) hr (hS.ent _ _ hj)
  unfold outM outQ
  rw [hf]
  exact ⟨this.num, this.den, hr⟩

theorem cross_okR {s : Int} {e f : E} (he : 0 ≤ e.1 ∧ e.1 ≤ 200 ∧ -10000 ≤ e.2.1 ∧ e.2.1 ≤ e.2.2 ∧ e.2.2 ≤ 10000) (hf : 0 ≤ f.1 ∧ f.1 ≤ 200 ∧ -10000 ≤ f.2.1 ∧ f.2.1 ≤ f.2.2 ∧ f.2.2 ≤ 10000) (h : e.1 < f.1) : OkR (crossQ s e f) := by
  have : -20000 ≤ sideE s f - sideE s e ∧ sideE s f - sideE s e ≤ 20000 := by unfold sideE; split <;> omega
  exact ⟨fr_bd (by omega) this, fr_den (by omega) (by omega)⟩

theorem cornF_two {s : Int} {a b : Int × Int} {l : List E} {i j : Nat} {e f : E} (he : l[i]? = some e) (hf : l[j]? = some f) : cornF s a b l ((i : Int), (j : Int)) = if a.1 * (crossQ s e f).2 < (crossQ s e f).1 * a.2 ∧ (crossQ s e f).1 * b.2 < b.1 * (crossQ s e f).2 then some (outM s l (crossQ s e f)) else none := by
  unfold cornF
  rw [if_neg (by intro h; simp only [Prod.mk.injEq] at h; omega)]
  simp [he, hf, List.getD]

theorem cornF_ok {s : Int} {a b : Int × Int} {l : List E} {lo hi : Int} (hS : OkS lo hi l) {p : Int × Int} (hp : p ∈ pairsL l.length) {c : Mo} (h : cornF s a b l p = some c) : OkM c := by
  rcases pairsL_mem.1 hp with rfl | ⟨i, j, h1, h2, rfl⟩
  · unfold cornF at h; rw [if_pos rfl] at h; cases h
  · have hgi : l[i]? = some l[i] := List.getElem?_eq_getElem _
    have hgj : l[j]? = some l[j] := List.getElem?_eq_getElem _
    rw [cornF_two hgi hgj] at h
    split at h
    · cases h
      exact outM_ok hS (cross_okR (hS.ent _ _ hgi) (hS.ent _ _ hgj) (hS.inc _ _ _ _ h1 hgi hgj))
    · cases h

theorem farP_take {s y : Int} {a b : Int × Int} {l : List E} {x : Mo} {L : List (Int × Int)} {k : Nat} {p : Int × Int} (h : L[k]? = some p) : farP s y a b l x (L.take (k + 1)) = stepM s y a b l (farP s y a b l x (L.take k)) p := foldl_take _ _ h

theorem farP_ok {s y : Int} {a b : Int × Int} {l : List E} {lo hi : Int} (hS : OkS lo hi l) : ∀ {L : List (Int × Int)} {x : Mo}, OkM x → (∀ p ∈ L, p ∈ pairsL l.length) → OkM (farP s y a b l x L)
  | [], x, hx, _ => hx
  | p :: L, x, hx, hL => by
    refine farP_ok hS (L := L) (x := stepM s y a b l x p) ?_ (fun q hq => hL q (List.mem_cons_of_mem _ hq))
    unfold stepM
    cases hc : cornF s a b l p with
    | none => exact hx
    | some c =>
      dsimp only
      split
      · exact cornF_ok hS (hL p (List.mem_cons_self ..)) hc
      · exact hx
end Go.Proofs.D

namespace Go.Proofs.D
open Go.As
set_option maxRecDepth 20000
set_option linter.unusedVariables false
set_option linter.unusedSimpArgs false

def fndM (c x : Mo) : Nat → Mo
  | 0 => ((0, 0), (0, 0))
  | 1 => c
  | _ => x
def isZ : Nat → Bool
  | 0 => true
  | _ => false

set_option maxHeartbeats 2000000 in
theorem farthest_ok (h : H) (lo hi : Int) (l : List E) (hS : OkS lo hi l) (sv : V) (hsv : SlC h (entVs l) l.length sv) (clock : Nat) (m : Nat) (hm : h.get m = some (.map (mapB (cardL lo hi l)) clock)) (s : Int) (hs : s = 0 ∨ s = 1)
    (y : Int) (hy : 0 ≤ y ∧ y ≤ 200) :
    CallOk Try.prog 81 [cardV lo hi sv m, .int .i64 y, .int .i64 s] h (.agg (bL (farM s y (loQ lo hi l) (hiQ lo hi l) l))) h := by
  obtain ⟨vo, svC, hsv', hca, hvw⟩ := hsv.view 0
  obtain ⟨cap, ex, rfl⟩ := Sv.pos hsv' hS.one
  have hn := hS.most
  have hBare := @entVs_bare l
  have hMap : ∀ n, ltB n (.map (mapB (cardL lo hi l)) clock) := fun _ => ltB_mapB
  refine CallOk.run Try.func81 rfl rfl (argsC := [cardV lo hi (.sl 0 0 l.length cap ex) 1, .int .i64 y, .int .i64 s]) (bs := [.cells (ofL (entVs l) 0) false none, .map (mapB (cardL lo hi l)) clock]) (Nat.le_of_ble_eq_true rfl) [vo, some (m, 0)] (.cons (CaL.agg (.cons (.bare rfl) (.cons (.bare rfl) (.cons (hca _ rfl) (.cons (.map rfl) .nil))))) (CaL.lt0 rfl)) (viewMcm hBare hvw hm (fun e he => by obtain ⟨x, _, rfl⟩ := List.mem_map.1 he; rfl)) rfl (WpR.of_vc ?_)
  have k0 : ∀ h' sv', SlC h' (entVs l) l.length sv' → ∀ m', h'.get m' = some (.map (mapB (cardL lo hi l)) clock) → CallOk Try.prog 73 [cardV lo hi sv' m'] h' (.agg (bL (loQ lo hi l, hiQ lo hi l))) h' := fun h' sv' hs' m' hm' => span2_ok h' lo hi l hS sv' hs' m' clock hm'
  have hlo := loQ_bd hS
  have hhi := hiQ_bd hS
  have oA := outM_ok (s := s) hS (r := loQ lo hi l) hlo
  have oB := outM_ok (s := s) hS (r := hiQ lo hi l) hhi
  have k1 : ∀ r, OkR r → ∀ h' sv', SlC h' (entVs l) l.length sv' → ∀ m', h'.get m' = some (.map (mapB (cardL lo hi l)) clock) → CallOk Try.prog 116 [cardV lo hi sv' m', qV r, .int .i64 s] h' (.agg (bL (outM s l r))) h' := fun r hr h' sv' hs' m' hm' => outermost_ok h' lo hi l hS sv' hs' (cardL lo hi l) clock m' hm' s hs r hr
  generalize loQ lo hi l = a at *
  generalize hiQ lo hi l = b at *
  obtain ⟨x0, hx0⟩ : ∃ x, x = (if betM s y (outM s l b) (outM s l a) then outM s l b else outM s l a) := ⟨_, rfl⟩
  have oX : OkM x0 := by rw [hx0]; split <;> assumption
  have eF : farM s y a b l = farP s y a b l x0 (pairsL l.length) := by unfold farM; rw [← hx0]
  (conv => whnf); (repeat' (first | ((with_reducible refine ifb_mk (fun hc => ?_) (fun hc => ?_)) <;> ((try simp only [decide_eq_true_eq, decide_eq_false_iff_not, Bool.not_eq_true', Bool.not_eq_false', Int.not_lt, Int.not_le, ne_eq, Decidable.not_not, beq_iff_eq, List.cons.injEq, and_true] at hc); (first | (exfalso; omega) | conv => whnf))) | ((with_reducible refine And.intro True.intro ?_); conv => whnf) | ((with_reducible refine CallX.all (f := 105) ?_); refine CallW.inline Try.func105 rfl rfl (Nat.le_of_ble_eq_true rfl) (WpR.of_vc ?_); conv => whnf) | ((with_reducible refine CallX.all ?_); refine CallW.of_ok (k0 _ _ (SlC.own rfl) _ rfl) ?_; conv => whnf) | ((with_reducible refine CallX.all (f := 104) ?_); refine CallW.inline Try.func104 rfl rfl (Nat.le_of_ble_eq_true rfl) (WpR.of_vc ?_); conv => whnf) | ((with_reducible refine RangeX.all ?_); conv => whnf) | ((with_reducible refine CallW.inline (f := 115) Try.func115 rfl rfl (Nat.le_of_ble_eq_true rfl) (WpR.of_vc ?_)); conv => whnf) | ((with_reducible refine And.intro ?hh ?_); (case hh => (unfold InR; (try dsimp only); omega)); conv => whnf) | ((with_reducible refine And.intro ?hh ?_); (case hh => ((try dsimp only); omega)); conv => whnf) | ((with_reducible refine And.intro ?hh ?_); (case hh => ((conv => whnf); (repeat' (first | exact True.intro | rfl | refine And.intro ?_ ?_)); done)); conv => whnf) | fail))
  refine WpR.loopD (ι := Nat) [] [0, 1, 2, 3, 4, 9] [11, 12] [] 16 (fun i => [(10, .int .i64 i)]) (fun i => [(11, .cells (ofL (bL (fndM (outM s l a) x0 i)) 0) true none), (12, .cells (ofL [.bool (isZ i)] 0) true none)]) (fun i => 2 - i) (fun i => i ≤ 2) ?_ (0) (by omega) [] ⟨rfl, rfl, (by (repeat' (first | exact True.intro | rfl | refine And.intro ?_ ?_))), (by (repeat' (first | exact True.intro | rfl | refine And.intro ?_ ?_))), (by (repeat' (first | exact True.intro | rfl | refine And.intro ?_ ?_))), (by (repeat' (first | exact True.intro | exact Or.inl rfl | refine And.intro ?_ ?_ | refine Or.inr ⟨_, rfl, ?_⟩ | exact SubQ.same (n := 1000) (Y := []) (fun _ _ _ => rfl) (by first | exact True.intro | exact ltB_all rfl | exact ltB_ofLb (by first | exact bare0_ints | assumption | (intro v hv; (repeat (rcases List.mem_cons.1 hv with rfl | hv; exact rfl)); cases hv)) | exact ltB_loop rfl rfl | exact hMap _ | exact hMap2 _ | exact grB_lt (by first | exact bare0_ints | assumption | (intro v hv; (repeat (rcases List.mem_cons.1 hv with rfl | hv; exact rfl)); cases hv)) _ | exact ltB_mapB | assumption) (avB_nil _) rfl | exact SubQ.ofL (by first | rfl | simp) (by first | exact bare0_ints | assumption | (intro v hv; (repeat (rcases List.mem_cons.1 hv with rfl | hv; exact rfl)); cases hv)) (by first | exact Or.inl rfl | exact Or.inr rfl) | exact SubQ.fin (by (conv => whnf); (repeat' (first | exact True.intro | rfl | refine And.intro ?_ ?_)); done) (fun h => h) (by first | exact Or.inl rfl | exact Or.inr rfl)))), rfl, rfl⟩ rfl rfl rfl (fun _ => rfl) (by (repeat' (first | exact True.intro | refine And.intro ?_ ?_ | exact avV_nil _ | rfl))) (by (repeat' (first | exact True.intro | (with_reducible exact avB_nil _) | ((with_reducible refine avB_all ?_); rfl) | ((with_reducible refine avB_ofLb ?_); exact (by first | exact bare0_ints | assumption | (intro v hv; (repeat (rcases List.mem_cons.1 hv with rfl | hv; exact rfl)); cases hv))) | ((with_reducible refine ltB_all ?_); rfl) | ((with_reducible refine ltB_ofLb ?_); exact (by first | exact bare0_ints | assumption | (intro v hv; (repeat (rcases List.mem_cons.1 hv with rfl | hv; exact rfl)); cases hv))) | ((with_reducible refine ltB_loop ?_ ?_) <;> rfl) | (with_reducible exact hMap _) | (with_reducible exact hMap2 _) | (with_reducible exact ltB_mapB) | ((with_reducible refine grB_lt ?_ _); exact (by first | exact bare0_ints | assumption | (intro v hv; (repeat (rcases List.mem_cons.1 hv with rfl | hv; exact rfl)); cases hv))) | (with_reducible assumption) | refine And.intro ?_ ?_ | exact (by first | exact True.intro | exact ltB_all rfl | exact ltB_ofLb (by first | exact bare0_ints | assumption | (intro v hv; (repeat (rcases List.mem_cons.1 hv with rfl | hv; exact rfl)); cases hv)) | exact ltB_loop rfl rfl | exact hMap _ | exact hMap2 _ | exact grB_lt (by first | exact bare0_ints | assumption | (intro v hv; (repeat (rcases List.mem_cons.1 hv with rfl | hv; exact rfl)); cases hv)) _ | exact ltB_mapB | assumption)))) (fun _ _ => (by (repeat' (first | exact True.intro | rfl | refine And.intro ?_ ?_ | exact (by decide) | exact (by first | exact True.intro | exact hMap _ | exact hMap2 _ | exact grB_lt (by first | exact bare0_ints | assumption | (intro v hv; (repeat (rcases List.mem_cons.1 hv with rfl | hv; exact rfl)); cases hv)) _ | exact ltB_all rfl | exact ltB_ofLb (by first | exact bare0_ints | assumption | (intro v hv; (repeat (rcases List.mem_cons.1 hv with rfl | hv; exact rfl)); cases hv)) | exact ltB_loop rfl rfl | exact ltB_mapB | assumption))))) (fun _ _ => (by (repeat' (first | exact True.intro | rfl | refine And.intro ?_ ?_ | exact (by decide) | exact (by first | exact True.intro | exact hMap _ | exact hMap2 _ | exact grB_lt (by first | exact bare0_ints | assumption | (intro v hv; (repeat (rcases List.mem_cons.1 hv with rfl | hv; exact rfl)); cases hv)) _ | exact ltB_all rfl | exact ltB_ofLb (by first | exact bare0_ints | assumption | (intro v hv; (repeat (rcases List.mem_cons.1 hv with rfl | hv; exact rfl)); cases hv)) | exact ltB_loop rfl rfl | exact ltB_mapB | assumption))))) (fun _ _ => (by (repeat' (first | exact True.intro | rfl | refine And.intro ?_ ?_)))) rfl
  intro i hi2
  refine WpR.of_vc ?_
  rcases (by omega : i = 0 ∨ i = 1 ∨ i = 2) with rfl | rfl | rfl
  · (conv => whnf); (repeat' (first | ((with_reducible refine ifb_mk (fun hc => ?_) (fun hc => ?_)) <;> ((try simp only [decide_eq_true_eq, decide_eq_false_iff_not, Bool.not_eq_true', Bool.not_eq_false', Int.not_lt, Int.not_le, ne_eq, Decidable.not_not, beq_iff_eq, List.cons.injEq, and_true] at hc); (first | (exfalso; omega) | conv => whnf))) | ((with_reducible refine And.intro True.intro ?_); conv => whnf) | ((with_reducible refine WpR.drawTail (id := 4) mixed 5 [0, 1, 2, 3, 4] [0, 0, 0, 0, 14] ?hh ?hk ?_); (case hh => kernel_rfl); (case hk => kernel_rfl); conv => whnf) | ((with_reducible refine grd_ex ?_); refine ex_ok (k1 a hlo _ _ (SlC.own rfl) _ rfl) ?_; conv => whnf) | ((with_reducible refine And.intro ?hh ?_); (case hh => (unfold InR; (try dsimp only); omega)); conv => whnf) | ((with_reducible refine And.intro ?hh ?_); (case hh => ((try dsimp only); omega)); conv => whnf) | ((with_reducible refine And.intro ?hh ?_); (case hh => ((conv => whnf); (repeat' (first | exact True.intro | rfl | refine And.intro ?_ ?_)); done)); conv => whnf) | fail))
    refine YldX.all ?_
    refine YldW.inline rfl rfl rfl (WpR.of_vc ?_)
    conv => whnf
    refine ⟨rfl, _, rfl, rfl, WpR.of_vc ?_⟩
    (conv => whnf); (repeat' (first | ((with_reducible refine ifb_mk (fun hc => ?_) (fun hc => ?_)) <;> ((try simp only [decide_eq_true_eq, decide_eq_false_iff_not, Bool.not_eq_true', Bool.not_eq_false', Int.not_lt, Int.not_le, ne_eq, Decidable.not_not, beq_iff_eq, List.cons.injEq, and_true] at hc); (first | (exfalso; omega) | conv => whnf))) | ((with_reducible refine And.intro True.intro ?_); conv => whnf) | ((with_reducible refine And.intro ?hh ?_); (case hh => (unfold InR; (try dsimp only); omega)); conv => whnf) | ((with_reducible refine And.intro ?hh ?_); (case hh => ((try dsimp only); omega)); conv => whnf) | ((with_reducible refine And.intro ?hh ?_); (case hh => ((conv => whnf); (repeat' (first | exact True.intro | rfl | refine And.intro ?_ ?_)); done)); conv => whnf) | fail))
    refine ⟨_, _, rfl, ?_⟩
    (conv => whnf); (repeat' (first | ((with_reducible refine ifb_mk (fun hc => ?_) (fun hc => ?_)) <;> ((try simp only [decide_eq_true_eq, decide_eq_false_iff_not, Bool.not_eq_true', Bool.not_eq_false', Int.not_lt, Int.not_le, ne_eq, Decidable.not_not, beq_iff_eq, List.cons.injEq, and_true] at hc); (first | (exfalso; omega) | conv => whnf))) | ((with_reducible refine And.intro True.intro ?_); conv => whnf) | ((with_reducible refine And.intro ?hh ?_); (case hh => (unfold InR; (try dsimp only); omega)); conv => whnf) | ((with_reducible refine And.intro ?hh ?_); (case hh => ((try dsimp only); omega)); conv => whnf) | ((with_reducible refine And.intro ?hh ?_); (case hh => ((conv => whnf); (repeat' (first | exact True.intro | rfl | refine And.intro ?_ ?_)); done)); conv => whnf) | fail))
    exact ⟨1, [], by omega, by omega, ⟨rfl, rfl, (by (repeat' (first | exact True.intro | rfl | refine And.intro ?_ ?_))), (by (repeat' (first | exact True.intro | rfl | refine And.intro ?_ ?_))), (by (repeat' (first | exact True.intro | rfl | refine And.intro ?_ ?_))), (by (repeat' (first | exact True.intro | exact Or.inl rfl | refine And.intro ?_ ?_ | refine Or.inr ⟨_, rfl, ?_⟩ | exact SubQ.same (n := 1000) (Y := []) (fun _ _ _ => rfl) (by first | exact True.intro | exact ltB_all rfl | exact ltB_ofLb (by first | exact bare0_ints | assumption | (intro v hv; (repeat (rcases List.mem_cons.1 hv with rfl | hv; exact rfl)); cases hv)) | exact ltB_loop rfl rfl | exact hMap _ | exact hMap2 _ | exact grB_lt (by first | exact bare0_ints | assumption | (intro v hv; (repeat (rcases List.mem_cons.1 hv with rfl | hv; exact rfl)); cases hv)) _ | exact ltB_mapB | assumption) (avB_nil _) rfl | exact SubQ.ofL (by first | rfl | simp) (by first | exact bare0_ints | assumption | (intro v hv; (repeat (rcases List.mem_cons.1 hv with rfl | hv; exact rfl)); cases hv)) (by first | exact Or.inl rfl | exact Or.inr rfl) | exact SubQ.fin (by (conv => whnf); (repeat' (first | exact True.intro | rfl | refine And.intro ?_ ?_)); done) (fun h => h) (by first | exact Or.inl rfl | exact Or.inr rfl)))), rfl, rfl⟩⟩
  · (conv => whnf); (repeat' (first | ((with_reducible refine ifb_mk (fun hc => ?_) (fun hc => ?_)) <;> ((try simp only [decide_eq_true_eq, decide_eq_false_iff_not, Bool.not_eq_true', Bool.not_eq_false', Int.not_lt, Int.not_le, ne_eq, Decidable.not_not, beq_iff_eq, List.cons.injEq, and_true] at hc); (first | (exfalso; omega) | conv => whnf))) | ((with_reducible refine And.intro True.intro ?_); conv => whnf) | ((with_reducible refine WpR.drawTail (id := 4) mixed 5 [0, 1, 2, 3, 4] [0, 0, 0, 0, 14] ?hh ?hk ?_); (case hh => kernel_rfl); (case hk => kernel_rfl); conv => whnf) | ((with_reducible refine grd_ex ?_); refine ex_ok (k1 b hhi _ _ (SlC.own rfl) _ rfl) ?_; conv => whnf) | ((with_reducible refine And.intro ?hh ?_); (case hh => (unfold InR; (try dsimp only); omega)); conv => whnf) | ((with_reducible refine And.intro ?hh ?_); (case hh => ((try dsimp only); omega)); conv => whnf) | ((with_reducible refine And.intro ?hh ?_); (case hh => ((conv => whnf); (repeat' (first | exact True.intro | rfl | refine And.intro ?_ ?_)); done)); conv => whnf) | fail))
    refine YldX.all ?_
    refine YldW.inline rfl rfl rfl (WpR.of_vc ?_)
    conv => whnf
    refine ⟨rfl, _, rfl, rfl, WpR.of_vc ?_⟩
    (conv => whnf); (repeat' (first | ((with_reducible refine ifb_mk (fun hc => ?_) (fun hc => ?_)) <;> ((try simp only [decide_eq_true_eq, decide_eq_false_iff_not, Bool.not_eq_true', Bool.not_eq_false', Int.not_lt, Int.not_le, ne_eq, Decidable.not_not, beq_iff_eq, List.cons.injEq, and_true] at hc); (first | (exfalso; omega) | conv => whnf))) | ((with_reducible refine And.intro True.intro ?_); conv => whnf) | ((with_reducible refine CallX.all (f := 106) ?_); refine CallW.inline Try.func106 rfl rfl (Nat.le_of_ble_eq_true rfl) (WpR.of_vc ?_); conv => whnf) | ((with_reducible refine WpR.draw (id := 1) mixed [0, 1, 2, 4, 5, 3, 6, 7, 8] [0, 0, 0, 6, 0, 0, 62, 127, 255] ?hh ?_); (case hh => kernel_rfl); conv => whnf) | ((with_reducible refine grd_ex ?_); refine ex_ok (placeM_ok _ (outM s l a) y oA hy) ?_; conv => whnf) | ((with_reducible refine grd_ex ?_); refine ex_ok (placeM_ok _ (outM s l b) y oB hy) ?_; conv => whnf) | ((with_reducible refine grd_ex ?_); refine ex_ok (betM_ok _ s y (outM s l b) (outM s l a) oB oA hy) ?_; conv => whnf) | ((with_reducible refine And.intro ?hh ?_); (case hh => (unfold InR; (try dsimp only); omega)); conv => whnf) | ((with_reducible refine And.intro ?hh ?_); (case hh => ((try dsimp only); omega)); conv => whnf) | ((with_reducible refine And.intro ?hh ?_); (case hh => ((conv => whnf); (repeat' (first | exact True.intro | rfl | refine And.intro ?_ ?_)); done)); conv => whnf) | fail))
    · rw [if_pos hc] at hx0
      refine ⟨_, _, rfl, ?_⟩
      (conv => whnf); (repeat' (first | ((with_reducible refine ifb_mk (fun hc => ?_) (fun hc => ?_)) <;> ((try simp only [decide_eq_true_eq, decide_eq_false_iff_not, Bool.not_eq_true', Bool.not_eq_false', Int.not_lt, Int.not_le, ne_eq, Decidable.not_not, beq_iff_eq, List.cons.injEq, and_true] at hc); (first | (exfalso; omega) | conv => whnf))) | ((with_reducible refine And.intro True.intro ?_); conv => whnf) | ((with_reducible refine And.intro ?hh ?_); (case hh => (unfold InR; (try dsimp only); omega)); conv => whnf) | ((with_reducible refine And.intro ?hh ?_); (case hh => ((try dsimp only); omega)); conv => whnf) | ((with_reducible refine And.intro ?hh ?_); (case hh => ((conv => whnf); (repeat' (first | exact True.intro | rfl | refine And.intro ?_ ?_)); done)); conv => whnf) | fail))
      exact ⟨2, [], by omega, by omega, by rw [hx0]; exact ⟨rfl, rfl, (by (repeat' (first | exact True.intro | rfl | refine And.intro ?_ ?_))), (by (repeat' (first | exact True.intro | rfl | refine And.intro ?_ ?_))), (by (repeat' (first | exact True.intro | rfl | refine And.intro ?_ ?_))), (by (repeat' (first | exact True.intro | exact Or.inl rfl | refine And.intro ?_ ?_ | refine Or.inr ⟨_, rfl, ?_⟩ | exact SubQ.same (n := 1000) (Y := []) (fun _ _ _ => rfl) (by first | exact True.intro | exact ltB_all rfl | exact ltB_ofLb (by first | exact bare0_ints | assumption | (intro v hv; (repeat (rcases List.mem_cons.1 hv with rfl | hv; exact rfl)); cases hv)) | exact ltB_loop rfl rfl | exact hMap _ | exact hMap2 _ | exact grB_lt (by first | exact bare0_ints | assumption | (intro v hv; (repeat (rcases List.mem_cons.1 hv with rfl | hv; exact rfl)); cases hv)) _ | exact ltB_mapB | assumption) (avB_nil _) rfl | exact SubQ.ofL (by first | rfl | simp) (by first | exact bare0_ints | assumption | (intro v hv; (repeat (rcases List.mem_cons.1 hv with rfl | hv; exact rfl)); cases hv)) (by first | exact Or.inl rfl | exact Or.inr rfl) | exact SubQ.fin (by (conv => whnf); (repeat' (first | exact True.intro | rfl | refine And.intro ?_ ?_)); done) (fun h => h) (by first | exact Or.inl rfl | exact Or.inr rfl)))), rfl, rfl⟩⟩
    · rw [if_neg (by rw [hc]; exact Bool.false_ne_true)] at hx0
      refine ⟨_, _, rfl, ?_⟩
      (conv => whnf); (repeat' (first | ((with_reducible refine ifb_mk (fun hc => ?_) (fun hc => ?_)) <;> ((try simp only [decide_eq_true_eq, decide_eq_false_iff_not, Bool.not_eq_true', Bool.not_eq_false', Int.not_lt, Int.not_le, ne_eq, Decidable.not_not, beq_iff_eq, List.cons.injEq, and_true] at hc); (first | (exfalso; omega) | conv => whnf))) | ((with_reducible refine And.intro True.intro ?_); conv => whnf) | ((with_reducible refine And.intro ?hh ?_); (case hh => (unfold InR; (try dsimp only); omega)); conv => whnf) | ((with_reducible refine And.intro ?hh ?_); (case hh => ((try dsimp only); omega)); conv => whnf) | ((with_reducible refine And.intro ?hh ?_); (case hh => ((conv => whnf); (repeat' (first | exact True.intro | rfl | refine And.intro ?_ ?_)); done)); conv => whnf) | fail))
      exact ⟨2, [], by omega, by omega, by rw [hx0]; exact ⟨rfl, rfl, (by (repeat' (first | exact True.intro | rfl | refine And.intro ?_ ?_))), (by (repeat' (first | exact True.intro | rfl | refine And.intro ?_ ?_))), (by (repeat' (first | exact True.intro | rfl | refine And.intro ?_ ?_))), (by (repeat' (first | exact True.intro | exact Or.inl rfl | refine And.intro ?_ ?_ | refine Or.inr ⟨_, rfl, ?_⟩ | exact SubQ.same (n := 1000) (Y := []) (fun _ _ _ => rfl) (by first | exact True.intro | exact ltB_all rfl | exact ltB_ofLb (by first | exact bare0_ints | assumption | (intro v hv; (repeat (rcases List.mem_cons.1 hv with rfl | hv; exact rfl)); cases hv)) | exact ltB_loop rfl rfl | exact hMap _ | exact hMap2 _ | exact grB_lt (by first | exact bare0_ints | assumption | (intro v hv; (repeat (rcases List.mem_cons.1 hv with rfl | hv; exact rfl)); cases hv)) _ | exact ltB_mapB | assumption) (avB_nil _) rfl | exact SubQ.ofL (by first | rfl | simp) (by first | exact bare0_ints | assumption | (intro v hv; (repeat (rcases List.mem_cons.1 hv with rfl | hv; exact rfl)); cases hv)) (by first | exact Or.inl rfl | exact Or.inr rfl) | exact SubQ.fin (by (conv => whnf); (repeat' (first | exact True.intro | rfl | refine And.intro ?_ ?_)); done) (fun h => h) (by first | exact Or.inl rfl | exact Or.inr rfl)))), rfl, rfl⟩⟩
  (conv => whnf); (repeat' (first | ((with_reducible refine ifb_mk (fun hc => ?_) (fun hc => ?_)) <;> ((try simp only [decide_eq_true_eq, decide_eq_false_iff_not, Bool.not_eq_true', Bool.not_eq_false', Int.not_lt, Int.not_le, ne_eq, Decidable.not_not, beq_iff_eq, List.cons.injEq, and_true] at hc); (first | (exfalso; omega) | conv => whnf))) | ((with_reducible refine And.intro True.intro ?_); conv => whnf) | ((with_reducible refine CallX.all (f := 99) ?_); refine CallW.inline Try.func99 rfl rfl (Nat.le_of_ble_eq_true rfl) (WpR.of_vc ?_); conv => whnf) | ((with_reducible refine RangeX.all ?_); conv => whnf) | ((with_reducible refine And.intro ?hh ?_); (case hh => (unfold InR; (try dsimp only); omega)); conv => whnf) | ((with_reducible refine And.intro ?hh ?_); (case hh => ((try dsimp only); omega)); conv => whnf) | ((with_reducible refine And.intro ?hh ?_); (case hh => ((conv => whnf); (repeat' (first | exact True.intro | rfl | refine And.intro ?_ ?_)); done)); conv => whnf) | fail))
  refine pairs_use (by omega) (fun k => [(11, .cells (ofL (bL (farP s y a b l x0 ((pairsL l.length).take k))) 0) true none), (12, .cells (ofL [.bool false] 0) true none)]) 20 [11, 12] [] ⟨(by (conv => whnf); exact rfl), rfl, (by (repeat' (first | exact True.intro | (with_reducible exact avB_nil _) | ((with_reducible refine avB_all ?_); rfl) | ((with_reducible refine avB_ofLb ?_); exact (by first | exact bare0_ints | assumption | (intro v hv; (repeat (rcases List.mem_cons.1 hv with rfl | hv; exact rfl)); cases hv))) | ((with_reducible refine ltB_all ?_); rfl) | ((with_reducible refine ltB_ofLb ?_); exact (by first | exact bare0_ints | assumption | (intro v hv; (repeat (rcases List.mem_cons.1 hv with rfl | hv; exact rfl)); cases hv))) | ((with_reducible refine ltB_loop ?_ ?_) <;> rfl) | (with_reducible exact hMap _) | (with_reducible exact hMap2 _) | (with_reducible exact ltB_mapB) | ((with_reducible refine grB_lt ?_ _); exact (by first | exact bare0_ints | assumption | (intro v hv; (repeat (rcases List.mem_cons.1 hv with rfl | hv; exact rfl)); cases hv))) | (with_reducible assumption) | refine And.intro ?_ ?_ | exact (by first | exact True.intro | exact ltB_all rfl | exact ltB_ofLb (by first | exact bare0_ints | assumption | (intro v hv; (repeat (rcases List.mem_cons.1 hv with rfl | hv; exact rfl)); cases hv)) | exact ltB_loop rfl rfl | exact hMap _ | exact hMap2 _ | exact grB_lt (by first | exact bare0_ints | assumption | (intro v hv; (repeat (rcases List.mem_cons.1 hv with rfl | hv; exact rfl)); cases hv)) _ | exact ltB_mapB | assumption)))), rfl, rfl⟩ [] ⟨(by (repeat' (first | exact True.intro | rfl | refine And.intro ?_ ?_))), (by (repeat' (first | exact True.intro | exact Or.inl rfl | refine And.intro ?_ ?_ | refine Or.inr ⟨_, rfl, ?_⟩ | exact SubQ.same (n := 1000) (Y := []) (fun _ _ _ => rfl) (by first | exact True.intro | exact ltB_all rfl | exact ltB_ofLb (by first | exact bare0_ints | assumption | (intro v hv; (repeat (rcases List.mem_cons.1 hv with rfl | hv; exact rfl)); cases hv)) | exact ltB_loop rfl rfl | exact hMap _ | exact hMap2 _ | exact grB_lt (by first | exact bare0_ints | assumption | (intro v hv; (repeat (rcases List.mem_cons.1 hv with rfl | hv; exact rfl)); cases hv)) _ | exact ltB_mapB | assumption) (avB_nil _) rfl | exact SubQ.ofL (by first | rfl | simp) (by first | exact bare0_ints | assumption | (intro v hv; (repeat (rcases List.mem_cons.1 hv with rfl | hv; exact rfl)); cases hv)) (by first | exact Or.inl rfl | exact Or.inr rfl) | exact SubQ.fin (by (conv => whnf); (repeat' (first | exact True.intro | rfl | refine And.intro ?_ ?_)); done) (fun h => h) (by first | exact Or.inl rfl | exact Or.inr rfl)))), rfl, rfl⟩ (fun k => ⟨rfl, (by (repeat' (first | exact True.intro | rfl | refine And.intro ?_ ?_ | exact (by decide) | exact (by first | exact True.intro | exact hMap _ | exact hMap2 _ | exact grB_lt (by first | exact bare0_ints | assumption | (intro v hv; (repeat (rcases List.mem_cons.1 hv with rfl | hv; exact rfl)); cases hv)) _ | exact ltB_all rfl | exact ltB_ofLb (by first | exact bare0_ints | assumption | (intro v hv; (repeat (rcases List.mem_cons.1 hv with rfl | hv; exact rfl)); cases hv)) | exact ltB_loop rfl rfl | exact ltB_mapB | assumption)))), (by (repeat' (first | exact True.intro | rfl | refine And.intro ?_ ?_)))⟩) (fun k => rfl) (fun k => rfl) rfl rfl rfl ⟨rfl, rfl, rfl⟩ (fun k p hp => ?_) (fun v N hN => ?_)
  · refine YldW.inline rfl rfl rfl (WpR.of_vc ?_)
    conv => whnf
    refine ⟨rfl, _, rfl, rfl, WpR.of_vc ?_⟩
    have hx := farP_ok hS (s := s) (y := y) (a := a) (b := b) oX (L := (pairsL l.length).take k) (fun q hq => List.mem_of_mem_take hq)
    rw [farP_take hp]
    generalize farP s y a b l x0 ((pairsL l.length).take k) = x at *
    rcases pairsL_mem.1 (List.mem_of_getElem? hp) with rfl | ⟨i, j, hij, hj, rfl⟩
    · have e1 : stepM s y a b l x (-1, -1) = x := rfl
      (conv => whnf); (repeat' (first | ((with_reducible refine ifb_mk (fun hc => ?_) (fun hc => ?_)) <;> ((try simp only [decide_eq_true_eq, decide_eq_false_iff_not, Bool.not_eq_true', Bool.not_eq_false', Int.not_lt, Int.not_le, ne_eq, Decidable.not_not, beq_iff_eq, List.cons.injEq, and_true] at hc); (first | (exfalso; omega) | conv => whnf))) | ((with_reducible refine And.intro True.intro ?_); conv => whnf) | ((with_reducible refine And.intro ?hh ?_); (case hh => (unfold InR; (try dsimp only); omega)); conv => whnf) | ((with_reducible refine And.intro ?hh ?_); (case hh => ((try dsimp only); omega)); conv => whnf) | ((with_reducible refine And.intro ?hh ?_); (case hh => ((conv => whnf); (repeat' (first | exact True.intro | rfl | refine And.intro ?_ ?_)); done)); conv => whnf) | fail))
      rw [e1]
      exact ⟨_, _, rfl, rfl, [], ⟨(by (repeat' (first | exact True.intro | rfl | refine And.intro ?_ ?_))), (by (repeat' (first | exact True.intro | exact Or.inl rfl | refine And.intro ?_ ?_ | refine Or.inr ⟨_, rfl, ?_⟩ | exact SubQ.same (n := 1000) (Y := []) (fun _ _ _ => rfl) (by first | exact True.intro | exact ltB_all rfl | exact ltB_ofLb (by first | exact bare0_ints | assumption | (intro v hv; (repeat (rcases List.mem_cons.1 hv with rfl | hv; exact rfl)); cases hv)) | exact ltB_loop rfl rfl | exact hMap _ | exact hMap2 _ | exact grB_lt (by first | exact bare0_ints | assumption | (intro v hv; (repeat (rcases List.mem_cons.1 hv with rfl | hv; exact rfl)); cases hv)) _ | exact ltB_mapB | assumption) (avB_nil _) rfl | exact SubQ.ofL (by first | rfl | simp) (by first | exact bare0_ints | assumption | (intro v hv; (repeat (rcases List.mem_cons.1 hv with rfl | hv; exact rfl)); cases hv)) (by first | exact Or.inl rfl | exact Or.inr rfl) | exact SubQ.fin (by (conv => whnf); (repeat' (first | exact True.intro | rfl | refine And.intro ?_ ?_)); done) (fun h => h) (by first | exact Or.inl rfl | exact Or.inr rfl)))), rfl, rfl⟩⟩
    · have hgi : l[i]? = some l[i] := List.getElem?_eq_getElem _
      have hgj : l[j]? = some l[j] := List.getElem?_eq_getElem _
      generalize l[i] = e at hgi
      generalize l[j] = f at hgj
      have hcr := cross_okR (s := s) (hS.ent _ _ hgi) (hS.ent _ _ hgj) (hS.inc _ _ _ _ hij hgi hgj)
      have k2 : ∀ h' sv', SlC h' (entVs l) l.length sv' → ∀ m', h'.get m' = some (.map (mapB (cardL lo hi l)) clock) → CallOk Try.prog 117 [cardV lo hi sv' m', pV ((i : Int), (j : Int)), .int .i64 s] h' (qV (crossQ s e f)) h' := fun h' sv' hs' m' hm' => crossing_ok h' lo hi l hS sv' hs' (cardL lo hi l) clock m' hm' s hs i j e f hij hgi hgj
      have k3 := k1 _ hcr
      have oC := outM_ok (s := s) hS hcr
      have e2 := cornF_two (s := s) (a := a) (b := b) hgi hgj
      have k4 := fun h' => betM_ok h' s y (outM s l (crossQ s e f)) x oC hx hy
      obtain ⟨r, hr⟩ : ∃ r, r = crossQ s e f := ⟨_, rfl⟩
      rewrite [← hr] at hcr oC e2 k3 k4
      simp only [← hr] at k2
      obtain ⟨mo, hmo⟩ : ∃ mo, mo = outM s l r := ⟨_, rfl⟩
      rewrite [← hmo] at oC e2 k4
      rewrite [← hmo] at k3
      (conv => whnf); (repeat' (first | ((with_reducible refine ifb_mk (fun hc => ?_) (fun hc => ?_)) <;> ((try simp only [decide_eq_true_eq, decide_eq_false_iff_not, Bool.not_eq_true', Bool.not_eq_false', Int.not_lt, Int.not_le, ne_eq, Decidable.not_not, beq_iff_eq, List.cons.injEq, and_true] at hc); (first | (exfalso; omega) | conv => whnf))) | ((with_reducible refine And.intro True.intro ?_); conv => whnf) | ((with_reducible refine CallX.all ?_); refine CallW.of_ok (k2 _ _ (SlC.own rfl) _ rfl) ?_; conv => whnf) | ((with_reducible refine And.intro ?hh ?_); (case hh => (unfold InR; (try dsimp only); omega)); conv => whnf) | ((with_reducible refine And.intro ?hh ?_); (case hh => ((try dsimp only); omega)); conv => whnf) | ((with_reducible refine And.intro ?hh ?_); (case hh => ((conv => whnf); (repeat' (first | exact True.intro | rfl | refine And.intro ?_ ?_)); done)); conv => whnf) | fail))
      (conv => whnf); (repeat' (first | ((with_reducible refine ifb_mk (fun hc => ?_) (fun hc => ?_)) <;> ((try simp only [decide_eq_true_eq, decide_eq_false_iff_not, Bool.not_eq_true', Bool.not_eq_false', Int.not_lt, Int.not_le, ne_eq, Decidable.not_not, beq_iff_eq, List.cons.injEq, and_true] at hc); (first | (exfalso; omega) | conv => whnf))) | ((with_reducible refine And.intro True.intro ?_); conv => whnf) | ((with_reducible refine WpR.drawTail (id := 10) mixed 18 [0, 1, 2, 3, 4, 5, 6, 7, 8, 9, 10, 11, 12, 13, 14, 15, 16, 17] [0, 1, 0, 7, 15, 31, 63, 63, 191, 511, 1023, 2047, 4095, 8191, 8191, 8191, 8191, 122879] ?hh ?hk ?_); (case hh => kernel_rfl); (case hk => kernel_rfl); conv => whnf) | ((with_reducible refine grd_ex ?_); refine ex_ok (compare_ok _ _ _ _ _ (InR_mul hlo.1 hcr.2) (InR_mul hcr.1 hlo.2)) ?_; conv => whnf) | ((with_reducible refine grd_ex ?_); refine ex_ok (compare_ok _ _ _ _ _ (InR_mul hcr.1 hhi.2) (InR_mul hhi.1 hcr.2)) ?_; conv => whnf) | ((with_reducible refine grd_ex ?_); refine ex_ok (k3 _ _ (SlC.own rfl) _ rfl) ?_; conv => whnf) | ((with_reducible refine And.intro ?hh ?_); (case hh => (unfold InR; (try dsimp only); omega)); conv => whnf) | ((with_reducible refine And.intro ?hh ?_); (case hh => ((try dsimp only); omega)); conv => whnf) | ((with_reducible refine And.intro ?hh ?_); (case hh => ((conv => whnf); (repeat' (first | exact True.intro | rfl | refine And.intro ?_ ?_)); done)); conv => whnf) | fail))
      · rename_i g1
        rewrite [if_pos ⟨by grind [cmp3], by grind [cmp3]⟩] at e2
        refine YldX.all ?_
        refine YldW.inline rfl rfl rfl (WpR.of_vc ?_)
        conv => whnf
        refine ⟨rfl, _, rfl, rfl, WpR.of_vc ?_⟩
        (conv => whnf); (repeat' (first | ((with_reducible refine ifb_mk (fun hc => ?_) (fun hc => ?_)) <;> ((try simp only [decide_eq_true_eq, decide_eq_false_iff_not, Bool.not_eq_true', Bool.not_eq_false', Int.not_lt, Int.not_le, ne_eq, Decidable.not_not, beq_iff_eq, List.cons.injEq, and_true] at hc); (first | (exfalso; omega) | conv => whnf))) | ((with_reducible refine And.intro True.intro ?_); conv => whnf) | ((with_reducible refine CallX.all (f := 106) ?_); refine CallW.inline Try.func106 rfl rfl (Nat.le_of_ble_eq_true rfl) (WpR.of_vc ?_); conv => whnf) | ((with_reducible refine WpR.draw (id := 1) mixed [0, 1, 2, 4, 5, 3, 6, 7, 8] [0, 0, 0, 6, 0, 0, 62, 127, 255] ?hh ?_); (case hh => kernel_rfl); conv => whnf) | ((with_reducible refine grd_ex ?_); refine ex_ok (placeM_ok _ mo y oC hy) ?_; conv => whnf) | ((with_reducible refine grd_ex ?_); refine ex_ok (placeM_ok _ x y hx hy) ?_; conv => whnf) | ((with_reducible refine grd_ex ?_); refine ex_ok (k4 _) ?_; conv => whnf) | ((with_reducible refine And.intro ?hh ?_); (case hh => (unfold InR; (try dsimp only); omega)); conv => whnf) | ((with_reducible refine And.intro ?hh ?_); (case hh => ((try dsimp only); omega)); conv => whnf) | ((with_reducible refine And.intro ?hh ?_); (case hh => ((conv => whnf); (repeat' (first | exact True.intro | rfl | refine And.intro ?_ ?_)); done)); conv => whnf) | fail))
        · have e3 : stepM s y a b l x ((i : Int), (j : Int)) = mo := by unfold stepM; rw [e2]; exact if_pos hc
          refine ⟨_, _, rfl, ?_⟩
          (conv => whnf); (repeat' (first | ((with_reducible refine ifb_mk (fun hc => ?_) (fun hc => ?_)) <;> ((try simp only [decide_eq_true_eq, decide_eq_false_iff_not, Bool.not_eq_true', Bool.not_eq_false', Int.not_lt, Int.not_le, ne_eq, Decidable.not_not, beq_iff_eq, List.cons.injEq, and_true] at hc); (first | (exfalso; omega) | conv => whnf))) | ((with_reducible refine And.intro True.intro ?_); conv => whnf) | ((with_reducible refine And.intro ?hh ?_); (case hh => (unfold InR; (try dsimp only); omega)); conv => whnf) | ((with_reducible refine And.intro ?hh ?_); (case hh => ((try dsimp only); omega)); conv => whnf) | ((with_reducible refine And.intro ?hh ?_); (case hh => ((conv => whnf); (repeat' (first | exact True.intro | rfl | refine And.intro ?_ ?_)); done)); conv => whnf) | fail))
          rewrite [e3]
          exact ⟨_, _, rfl, rfl, [], ⟨(by (repeat' (first | exact True.intro | rfl | refine And.intro ?_ ?_))), (by (repeat' (first | exact True.intro | exact Or.inl rfl | refine And.intro ?_ ?_ | refine Or.inr ⟨_, rfl, ?_⟩ | exact SubQ.same (n := 1000) (Y := []) (fun _ _ _ => rfl) (by first | exact True.intro | exact ltB_all rfl | exact ltB_ofLb (by first | exact bare0_ints | assumption | (intro v hv; (repeat (rcases List.mem_cons.1 hv with rfl | hv; exact rfl)); cases hv)) | exact ltB_loop rfl rfl | exact hMap _ | exact hMap2 _ | exact grB_lt (by first | exact bare0_ints | assumption | (intro v hv; (repeat (rcases List.mem_cons.1 hv with rfl | hv; exact rfl)); cases hv)) _ | exact ltB_mapB | assumption) (avB_nil _) rfl | exact SubQ.ofL (by first | rfl | simp) (by first | exact bare0_ints | assumption | (intro v hv; (repeat (rcases List.mem_cons.1 hv with rfl | hv; exact rfl)); cases hv)) (by first | exact Or.inl rfl | exact Or.inr rfl) | exact SubQ.fin (by (conv => whnf); (repeat' (first | exact True.intro | rfl | refine And.intro ?_ ?_)); done) (fun h => h) (by first | exact Or.inl rfl | exact Or.inr rfl)))), rfl, rfl⟩⟩
        · have e3 : stepM s y a b l x ((i : Int), (j : Int)) = x := by unfold stepM; rw [e2]; exact if_neg (by rw [hc]; exact Bool.false_ne_true)
          refine ⟨_, _, rfl, ?_⟩
          (conv => whnf); (repeat' (first | ((with_reducible refine ifb_mk (fun hc => ?_) (fun hc => ?_)) <;> ((try simp only [decide_eq_true_eq, decide_eq_false_iff_not, Bool.not_eq_true', Bool.not_eq_false', Int.not_lt, Int.not_le, ne_eq, Decidable.not_not, beq_iff_eq, List.cons.injEq, and_true] at hc); (first | (exfalso; omega) | conv => whnf))) | ((with_reducible refine And.intro True.intro ?_); conv => whnf) | ((with_reducible refine And.intro ?hh ?_); (case hh => (unfold InR; (try dsimp only); omega)); conv => whnf) | ((with_reducible refine And.intro ?hh ?_); (case hh => ((try dsimp only); omega)); conv => whnf) | ((with_reducible refine And.intro ?hh ?_); (case hh => ((conv => whnf); (repeat' (first | exact True.intro | rfl | refine And.intro ?_ ?_)); done)); conv => whnf) | fail))
          rewrite [e3]
          exact ⟨_, _, rfl, rfl, [], ⟨(by (repeat' (first | exact True.intro | rfl | refine And.intro ?_ ?_))), (by (repeat' (first | exact True.intro | exact Or.inl rfl | refine And.intro ?_ ?_ | refine Or.inr ⟨_, rfl, ?_⟩ | exact SubQ.same (n := 1000) (Y := []) (fun _ _ _ => rfl) (by first | exact True.intro | exact ltB_all rfl | exact ltB_ofLb (by first | exact bare0_ints | assumption | (intro v hv; (repeat (rcases List.mem_cons.1 hv with rfl | hv; exact rfl)); cases hv)) | exact ltB_loop rfl rfl | exact hMap _ | exact hMap2 _ | exact grB_lt (by first | exact bare0_ints | assumption | (intro v hv; (repeat (rcases List.mem_cons.1 hv with rfl | hv; exact rfl)); cases hv)) _ | exact ltB_mapB | assumption) (avB_nil _) rfl | exact SubQ.ofL (by first | rfl | simp) (by first | exact bare0_ints | assumption | (intro v hv; (repeat (rcases List.mem_cons.1 hv with rfl | hv; exact rfl)); cases hv)) (by first | exact Or.inl rfl | exact Or.inr rfl) | exact SubQ.fin (by (conv => whnf); (repeat' (first | exact True.intro | rfl | refine And.intro ?_ ?_)); done) (fun h => h) (by first | exact Or.inl rfl | exact Or.inr rfl)))), rfl, rfl⟩⟩
      · rewrite [if_neg (by grind [cmp3])] at e2
        have e3 : stepM s y a b l x ((i : Int), (j : Int)) = x := by unfold stepM; rw [e2]
        rewrite [e3]
        exact ⟨_, _, rfl, rfl, [], ⟨(by (repeat' (first | exact True.intro | rfl | refine And.intro ?_ ?_))), (by (repeat' (first | exact True.intro | exact Or.inl rfl | refine And.intro ?_ ?_ | refine Or.inr ⟨_, rfl, ?_⟩ | exact SubQ.same (n := 1000) (Y := []) (fun _ _ _ => rfl) (by first | exact True.intro | exact ltB_all rfl | exact ltB_ofLb (by first | exact bare0_ints | assumption | (intro v hv; (repeat (rcases List.mem_cons.1 hv with rfl | hv; exact rfl)); cases hv)) | exact ltB_loop rfl rfl | exact hMap _ | exact hMap2 _ | exact grB_lt (by first | exact bare0_ints | assumption | (intro v hv; (repeat (rcases List.mem_cons.1 hv with rfl | hv; exact rfl)); cases hv)) _ | exact ltB_mapB | assumption) (avB_nil _) rfl | exact SubQ.ofL (by first | rfl | simp) (by first | exact bare0_ints | assumption | (intro v hv; (repeat (rcases List.mem_cons.1 hv with rfl | hv; exact rfl)); cases hv)) (by first | exact Or.inl rfl | exact Or.inr rfl) | exact SubQ.fin (by (conv => whnf); (repeat' (first | exact True.intro | rfl | refine And.intro ?_ ?_)); done) (fun h => h) (by first | exact Or.inl rfl | exact Or.inr rfl)))), rfl, rfl⟩⟩
      · rewrite [if_neg (by grind [cmp3])] at e2
        have e3 : stepM s y a b l x ((i : Int), (j : Int)) = x := by unfold stepM; rw [e2]
        rewrite [e3]
        exact ⟨_, _, rfl, rfl, [], ⟨(by (repeat' (first | exact True.intro | rfl | refine And.intro ?_ ?_))), (by (repeat' (first | exact True.intro | exact Or.inl rfl | refine And.intro ?_ ?_ | refine Or.inr ⟨_, rfl, ?_⟩ | exact SubQ.same (n := 1000) (Y := []) (fun _ _ _ => rfl) (by first | exact True.intro | exact ltB_all rfl | exact ltB_ofLb (by first | exact bare0_ints | assumption | (intro v hv; (repeat (rcases List.mem_cons.1 hv with rfl | hv; exact rfl)); cases hv)) | exact ltB_loop rfl rfl | exact hMap _ | exact hMap2 _ | exact grB_lt (by first | exact bare0_ints | assumption | (intro v hv; (repeat (rcases List.mem_cons.1 hv with rfl | hv; exact rfl)); cases hv)) _ | exact ltB_mapB | assumption) (avB_nil _) rfl | exact SubQ.ofL (by first | rfl | simp) (by first | exact bare0_ints | assumption | (intro v hv; (repeat (rcases List.mem_cons.1 hv with rfl | hv; exact rfl)); cases hv)) (by first | exact Or.inl rfl | exact Or.inr rfl) | exact SubQ.fin (by (conv => whnf); (repeat' (first | exact True.intro | rfl | refine And.intro ?_ ?_)); done) (fun h => h) (by first | exact Or.inl rfl | exact Or.inr rfl)))), rfl, rfl⟩⟩
  · (conv => whnf); (repeat' (first | ((with_reducible refine ifb_mk (fun hc => ?_) (fun hc => ?_)) <;> ((try simp only [decide_eq_true_eq, decide_eq_false_iff_not, Bool.not_eq_true', Bool.not_eq_false', Int.not_lt, Int.not_le, ne_eq, Decidable.not_not, beq_iff_eq, List.cons.injEq, and_true] at hc); (first | (exfalso; omega) | conv => whnf))) | ((with_reducible refine And.intro True.intro ?_); conv => whnf) | ((with_reducible refine And.intro ?hh ?_); (case hh => (unfold InR; (try dsimp only); omega)); conv => whnf) | ((with_reducible refine And.intro ?hh ?_); (case hh => ((try dsimp only); omega)); conv => whnf) | ((with_reducible refine And.intro ?hh ?_); (case hh => ((conv => whnf); (repeat' (first | exact True.intro | rfl | refine And.intro ?_ ?_)); done)); conv => whnf) | fail))
    rw [hN, List.take_length, eF]
    (refine ⟨[], ?_, rfl, rfl, trivial, (by (repeat' (first | exact True.intro | rfl | refine And.intro ?_ ?_)))⟩; simp only [renV, renL]; (first | done | rfl | simp | grind))
end Go.Proofs.D

namespace Go.Proofs.D
open Go.As
set_option maxRecDepth 20000
set_option linter.unusedVariables false
set_option linter.unusedSimpArgs false

/-! ### Rate, Motion, Place -/

def plErr (lo hi : Int) (l : List E) (y : Int) : Int := if starErr lo hi l = 0 then (if 0 ≤ y ∧ y ≤ 200 then staErr lo hi l else 2) else starErr lo hi l
def rateA (lo hi : Int) (l : List E) : Bd × Int := if staErr lo hi l = 0 then ((loQ lo hi l, hiQ lo hi l), 0) else (((0, 0), (0, 0)), staErr lo hi l)
def farA (s : Int) (lo hi : Int) (l : List E) (y : Int) : Mo := farM s y (loQ lo hi l) (hiQ lo hi l) l
def motA (lo hi : Int) (l : List E) (y : Int) (high : Bool) : Mo × Int := if plErr lo hi l y = 0 then (farA (sideN high) lo hi l y, 0) else (((0, 0), (0, 0)), plErr lo hi l y)
def plcA (lo hi : Int) (l : List E) (y : Int) : Bd × Int := if plErr lo hi l y = 0 then ((plcQ (farA 0 lo hi l y) y, plcQ (farA 1 lo hi l y) y), 0) else (((0, 0), (0, 0)), plErr lo hi l y)

theorem plErr_ok {lo hi : Int} {l : List E} {y : Int} (h : plErr lo hi l y = 0) : starErr lo hi l = 0 ∧ (0 ≤ y ∧ y ≤ 200) ∧ staErr lo hi l = 0 := by unfold plErr at h; grind

theorem farA_ok {lo hi : Int} {l : List E} (hS : OkS lo hi l) (s y : Int) : OkM (farA s lo hi l y) := by
  unfold farA farM
  refine farP_ok hS ?_ (fun p hp => hp)
  split
  · exact outM_ok hS (hiQ_bd hS)
  · exact outM_ok hS (loQ_bd hS)

theorem rate_ok (h : H) (lo hi : Int) (l : List E) (sv : V) (hl : l.length ≤ 9223372036854775807) (hs : SlC h (entVs l) l.length sv) :
    CallOk Try.prog 27 [starV lo hi sv] h (.tup [qV (rateA lo hi l).1.1, qV (rateA lo hi l).1.2, .int .i64 (rateA lo hi l).2]) h := by
  obtain ⟨vo, svC, hsv, hca, hvw⟩ := hs.view 0
  refine CallOk.run Try.func27 rfl rfl (argsC := [starV lo hi svC]) (Nat.le_of_ble_eq_true rfl) [vo] (.cons (CaL.agg (.cons (.bare rfl) (.cons (.bare rfl) (.cons (hca _ rfl) .nil)))) .nil) (viewMc1 entVs_bare hvw) rfl (WpR.of_vc ?_)
  have hBare := @entVs_bare l
  cases hsv with
  | nil h0 =>
    have e1 : starErr lo hi l = 6 := by unfold starErr; rw [if_pos (by omega)]
    have e2 : staErr lo hi l ≠ 0 := by unfold staErr; grind
    have e3 : rateA lo hi l = (((0, 0), (0, 0)), staErr lo hi l) := by unfold rateA; rw [if_neg e2]
    (conv => whnf); (repeat' (first | ((with_reducible refine ifb_mk (fun hc => ?_) (fun hc => ?_)) <;> ((try simp only [decide_eq_true_eq, decide_eq_false_iff_not, Bool.not_eq_true', Bool.not_eq_false', Int.not_lt, Int.not_le, ne_eq, Decidable.not_not, beq_iff_eq, List.cons.injEq, and_true] at hc); (first | (exfalso; omega) | conv => whnf))) | ((with_reducible refine And.intro True.intro ?_); conv => whnf) | ((with_reducible refine CallX.all ?_); refine CallW.of_ok (agreed_bad _ lo hi l _ hl (SlC.none h0) e2) ?_; conv => whnf) | ((with_reducible refine And.intro ?hh ?_); (case hh => (unfold InR; (try dsimp only); omega)); conv => whnf) | ((with_reducible refine And.intro ?hh ?_); (case hh => ((try dsimp only); omega)); conv => whnf) | ((with_reducible refine And.intro ?hh ?_); (case hh => ((conv => whnf); (repeat' (first | exact True.intro | rfl | refine And.intro ?_ ?_)); done)); conv => whnf) | fail))
    (refine ⟨[], ?_, rfl, rfl, trivial, (by (repeat' (first | exact True.intro | rfl | refine And.intro ?_ ?_)))⟩; simp only [renV, renL]; rw [e3])
  | @sl cap ex =>
  by_cases he : staErr lo hi l = 0
  · have hS := (staErr_OkS he).1
    have e3 : rateA lo hi l = ((loQ lo hi l, hiQ lo hi l), 0) := by unfold rateA; rw [if_pos he]
    have k0 : ∀ h' sv', SlC h' (entVs l) l.length sv' → ∀ m', h'.get m' = some (.map (mapB (cardL lo hi l)) (pairsL l.length).length) → CallOk Try.prog 73 [cardV lo hi sv' m'] h' (.agg (bL (loQ lo hi l, hiQ lo hi l))) h' := fun h' sv' hs' m' hm' => span2_ok h' lo hi l hS sv' hs' m' _ hm'
    (conv => whnf); (repeat' (first | ((with_reducible refine ifb_mk (fun hc => ?_) (fun hc => ?_)) <;> ((try simp only [decide_eq_true_eq, decide_eq_false_iff_not, Bool.not_eq_true', Bool.not_eq_false', Int.not_lt, Int.not_le, ne_eq, Decidable.not_not, beq_iff_eq, List.cons.injEq, and_true] at hc); (first | (exfalso; omega) | conv => whnf))) | ((with_reducible refine And.intro True.intro ?_); conv => whnf) | ((with_reducible refine CallX.all ?_); refine agreed_W lo hi l hl he _ (SlC.own rfl) ?_; conv => whnf) | ((with_reducible refine CallX.all ?_); refine CallW.of_ok (k0 _ _ (SlC.own rfl) _ rfl) ?_; conv => whnf) | ((with_reducible refine WpR.draw (id := 5) mixed [0, 1, 2, 3, 4, 5, 6] [0, 1, 0, 4, 3, 31, 63] ?hh ?_); (case hh => kernel_rfl); conv => whnf) | ((with_reducible refine And.intro ?hh ?_); (case hh => (unfold InR; (try dsimp only); omega)); conv => whnf) | ((with_reducible refine And.intro ?hh ?_); (case hh => ((try dsimp only); omega)); conv => whnf) | ((with_reducible refine And.intro ?hh ?_); (case hh => ((conv => whnf); (repeat' (first | exact True.intro | rfl | refine And.intro ?_ ?_)); done)); conv => whnf) | fail))
    (refine ⟨[], ?_, rfl, rfl, trivial, (by (repeat' (first | exact True.intro | rfl | refine And.intro ?_ ?_)))⟩; simp only [renV, renL]; rw [e3])
  · have e3 : rateA lo hi l = (((0, 0), (0, 0)), staErr lo hi l) := by unfold rateA; rw [if_neg he]
    (conv => whnf); (repeat' (first | ((with_reducible refine ifb_mk (fun hc => ?_) (fun hc => ?_)) <;> ((try simp only [decide_eq_true_eq, decide_eq_false_iff_not, Bool.not_eq_true', Bool.not_eq_false', Int.not_lt, Int.not_le, ne_eq, Decidable.not_not, beq_iff_eq, List.cons.injEq, and_true] at hc); (first | (exfalso; omega) | conv => whnf))) | ((with_reducible refine And.intro True.intro ?_); conv => whnf) | ((with_reducible refine CallX.all ?_); refine CallW.of_ok (agreed_bad _ lo hi l _ hl (SlC.own rfl) he) ?_; conv => whnf) | ((with_reducible refine And.intro ?hh ?_); (case hh => (unfold InR; (try dsimp only); omega)); conv => whnf) | ((with_reducible refine And.intro ?hh ?_); (case hh => ((try dsimp only); omega)); conv => whnf) | ((with_reducible refine And.intro ?hh ?_); (case hh => ((conv => whnf); (repeat' (first | exact True.intro | rfl | refine And.intro ?_ ?_)); done)); conv => whnf) | fail))
    (refine ⟨[], ?_, rfl, rfl, trivial, (by (repeat' (first | exact True.intro | rfl | refine And.intro ?_ ?_)))⟩; simp only [renV, renL]; rw [e3])

theorem motion_ok (h : H) (lo hi : Int) (l : List E) (sv : V) (y : Int) (high : Bool) (hl : l.length ≤ 9223372036854775807) (hs : SlC h (entVs l) l.length sv) :
    CallOk Try.prog 31 [starV lo hi sv, .int .i64 y, .bool high] h (.tup [.agg (bL (motA lo hi l y high).1), .int .i64 (motA lo hi l y high).2]) h := by
  obtain ⟨vo, svC, hsv, hca, hvw⟩ := hs.view 0
  refine CallOk.run Try.func31 rfl rfl (argsC := [starV lo hi svC, .int .i64 y, .bool high]) (Nat.le_of_ble_eq_true rfl) [vo] (.cons (CaL.agg (.cons (.bare rfl) (.cons (.bare rfl) (.cons (hca _ rfl) .nil)))) (CaL.lt0 rfl)) (viewMc1 entVs_bare hvw) rfl (WpR.of_vc ?_)
  have hBare := @entVs_bare l
  cases hsv with
  | nil h0 =>
    have e1 : starErr lo hi l = 6 := by unfold starErr; rw [if_pos (by omega)]
    have e2 : plErr lo hi l y = starErr lo hi l := by unfold plErr; rw [if_neg (by omega)]
    have e3 : motA lo hi l y high = (((0, 0), (0, 0)), starErr lo hi l) := by unfold motA; rw [if_neg (by omega), e2]
    (conv => whnf); (repeat' (first | ((with_reducible refine ifb_mk (fun hc => ?_) (fun hc => ?_)) <;> ((try simp only [decide_eq_true_eq, decide_eq_false_iff_not, Bool.not_eq_true', Bool.not_eq_false', Int.not_lt, Int.not_le, ne_eq, Decidable.not_not, beq_iff_eq, List.cons.injEq, and_true] at hc); (first | (exfalso; omega) | conv => whnf))) | ((with_reducible refine And.intro True.intro ?_); conv => whnf) | ((with_reducible refine CallX.all ?_); refine CallW.of_ok (checkStar_ok _ lo hi l _ hl (SlC.none h0)) ?_; conv => whnf) | ((with_reducible refine And.intro ?hh ?_); (case hh => (unfold InR; (try dsimp only); omega)); conv => whnf) | ((with_reducible refine And.intro ?hh ?_); (case hh => ((try dsimp only); omega)); conv => whnf) | ((with_reducible refine And.intro ?hh ?_); (case hh => ((conv => whnf); (repeat' (first | exact True.intro | rfl | refine And.intro ?_ ?_)); done)); conv => whnf) | fail))
    all_goals (first | (exfalso; omega) | (refine ⟨[], ?_, rfl, rfl, trivial, (by (repeat' (first | exact True.intro | rfl | refine And.intro ?_ ?_)))⟩; simp only [renV, renL]; rw [e3]; rfl))
  | @sl cap ex =>
  by_cases h0 : starErr lo hi l = 0
  · have hS := starErr_ok h0
    by_cases hy : 0 ≤ y ∧ y ≤ 200
    · have e2 : plErr lo hi l y = staErr lo hi l := by unfold plErr; rw [if_pos h0, if_pos hy]
      by_cases he : staErr lo hi l = 0
      · have e3 : motA lo hi l y high = (farA (sideN high) lo hi l y, 0) := by unfold motA; rw [if_pos (by omega)]
        have k0 := fun h' sv' hs' m' hm' => farthest_ok h' lo hi l hS sv' hs' (pairsL l.length).length m' hm' (sideN high) (by unfold sideN; cases high <;> simp) y hy
        have e4 : (if high = true then 1 else 0 : Int) = sideN high := rfl
        (conv => whnf); (repeat' (first | ((with_reducible refine ifb_mk (fun hc => ?_) (fun hc => ?_)) <;> ((try simp only [decide_eq_true_eq, decide_eq_false_iff_not, Bool.not_eq_true', Bool.not_eq_false', Int.not_lt, Int.not_le, ne_eq, Decidable.not_not, beq_iff_eq, List.cons.injEq, and_true] at hc); (first | (exfalso; omega) | conv => whnf))) | ((with_reducible refine And.intro True.intro ?_); conv => whnf) | ((with_reducible refine CallX.all ?_); refine CallW.of_ok (checkStar_ok _ lo hi l _ hl (SlC.own rfl)) ?_; conv => whnf) | ((with_reducible refine CallX.all (f := 80) ?_); refine CallW.inline Try.func80 rfl rfl (Nat.le_of_ble_eq_true rfl) (WpR.of_vc ?_); conv => whnf) | ((with_reducible refine WpR.loopU 3 ?_); conv => whnf) | ((with_reducible refine CallX.all ?_); refine agreed_W lo hi l hl he _ (SlC.own rfl) ?_; conv => whnf) | ((with_reducible refine WpR.draw (id := 9) mixed [0, 1, 2, 3, 4, 5, 6] [0, 0, 0, 4, 15, 31, 63] ?hh ?_); (case hh => kernel_rfl); conv => whnf) | ((with_reducible refine grd_ex ?_); refine ex_ok (sideOf_ok _ _) ?_; conv => whnf) | ((with_reducible refine grd_ex ?_); refine ex_ok (k0 _ _ (SlC.own rfl) _ rfl) ?_; conv => whnf) | ((with_reducible refine And.intro ?hh ?_); (case hh => (unfold InR; (try dsimp only); omega)); conv => whnf) | ((with_reducible refine And.intro ?hh ?_); (case hh => ((try dsimp only); omega)); conv => whnf) | ((with_reducible refine And.intro ?hh ?_); (case hh => ((conv => whnf); (repeat' (first | exact True.intro | rfl | refine And.intro ?_ ?_)); done)); conv => whnf) | fail))
        all_goals (first | (exfalso; omega) | (refine ⟨[], ?_, rfl, rfl, trivial, (by (repeat' (first | exact True.intro | rfl | refine And.intro ?_ ?_)))⟩; simp only [renV, renL]; rw [e3]; rfl))
      · have e3 : motA lo hi l y high = (((0, 0), (0, 0)), staErr lo hi l) := by unfold motA; rw [if_neg (by omega), e2]
        (conv => whnf); (repeat' (first | ((with_reducible refine ifb_mk (fun hc => ?_) (fun hc => ?_)) <;> ((try simp only [decide_eq_true_eq, decide_eq_false_iff_not, Bool.not_eq_true', Bool.not_eq_false', Int.not_lt, Int.not_le, ne_eq, Decidable.not_not, beq_iff_eq, List.cons.injEq, and_true] at hc); (first | (exfalso; omega) | conv => whnf))) | ((with_reducible refine And.intro True.intro ?_); conv => whnf) | ((with_reducible refine CallX.all ?_); refine CallW.of_ok (checkStar_ok _ lo hi l _ hl (SlC.own rfl)) ?_; conv => whnf) | ((with_reducible refine CallX.all (f := 80) ?_); refine CallW.inline Try.func80 rfl rfl (Nat.le_of_ble_eq_true rfl) (WpR.of_vc ?_); conv => whnf) | ((with_reducible refine WpR.loopU 3 ?_); conv => whnf) | ((with_reducible refine CallX.all ?_); refine CallW.of_ok (agreed_bad _ lo hi l _ hl (SlC.own rfl) he) ?_; conv => whnf) | ((with_reducible refine And.intro ?hh ?_); (case hh => (unfold InR; (try dsimp only); omega)); conv => whnf) | ((with_reducible refine And.intro ?hh ?_); (case hh => ((try dsimp only); omega)); conv => whnf) | ((with_reducible refine And.intro ?hh ?_); (case hh => ((conv => whnf); (repeat' (first | exact True.intro | rfl | refine And.intro ?_ ?_)); done)); conv => whnf) | fail))
        all_goals (first | (exfalso; omega) | (refine ⟨[], ?_, rfl, rfl, trivial, (by (repeat' (first | exact True.intro | rfl | refine And.intro ?_ ?_)))⟩; simp only [renV, renL]; rw [e3]; rfl))
    · have e2 : plErr lo hi l y = 2 := by unfold plErr; rw [if_pos h0, if_neg hy]
      have e3 : motA lo hi l y high = (((0, 0), (0, 0)), 2) := by unfold motA; rw [if_neg (by omega), e2]
      (conv => whnf); (repeat' (first | ((with_reducible refine ifb_mk (fun hc => ?_) (fun hc => ?_)) <;> ((try simp only [decide_eq_true_eq, decide_eq_false_iff_not, Bool.not_eq_true', Bool.not_eq_false', Int.not_lt, Int.not_le, ne_eq, Decidable.not_not, beq_iff_eq, List.cons.injEq, and_true] at hc); (first | (exfalso; omega) | conv => whnf))) | ((with_reducible refine And.intro True.intro ?_); conv => whnf) | ((with_reducible refine CallX.all ?_); refine CallW.of_ok (checkStar_ok _ lo hi l _ hl (SlC.own rfl)) ?_; conv => whnf) | ((with_reducible refine CallX.all (f := 80) ?_); refine CallW.inline Try.func80 rfl rfl (Nat.le_of_ble_eq_true rfl) (WpR.of_vc ?_); conv => whnf) | ((with_reducible refine WpR.loopU 3 ?_); conv => whnf) | ((with_reducible refine And.intro ?hh ?_); (case hh => (unfold InR; (try dsimp only); omega)); conv => whnf) | ((with_reducible refine And.intro ?hh ?_); (case hh => ((try dsimp only); omega)); conv => whnf) | ((with_reducible refine And.intro ?hh ?_); (case hh => ((conv => whnf); (repeat' (first | exact True.intro | rfl | refine And.intro ?_ ?_)); done)); conv => whnf) | fail))
      all_goals (first | (exfalso; omega) | (refine ⟨[], ?_, rfl, rfl, trivial, (by (repeat' (first | exact True.intro | rfl | refine And.intro ?_ ?_)))⟩; simp only [renV, renL]; rw [e3]; rfl))
  · have e2 : plErr lo hi l y = starErr lo hi l := by unfold plErr; rw [if_neg h0]
    have e3 : motA lo hi l y high = (((0, 0), (0, 0)), starErr lo hi l) := by unfold motA; rw [if_neg (by omega), e2]
    (conv => whnf); (repeat' (first | ((with_reducible refine ifb_mk (fun hc => ?_) (fun hc => ?_)) <;> ((try simp only [decide_eq_true_eq, decide_eq_false_iff_not, Bool.not_eq_true', Bool.not_eq_false', Int.not_lt, Int.not_le, ne_eq, Decidable.not_not, beq_iff_eq, List.cons.injEq, and_true] at hc); (first | (exfalso; omega) | conv => whnf))) | ((with_reducible refine And.intro True.intro ?_); conv => whnf) | ((with_reducible refine CallX.all ?_); refine CallW.of_ok (checkStar_ok _ lo hi l _ hl (SlC.own rfl)) ?_; conv => whnf) | ((with_reducible refine And.intro ?hh ?_); (case hh => (unfold InR; (try dsimp only); omega)); conv => whnf) | ((with_reducible refine And.intro ?hh ?_); (case hh => ((try dsimp only); omega)); conv => whnf) | ((with_reducible refine And.intro ?hh ?_); (case hh => ((conv => whnf); (repeat' (first | exact True.intro | rfl | refine And.intro ?_ ?_)); done)); conv => whnf) | fail))
    all_goals (first | (exfalso; omega) | (refine ⟨[], ?_, rfl, rfl, trivial, (by (repeat' (first | exact True.intro | rfl | refine And.intro ?_ ?_)))⟩; simp only [renV, renL]; rw [e3]; rfl))
end Go.Proofs.D

namespace Go.Proofs.D
open Go.As
set_option maxRecDepth 20000
set_option linter.unusedVariables false
set_option linter.unusedSimpArgs false

theorem place_ok (h : H) (lo hi : Int) (l : List E) (sv : V) (y : Int) (hl : l.length ≤ 9223372036854775807) (hs : SlC h (entVs l) l.length sv) :
    CallOk Try.prog 29 [starV lo hi sv, .int .i64 y] h (.tup [qV (plcA lo hi l y).1.1, qV (plcA lo hi l y).1.2, .int .i64 (plcA lo hi l y).2]) h := by
  obtain ⟨vo, svC, hsv, hca, hvw⟩ := hs.view 0
  refine CallOk.run Try.func29 rfl rfl (argsC := [starV lo hi svC, .int .i64 y]) (Nat.le_of_ble_eq_true rfl) [vo] (.cons (CaL.agg (.cons (.bare rfl) (.cons (.bare rfl) (.cons (hca _ rfl) .nil)))) (CaL.lt0 rfl)) (viewMc1 entVs_bare hvw) rfl (WpR.of_vc ?_)
  have hBare := @entVs_bare l
  have k0 := fun h' sv' hs' => motion_ok h' lo hi l sv' y false hl hs'
  have k1 := fun h' sv' hs' => motion_ok h' lo hi l sv' y true hl hs'
  cases hsv with
  | nil h0 =>
    have e1 : starErr lo hi l = 6 := by unfold starErr; rw [if_pos (by omega)]
    have e2 : plErr lo hi l y = starErr lo hi l := by unfold plErr; rw [if_neg (by omega)]
    have e3 : ∀ high, motA lo hi l y high = (((0, 0), (0, 0)), starErr lo hi l) := fun high => by unfold motA; rw [if_neg (by omega), e2]
    have e4 : plcA lo hi l y = (((0, 0), (0, 0)), starErr lo hi l) := by unfold plcA; rw [if_neg (by omega), e2]
    simp only [e3] at k0
    (conv => whnf); (repeat' (first | ((with_reducible refine ifb_mk (fun hc => ?_) (fun hc => ?_)) <;> ((try simp only [decide_eq_true_eq, decide_eq_false_iff_not, Bool.not_eq_true', Bool.not_eq_false', Int.not_lt, Int.not_le, ne_eq, Decidable.not_not, beq_iff_eq, List.cons.injEq, and_true] at hc); (first | (exfalso; omega) | conv => whnf))) | ((with_reducible refine And.intro True.intro ?_); conv => whnf) | ((with_reducible refine CallX.all ?_); refine CallW.of_ok (k0 _ _ (SlC.none h0)) ?_; conv => whnf) | ((with_reducible refine And.intro ?hh ?_); (case hh => (unfold InR; (try dsimp only); omega)); conv => whnf) | ((with_reducible refine And.intro ?hh ?_); (case hh => ((try dsimp only); omega)); conv => whnf) | ((with_reducible refine And.intro ?hh ?_); (case hh => ((conv => whnf); (repeat' (first | exact True.intro | rfl | refine And.intro ?_ ?_)); done)); conv => whnf) | fail))
    all_goals (first | (exfalso; omega) | (refine ⟨[], ?_, rfl, rfl, trivial, (by (repeat' (first | exact True.intro | rfl | refine And.intro ?_ ?_)))⟩; simp only [renV, renL]; rw [e4]))
  | @sl cap ex =>
  by_cases he : plErr lo hi l y = 0
  · obtain ⟨h0, hy, _⟩ := plErr_ok he
    have hS := starErr_ok h0
    have e3 : ∀ high, motA lo hi l y high = (farA (sideN high) lo hi l y, 0) := fun high => by unfold motA; rw [if_pos he]
    have e4 : plcA lo hi l y = ((plcQ (farA 0 lo hi l y) y, plcQ (farA 1 lo hi l y) y), 0) := by unfold plcA; rw [if_pos he]
    simp only [e3] at k0 k1
    have o0 := farA_ok hS 0 y
    have o1 := farA_ok hS 1 y
    change ∀ h' sv', SlC h' (entVs l) l.length sv' → CallOk Try.prog 31 [starV lo hi sv', .int .i64 y, .bool false] h' (.tup [.agg (bL (farA 0 lo hi l y)), .int .i64 0]) h' at k0
    change ∀ h' sv', SlC h' (entVs l) l.length sv' → CallOk Try.prog 31 [starV lo hi sv', .int .i64 y, .bool true] h' (.tup [.agg (bL (farA 1 lo hi l y)), .int .i64 0]) h' at k1
    generalize farA 0 lo hi l y = m0 at *
    generalize farA 1 lo hi l y = m1 at *
    (conv => whnf); (repeat' (first | ((with_reducible refine ifb_mk (fun hc => ?_) (fun hc => ?_)) <;> ((try simp only [decide_eq_true_eq, decide_eq_false_iff_not, Bool.not_eq_true', Bool.not_eq_false', Int.not_lt, Int.not_le, ne_eq, Decidable.not_not, beq_iff_eq, List.cons.injEq, and_true] at hc); (first | (exfalso; omega) | conv => whnf))) | ((with_reducible refine And.intro True.intro ?_); conv => whnf) | ((with_reducible refine CallX.all ?_); refine CallW.of_ok (k0 _ _ (SlC.own rfl)) ?_; conv => whnf) | ((with_reducible refine CallX.all ?_); refine CallW.of_ok (k1 _ _ (SlC.own rfl)) ?_; conv => whnf) | ((with_reducible refine WpR.draw (id := 7) mixed [0, 1, 3, 4, 2, 5, 6, 7, 8] [0, 0, 3, 0, 0, 31, 63, 127, 255] ?hh ?_); (case hh => kernel_rfl); conv => whnf) | ((with_reducible refine grd_ex ?_); refine ex_ok (placeM_ok _ m0 y o0 hy) ?_; conv => whnf) | ((with_reducible refine grd_ex ?_); refine ex_ok (placeM_ok _ m1 y o1 hy) ?_; conv => whnf) | ((with_reducible refine And.intro ?hh ?_); (case hh => (unfold InR; (try dsimp only); omega)); conv => whnf) | ((with_reducible refine And.intro ?hh ?_); (case hh => ((try dsimp only); omega)); conv => whnf) | ((with_reducible refine And.intro ?hh ?_); (case hh => ((conv => whnf); (repeat' (first | exact True.intro | rfl | refine And.intro ?_ ?_)); done)); conv => whnf) | fail))
    (refine ⟨[], ?_, rfl, rfl, trivial, (by (repeat' (first | exact True.intro | rfl | refine And.intro ?_ ?_)))⟩; simp only [renV, renL]; rw [e4])
  · have e3 : ∀ high, motA lo hi l y high = (((0, 0), (0, 0)), plErr lo hi l y) := fun high => by unfold motA; rw [if_neg he]
    have e4 : plcA lo hi l y = (((0, 0), (0, 0)), plErr lo hi l y) := by unfold plcA; rw [if_neg he]
    simp only [e3] at k0
    (conv => whnf); (repeat' (first | ((with_reducible refine ifb_mk (fun hc => ?_) (fun hc => ?_)) <;> ((try simp only [decide_eq_true_eq, decide_eq_false_iff_not, Bool.not_eq_true', Bool.not_eq_false', Int.not_lt, Int.not_le, ne_eq, Decidable.not_not, beq_iff_eq, List.cons.injEq, and_true] at hc); (first | (exfalso; omega) | conv => whnf))) | ((with_reducible refine And.intro True.intro ?_); conv => whnf) | ((with_reducible refine CallX.all ?_); refine CallW.of_ok (k0 _ _ (SlC.own rfl)) ?_; conv => whnf) | ((with_reducible refine And.intro ?hh ?_); (case hh => (unfold InR; (try dsimp only); omega)); conv => whnf) | ((with_reducible refine And.intro ?hh ?_); (case hh => ((try dsimp only); omega)); conv => whnf) | ((with_reducible refine And.intro ?hh ?_); (case hh => ((conv => whnf); (repeat' (first | exact True.intro | rfl | refine And.intro ?_ ?_)); done)); conv => whnf) | fail))
    all_goals (first | (exfalso; omega) | (refine ⟨[], ?_, rfl, rfl, trivial, (by (repeat' (first | exact True.intro | rfl | refine And.intro ?_ ?_)))⟩; simp only [renV, renL]; rw [e4]))
end Go.Proofs.D

namespace Go.Proofs.D
open Go.As
set_option maxRecDepth 20000
set_option linter.unusedVariables false
set_option linter.unusedSimpArgs false

/-! ### Which motions agree -/

def okF (q : Int × Int) : Bool := decide ((-8589934592 ≤ q.1 ∧ q.1 ≤ 8589934592) ∧ 1 ≤ q.2 ∧ q.2 ≤ 40000)
theorem okF_iff {q : Int × Int} (h : okF q = true) : (-8589934592 ≤ q.1 ∧ q.1 ≤ 8589934592) ∧ 1 ≤ q.2 ∧ q.2 ≤ 40000 := of_decide_eq_true h
def plN (m : Mo) (y : Int) : Int := m.1.1 * m.2.2 + m.2.1 * y * m.1.2
def inE (m : Mo) (e : E) : Bool := decide (e.2.1 * m.1.2 * m.2.2 ≤ plN m e.1) && decide (plN m e.1 ≤ e.2.2 * m.1.2 * m.2.2)
def agr (lo hi : Int) (l : List E) (m : Mo) : Bool := (decide (lo * m.2.2 ≤ m.2.1) && decide (m.2.1 ≤ hi * m.2.2)) && l.all (inE m)
def motErr (lo hi : Int) (l : List E) (m : Mo) : Int :=
  if starErr lo hi l = 0 then (if (okF m.1 && okF m.2) = true then (if agr lo hi l m = true then 0 else 17) else 3) else starErr lo hi l

structure Bd1 (m : Mo) (y : Int) : Prop where
  a : -343597383680000 ≤ m.1.1 * m.2.2 ∧ m.1.1 * m.2.2 ≤ 343597383680000
  b : -1717986918400 ≤ m.2.1 * y ∧ m.2.1 * y ≤ 1717986918400
  c : -68719476736000000 ≤ m.2.1 * y * m.1.2 ∧ m.2.1 * y * m.1.2 ≤ 68719476736000000
  d : 1 ≤ m.1.2 * m.2.2 ∧ m.1.2 * m.2.2 ≤ 1600000000

theorem bd1 {m : Mo} {y : Int} (h1 : okF m.1 = true) (h2 : okF m.2 = true) (hy : 0 ≤ y ∧ y ≤ 200) : Bd1 m y := by
  have h1 := okF_iff h1
  have h2 := okF_iff h2
  have g1 := mul_bd (by decide : (0 : Int) ≤ 8589934592) h1.1 (⟨by omega, h2.2.2⟩ : 0 ≤ m.2.2 ∧ m.2.2 ≤ 40000)
  have g2 := mul_bd (by decide : (0 : Int) ≤ 8589934592) h2.1 hy
  have g3 := mul_bd (by decide : (0 : Int) ≤ 1717986918400) (⟨by omega, by omega⟩ : -1717986918400 ≤ m.2.1 * y ∧ m.2.1 * y ≤ 1717986918400) (⟨by omega, h1.2.2⟩ : 0 ≤ m.1.2 ∧ m.1.2 ≤ 40000)
  have g4 := mulp h1.2 h2.2
  exact ⟨by omega, by omega, by omega, by omega⟩

theorem isFraction_ok (h : H) (q : Int × Int) : CallOk Try.prog 82 [qV q] h (.bool (okF q)) h := by
  refine CallOk.run0 Try.func82 rfl rfl rfl rfl rfl (WpR.of_vc ?_)
  (conv => whnf); (repeat' (first | ((with_reducible refine ifb_mk (fun hc => ?_) (fun hc => ?_)) <;> ((try simp only [decide_eq_true_eq, decide_eq_false_iff_not, Bool.not_eq_true', Bool.not_eq_false', Int.not_lt, Int.not_le, ne_eq, Decidable.not_not, beq_iff_eq, List.cons.injEq, and_true] at hc); (first | (exfalso; omega) | conv => whnf))) | ((with_reducible refine And.intro True.intro ?_); conv => whnf) | ((with_reducible refine And.intro ?hh ?_); (case hh => (unfold InR; (try dsimp only); omega)); conv => whnf) | ((with_reducible refine And.intro ?hh ?_); (case hh => ((try dsimp only); omega)); conv => whnf) | ((with_reducible refine And.intro ?hh ?_); (case hh => ((conv => whnf); (repeat' (first | exact True.intro | rfl | refine And.intro ?_ ?_)); done)); conv => whnf) | fail))
  all_goals (refine ⟨[], ?_, rfl, rfl, trivial, (by (repeat' (first | exact True.intro | rfl | refine And.intro ?_ ?_)))⟩; first | rfl | (simp only [renV, renL]; first | done | rfl | (congr 1; grind [okF]) | grind [okF]))

theorem bdE {m : Mo} (h1 : okF m.1 = true) (h2 : okF m.2 = true) {x : Int} (hx : -10000 ≤ x ∧ x ≤ 10000) : (-400000000 ≤ x * m.1.2 ∧ x * m.1.2 ≤ 400000000) ∧ (-16000000000000 ≤ x * m.1.2 * m.2.2 ∧ x * m.1.2 * m.2.2 ≤ 16000000000000) := by
  have h1 := okF_iff h1
  have h2 := okF_iff h2
  have g1 := mul_bd (by decide : (0 : Int) ≤ 10000) hx (⟨by omega, h1.2.2⟩ : 0 ≤ m.1.2 ∧ m.1.2 ≤ 40000)
  have g2 := mul_bd (by decide : (0 : Int) ≤ 400000000) (⟨by omega, by omega⟩ : -400000000 ≤ x * m.1.2 ∧ x * m.1.2 ≤ 400000000) (⟨by omega, h2.2.2⟩ : 0 ≤ m.2.2 ∧ m.2.2 ≤ 40000)
  omega

theorem refAgrees_ok (h : H) (lo hi : Int) (l : List E) (hS : OkS lo hi l) (sv : V) (m : Mo) (hs : SlC h (entVs l) l.length sv) (h1 : okF m.1 = true) (h2 : okF m.2 = true) :
    CallOk Try.prog 83 [starV lo hi sv, .agg (bL m)] h (.bool (agr lo hi l m)) h := by
  obtain ⟨vo, svC, hsv, hca, hvw⟩ := hs.view 0
  obtain ⟨cap, ex, rfl⟩ := Sv.pos hsv hS.one
  refine CallOk.run Try.func83 rfl rfl (argsC := [starV lo hi (.sl 0 0 l.length cap ex), .agg (bL m)]) (Nat.le_of_ble_eq_true rfl) [vo] (.cons (CaL.agg (.cons (.bare rfl) (.cons (.bare rfl) (.cons (hca _ rfl) .nil)))) (CaL.lt0 rfl)) (viewMc1 entVs_bare hvw) rfl (WpR.of_vc ?_)
  have hBare := @entVs_bare l
  have hn := hS.most
  have hr := hS.rate
  have f1 := okF_iff h1
  have f2 := okF_iff h2
  have b1 := mul_bd (by decide : (0 : Int) ≤ 500) (by omega : -500 ≤ lo ∧ lo ≤ 500) (⟨by omega, f2.2.2⟩ : 0 ≤ m.2.2 ∧ m.2.2 ≤ 40000)
  have b2 := mul_bd (by decide : (0 : Int) ≤ 500) (by omega : -500 ≤ hi ∧ hi ≤ 500) (⟨by omega, f2.2.2⟩ : 0 ≤ m.2.2 ∧ m.2.2 ≤ 40000)
  (conv => whnf); (repeat' (first | ((with_reducible refine ifb_mk (fun hc => ?_) (fun hc => ?_)) <;> ((try simp only [decide_eq_true_eq, decide_eq_false_iff_not, Bool.not_eq_true', Bool.not_eq_false', Int.not_lt, Int.not_le, ne_eq, Decidable.not_not, beq_iff_eq, List.cons.injEq, and_true] at hc); (first | (exfalso; omega) | conv => whnf))) | ((with_reducible refine And.intro True.intro ?_); conv => whnf) | ((with_reducible refine WpR.draw (id := 1) mixed [0, 1, 2, 3, 4, 5, 6, 7] [0, 1, 0, 4, 0, 0, 51, 127] ?hh ?_); (case hh => kernel_rfl); conv => whnf) | ((with_reducible refine And.intro ?hh ?_); (case hh => (unfold InR; (try dsimp only); omega)); conv => whnf) | ((with_reducible refine And.intro ?hh ?_); (case hh => ((try dsimp only); omega)); conv => whnf) | ((with_reducible refine And.intro ?hh ?_); (case hh => ((conv => whnf); (repeat' (first | exact True.intro | rfl | refine And.intro ?_ ?_)); done)); conv => whnf) | fail))
  · (refine ⟨[], ?_, rfl, rfl, trivial, (by (repeat' (first | exact True.intro | rfl | refine And.intro ?_ ?_)))⟩; simp only [renV, renL]; grind [agr])
  · (refine ⟨[], ?_, rfl, rfl, trivial, (by (repeat' (first | exact True.intro | rfl | refine And.intro ?_ ?_)))⟩; simp only [renV, renL]; grind [agr])
  rename_i g1
  have e1 : agr lo hi l m = l.all (inE m) := by unfold agr; grind
  clear hc g1
  refine WpR.loopD (ι := Nat) [] [2, 3, 5, 6] [] [] 5 (fun i => [(7, .int .i64 i)]) (fun _ => []) (fun i => l.length - i) (fun i => i ≤ l.length ∧ l.all (inE m) = (l.drop i).all (inE m)) ?_ (0) (⟨Nat.zero_le _, rfl⟩) [] ⟨rfl, rfl, (by (repeat' (first | exact True.intro | rfl | refine And.intro ?_ ?_))), (by (repeat' (first | exact True.intro | rfl | refine And.intro ?_ ?_))), (by (repeat' (first | exact True.intro | rfl | refine And.intro ?_ ?_))), (by (repeat' (first | exact True.intro | exact Or.inl rfl | refine And.intro ?_ ?_ | refine Or.inr ⟨_, rfl, ?_⟩ | exact SubQ.same (n := 1000) (Y := []) (fun _ _ _ => rfl) (by first | exact True.intro | exact ltB_all rfl | exact ltB_ofLb (by first | exact bare0_ints | assumption | (intro v hv; (repeat (rcases List.mem_cons.1 hv with rfl | hv; exact rfl)); cases hv)) | exact ltB_loop rfl rfl | exact hMap _ | exact hMap2 _ | exact grB_lt (by first | exact bare0_ints | assumption | (intro v hv; (repeat (rcases List.mem_cons.1 hv with rfl | hv; exact rfl)); cases hv)) _ | exact ltB_mapB | assumption) (avB_nil _) rfl | exact SubQ.ofL (by first | rfl | simp) (by first | exact bare0_ints | assumption | (intro v hv; (repeat (rcases List.mem_cons.1 hv with rfl | hv; exact rfl)); cases hv)) (by first | exact Or.inl rfl | exact Or.inr rfl) | exact SubQ.fin (by (conv => whnf); (repeat' (first | exact True.intro | rfl | refine And.intro ?_ ?_)); done) (fun h => h) (by first | exact Or.inl rfl | exact Or.inr rfl)))), rfl, rfl⟩ rfl rfl rfl (fun _ => rfl) (by (repeat' (first | exact True.intro | refine And.intro ?_ ?_ | exact avV_nil _ | rfl))) (by (repeat' (first | exact True.intro | (with_reducible exact avB_nil _) | ((with_reducible refine avB_all ?_); rfl) | ((with_reducible refine avB_ofLb ?_); exact (by first | exact bare0_ints | assumption | (intro v hv; (repeat (rcases List.mem_cons.1 hv with rfl | hv; exact rfl)); cases hv))) | ((with_reducible refine ltB_all ?_); rfl) | ((with_reducible refine ltB_ofLb ?_); exact (by first | exact bare0_ints | assumption | (intro v hv; (repeat (rcases List.mem_cons.1 hv with rfl | hv; exact rfl)); cases hv))) | ((with_reducible refine ltB_loop ?_ ?_) <;> rfl) | (with_reducible exact hMap _) | (with_reducible exact hMap2 _) | (with_reducible exact ltB_mapB) | ((with_reducible refine grB_lt ?_ _); exact (by first | exact bare0_ints | assumption | (intro v hv; (repeat (rcases List.mem_cons.1 hv with rfl | hv; exact rfl)); cases hv))) | (with_reducible assumption) | refine And.intro ?_ ?_ | exact (by first | exact True.intro | exact ltB_all rfl | exact ltB_ofLb (by first | exact bare0_ints | assumption | (intro v hv; (repeat (rcases List.mem_cons.1 hv with rfl | hv; exact rfl)); cases hv)) | exact ltB_loop rfl rfl | exact hMap _ | exact hMap2 _ | exact grB_lt (by first | exact bare0_ints | assumption | (intro v hv; (repeat (rcases List.mem_cons.1 hv with rfl | hv; exact rfl)); cases hv)) _ | exact ltB_mapB | assumption)))) (fun _ _ => (by (repeat' (first | exact True.intro | rfl | refine And.intro ?_ ?_ | exact (by decide) | exact (by first | exact True.intro | exact hMap _ | exact hMap2 _ | exact grB_lt (by first | exact bare0_ints | assumption | (intro v hv; (repeat (rcases List.mem_cons.1 hv with rfl | hv; exact rfl)); cases hv)) _ | exact ltB_all rfl | exact ltB_ofLb (by first | exact bare0_ints | assumption | (intro v hv; (repeat (rcases List.mem_cons.1 hv with rfl | hv; exact rfl)); cases hv)) | exact ltB_loop rfl rfl | exact ltB_mapB | assumption))))) (fun _ _ => (by (repeat' (first | exact True.intro | rfl | refine And.intro ?_ ?_ | exact (by decide) | exact (by first | exact True.intro | exact hMap _ | exact hMap2 _ | exact grB_lt (by first | exact bare0_ints | assumption | (intro v hv; (repeat (rcases List.mem_cons.1 hv with rfl | hv; exact rfl)); cases hv)) _ | exact ltB_all rfl | exact ltB_ofLb (by first | exact bare0_ints | assumption | (intro v hv; (repeat (rcases List.mem_cons.1 hv with rfl | hv; exact rfl)); cases hv)) | exact ltB_loop rfl rfl | exact ltB_mapB | assumption))))) (fun _ _ => (by (repeat' (first | exact True.intro | rfl | refine And.intro ?_ ?_)))) rfl
  rintro i ⟨j1, j2⟩
  refine WpR.of_vc ?_
  cases hx : l[i]? with
  | some e =>
    rw [drop_at hx, List.all_cons] at j2
    have hlt := (List.getElem?_eq_some_iff.1 hx).1
    have he := hS.ent _ _ hx
    obtain ⟨c1, c2, c3, c4⟩ := bd1 h1 h2 (⟨he.1, he.2.1⟩ : 0 ≤ e.1 ∧ e.1 ≤ 200)
    have c5 := bdE h1 h2 (by omega : -10000 ≤ e.2.1 ∧ e.2.1 ≤ 10000)
    have c6 := bdE h1 h2 (by omega : -10000 ≤ e.2.2 ∧ e.2.2 ≤ 10000)
    have c7 : inE m e = (decide (e.2.1 * m.1.2 * m.2.2 ≤ m.1.1 * m.2.2 + m.2.1 * e.1 * m.1.2) && decide (m.1.1 * m.2.2 + m.2.1 * e.1 * m.1.2 ≤ e.2.2 * m.1.2 * m.2.2)) := rfl
    (conv => whnf); (repeat' (first | ((with_reducible refine ifb_mk (fun hc => ?_) (fun hc => ?_)) <;> ((try simp only [decide_eq_true_eq, decide_eq_false_iff_not, Bool.not_eq_true', Bool.not_eq_false', Int.not_lt, Int.not_le, ne_eq, Decidable.not_not, beq_iff_eq, List.cons.injEq, and_true] at hc); (first | (exfalso; omega) | conv => whnf))) | ((with_reducible refine And.intro True.intro ?_); conv => whnf) | ((with_reducible refine grd_getN ?_); refine som_mk (a := ?_) ?hh ?_; (case hh => exact entGetN hx); conv => whnf) | ((with_reducible refine And.intro ?hh ?_); (case hh => (unfold InR; (try dsimp only); omega)); conv => whnf) | ((with_reducible refine And.intro ?hh ?_); (case hh => ((try dsimp only); omega)); conv => whnf) | ((with_reducible refine And.intro ?hh ?_); (case hh => ((conv => whnf); (repeat' (first | exact True.intro | rfl | refine And.intro ?_ ?_)); done)); conv => whnf) | fail))
    · (refine ⟨[], ?_, rfl, rfl, trivial, (by (repeat' (first | exact True.intro | rfl | refine And.intro ?_ ?_)))⟩; simp only [renV, renL]; congr 1; grind)
    · (refine ⟨[], ?_, rfl, rfl, trivial, (by (repeat' (first | exact True.intro | rfl | refine And.intro ?_ ?_)))⟩; simp only [renV, renL]; congr 1; grind)
    · exact ⟨i + 1, [], by omega, ⟨by omega, by grind⟩, ⟨rfl, rfl, (by (repeat' (first | exact True.intro | rfl | refine And.intro ?_ ?_))), (by (repeat' (first | exact True.intro | rfl | refine And.intro ?_ ?_))), (by (repeat' (first | exact True.intro | rfl | refine And.intro ?_ ?_))), (by (repeat' (first | exact True.intro | exact Or.inl rfl | refine And.intro ?_ ?_ | refine Or.inr ⟨_, rfl, ?_⟩ | exact SubQ.same (n := 1000) (Y := []) (fun _ _ _ => rfl) (by first | exact True.intro | exact ltB_all rfl | exact ltB_ofLb (by first | exact bare0_ints | assumption | (intro v hv; (repeat (rcases List.mem_cons.1 hv with rfl | hv; exact rfl)); cases hv)) | exact ltB_loop rfl rfl | exact hMap _ | exact hMap2 _ | exact grB_lt (by first | exact bare0_ints | assumption | (intro v hv; (repeat (rcases List.mem_cons.1 hv with rfl | hv; exact rfl)); cases hv)) _ | exact ltB_mapB | assumption) (avB_nil _) rfl | exact SubQ.ofL (by first | rfl | simp) (by first | exact bare0_ints | assumption | (intro v hv; (repeat (rcases List.mem_cons.1 hv with rfl | hv; exact rfl)); cases hv)) (by first | exact Or.inl rfl | exact Or.inr rfl) | exact SubQ.fin (by (conv => whnf); (repeat' (first | exact True.intro | rfl | refine And.intro ?_ ?_)); done) (fun h => h) (by first | exact Or.inl rfl | exact Or.inr rfl)))), rfl, rfl⟩⟩
  | none =>
    have hlen : l.length ≤ i := by simpa using hx
    rw [List.drop_eq_nil_of_le hlen, List.all_nil] at j2
    (conv => whnf); (repeat' (first | ((with_reducible refine ifb_mk (fun hc => ?_) (fun hc => ?_)) <;> ((try simp only [decide_eq_true_eq, decide_eq_false_iff_not, Bool.not_eq_true', Bool.not_eq_false', Int.not_lt, Int.not_le, ne_eq, Decidable.not_not, beq_iff_eq, List.cons.injEq, and_true] at hc); (first | (exfalso; omega) | conv => whnf))) | ((with_reducible refine And.intro True.intro ?_); conv => whnf) | ((with_reducible refine And.intro ?hh ?_); (case hh => (unfold InR; (try dsimp only); omega)); conv => whnf) | ((with_reducible refine And.intro ?hh ?_); (case hh => ((try dsimp only); omega)); conv => whnf) | ((with_reducible refine And.intro ?hh ?_); (case hh => ((conv => whnf); (repeat' (first | exact True.intro | rfl | refine And.intro ?_ ?_)); done)); conv => whnf) | fail))
    (refine ⟨[], ?_, rfl, rfl, trivial, (by (repeat' (first | exact True.intro | rfl | refine And.intro ?_ ?_)))⟩; simp only [renV, renL]; congr 1; grind)
end Go.Proofs.D

namespace Go.Proofs.D
open Go.As
set_option maxRecDepth 20000
set_option linter.unusedVariables false
set_option linter.unusedSimpArgs false

theorem refCheckMotion_ok (h : H) (lo hi : Int) (l : List E) (sv : V) (m : Mo) (hl : l.length ≤ 9223372036854775807) (hs : SlC h (entVs l) l.length sv) :
    CallOk Try.prog 32 [starV lo hi sv, .agg (bL m)] h (.int .i64 (motErr lo hi l m)) h := by
  obtain ⟨vo, svC, hsv, hca, hvw⟩ := hs.view 0
  refine CallOk.run Try.func32 rfl rfl (argsC := [starV lo hi svC, .agg (bL m)]) (Nat.le_of_ble_eq_true rfl) [vo] (.cons (CaL.agg (.cons (.bare rfl) (.cons (.bare rfl) (.cons (hca _ rfl) .nil)))) (CaL.lt0 rfl)) (viewMc1 entVs_bare hvw) rfl (WpR.of_vc ?_)
  have hBare := @entVs_bare l
  cases hsv with
  | nil h0 =>
    have e1 : starErr lo hi l = 6 := by unfold starErr; rw [if_pos (by omega)]
    have e2 : motErr lo hi l m = starErr lo hi l := by unfold motErr; rw [if_neg (by omega)]
    (conv => whnf); (repeat' (first | ((with_reducible refine ifb_mk (fun hc => ?_) (fun hc => ?_)) <;> ((try simp only [decide_eq_true_eq, decide_eq_false_iff_not, Bool.not_eq_true', Bool.not_eq_false', Int.not_lt, Int.not_le, ne_eq, Decidable.not_not, beq_iff_eq, List.cons.injEq, and_true] at hc); (first | (exfalso; omega) | conv => whnf))) | ((with_reducible refine And.intro True.intro ?_); conv => whnf) | ((with_reducible refine CallX.all ?_); refine CallW.of_ok (refCheckStar_ok _ lo hi l _ hl (SlC.none h0)) ?_; conv => whnf) | ((with_reducible refine And.intro ?hh ?_); (case hh => (unfold InR; (try dsimp only); omega)); conv => whnf) | ((with_reducible refine And.intro ?hh ?_); (case hh => ((try dsimp only); omega)); conv => whnf) | ((with_reducible refine And.intro ?hh ?_); (case hh => ((conv => whnf); (repeat' (first | exact True.intro | rfl | refine And.intro ?_ ?_)); done)); conv => whnf) | fail))
    all_goals (first | (exfalso; omega) | (refine ⟨[], ?_, rfl, rfl, trivial, (by (repeat' (first | exact True.intro | rfl | refine And.intro ?_ ?_)))⟩; simp only [renV, renL]; rw [e2]))
  | @sl cap ex =>
  by_cases h0 : starErr lo hi l = 0
  · have hS := starErr_ok h0
    have e0 : motErr lo hi l m = if (okF m.1 && okF m.2) = true then (if agr lo hi l m = true then 0 else 17) else 3 := by unfold motErr; rw [if_pos h0]
    have k1 := fun h' => isFraction_ok h' m.1
    have k2 := fun h' => isFraction_ok h' m.2
    cases h1 : okF m.1 with
    | false =>
      rw [h1] at e0 k1
      (conv => whnf); (repeat' (first | ((with_reducible refine ifb_mk (fun hc => ?_) (fun hc => ?_)) <;> ((try simp only [decide_eq_true_eq, decide_eq_false_iff_not, Bool.not_eq_true', Bool.not_eq_false', Int.not_lt, Int.not_le, ne_eq, Decidable.not_not, beq_iff_eq, List.cons.injEq, and_true] at hc); (first | (exfalso; omega) | conv => whnf))) | ((with_reducible refine And.intro True.intro ?_); conv => whnf) | ((with_reducible refine CallX.all ?_); refine CallW.of_ok (refCheckStar_ok _ lo hi l _ hl (SlC.own rfl)) ?_; conv => whnf) | ((with_reducible refine CallX.all ?_); refine CallW.of_ok (k1 _) ?_; conv => whnf) | ((with_reducible refine And.intro ?hh ?_); (case hh => (unfold InR; (try dsimp only); omega)); conv => whnf) | ((with_reducible refine And.intro ?hh ?_); (case hh => ((try dsimp only); omega)); conv => whnf) | ((with_reducible refine And.intro ?hh ?_); (case hh => ((conv => whnf); (repeat' (first | exact True.intro | rfl | refine And.intro ?_ ?_)); done)); conv => whnf) | fail))
      all_goals (first | (exfalso; omega) | (refine ⟨[], ?_, rfl, rfl, trivial, (by (repeat' (first | exact True.intro | rfl | refine And.intro ?_ ?_)))⟩; simp only [renV, renL]; rw [e0]; rfl))
    | true =>
    cases h2 : okF m.2 with
    | false =>
      rw [h1, h2] at e0
      rw [h1] at k1
      rw [h2] at k2
      (conv => whnf); (repeat' (first | ((with_reducible refine ifb_mk (fun hc => ?_) (fun hc => ?_)) <;> ((try simp only [decide_eq_true_eq, decide_eq_false_iff_not, Bool.not_eq_true', Bool.not_eq_false', Int.not_lt, Int.not_le, ne_eq, Decidable.not_not, beq_iff_eq, List.cons.injEq, and_true] at hc); (first | (exfalso; omega) | conv => whnf))) | ((with_reducible refine And.intro True.intro ?_); conv => whnf) | ((with_reducible refine CallX.all ?_); refine CallW.of_ok (refCheckStar_ok _ lo hi l _ hl (SlC.own rfl)) ?_; conv => whnf) | ((with_reducible refine CallX.all ?_); refine CallW.of_ok (k1 _) ?_; conv => whnf) | ((with_reducible refine CallX.all ?_); refine CallW.of_ok (k2 _) ?_; conv => whnf) | ((with_reducible refine And.intro ?hh ?_); (case hh => (unfold InR; (try dsimp only); omega)); conv => whnf) | ((with_reducible refine And.intro ?hh ?_); (case hh => ((try dsimp only); omega)); conv => whnf) | ((with_reducible refine And.intro ?hh ?_); (case hh => ((conv => whnf); (repeat' (first | exact True.intro | rfl | refine And.intro ?_ ?_)); done)); conv => whnf) | fail))
      all_goals (first | (exfalso; omega) | (refine ⟨[], ?_, rfl, rfl, trivial, (by (repeat' (first | exact True.intro | rfl | refine And.intro ?_ ?_)))⟩; simp only [renV, renL]; rw [e0]; rfl))
    | true =>
      rw [h1, h2] at e0
      have k3 := fun h' sv' hs' => refAgrees_ok h' lo hi l hS sv' m hs' h1 h2
      rw [h1] at k1
      rw [h2] at k2
      (conv => whnf); (repeat' (first | ((with_reducible refine ifb_mk (fun hc => ?_) (fun hc => ?_)) <;> ((try simp only [decide_eq_true_eq, decide_eq_false_iff_not, Bool.not_eq_true', Bool.not_eq_false', Int.not_lt, Int.not_le, ne_eq, Decidable.not_not, beq_iff_eq, List.cons.injEq, and_true] at hc); (first | (exfalso; omega) | conv => whnf))) | ((with_reducible refine And.intro True.intro ?_); conv => whnf) | ((with_reducible refine CallX.all ?_); refine CallW.of_ok (refCheckStar_ok _ lo hi l _ hl (SlC.own rfl)) ?_; conv => whnf) | ((with_reducible refine CallX.all ?_); refine CallW.of_ok (k1 _) ?_; conv => whnf) | ((with_reducible refine CallX.all ?_); refine CallW.of_ok (k2 _) ?_; conv => whnf) | ((with_reducible refine CallX.all ?_); refine CallW.of_ok (k3 _ _ (SlC.own rfl)) ?_; conv => whnf) | ((with_reducible refine And.intro ?hh ?_); (case hh => (unfold InR; (try dsimp only); omega)); conv => whnf) | ((with_reducible refine And.intro ?hh ?_); (case hh => ((try dsimp only); omega)); conv => whnf) | ((with_reducible refine And.intro ?hh ?_); (case hh => ((conv => whnf); (repeat' (first | exact True.intro | rfl | refine And.intro ?_ ?_)); done)); conv => whnf) | fail))
      all_goals (first | (exfalso; omega) | (refine ⟨[], ?_, rfl, rfl, trivial, (by (repeat' (first | exact True.intro | rfl | refine And.intro ?_ ?_)))⟩; simp only [renV, renL]; rw [e0, hc]; rfl))
  · have e2 : motErr lo hi l m = starErr lo hi l := by unfold motErr; rw [if_neg h0]
    (conv => whnf); (repeat' (first | ((with_reducible refine ifb_mk (fun hc => ?_) (fun hc => ?_)) <;> ((try simp only [decide_eq_true_eq, decide_eq_false_iff_not, Bool.not_eq_true', Bool.not_eq_false', Int.not_lt, Int.not_le, ne_eq, Decidable.not_not, beq_iff_eq, List.cons.injEq, and_true] at hc); (first | (exfalso; omega) | conv => whnf))) | ((with_reducible refine And.intro True.intro ?_); conv => whnf) | ((with_reducible refine CallX.all ?_); refine CallW.of_ok (refCheckStar_ok _ lo hi l _ hl (SlC.own rfl)) ?_; conv => whnf) | ((with_reducible refine And.intro ?hh ?_); (case hh => (unfold InR; (try dsimp only); omega)); conv => whnf) | ((with_reducible refine And.intro ?hh ?_); (case hh => ((try dsimp only); omega)); conv => whnf) | ((with_reducible refine And.intro ?hh ?_); (case hh => ((conv => whnf); (repeat' (first | exact True.intro | rfl | refine And.intro ?_ ?_)); done)); conv => whnf) | fail))
    all_goals (first | (exfalso; omega) | (refine ⟨[], ?_, rfl, rfl, trivial, (by (repeat' (first | exact True.intro | rfl | refine And.intro ?_ ?_)))⟩; simp only [renV, renL]; rw [e2]))

theorem at_ok (h : H) (m : Mo) (y : Int) (h1 : okF m.1 = true) (h2 : okF m.2 = true) (hy : 0 ≤ y ∧ y ≤ 200) : CallOk Try.prog 33 [.agg (bL m), .int .i64 y] h (qV (plcQ m y)) h := by
  obtain ⟨c1, c2, c3, c4⟩ := bd1 h1 h2 hy
  refine CallOk.run0 Try.func33 rfl rfl rfl rfl rfl (WpR.of_vc ?_)
  (conv => whnf); (repeat' (first | ((with_reducible refine ifb_mk (fun hc => ?_) (fun hc => ?_)) <;> ((try simp only [decide_eq_true_eq, decide_eq_false_iff_not, Bool.not_eq_true', Bool.not_eq_false', Int.not_lt, Int.not_le, ne_eq, Decidable.not_not, beq_iff_eq, List.cons.injEq, and_true] at hc); (first | (exfalso; omega) | conv => whnf))) | ((with_reducible refine And.intro True.intro ?_); conv => whnf) | ((with_reducible refine CallX.all ?_); refine CallW.of_ok (refFraction_ok _ (m.1.1 * m.2.2 + m.2.1 * y * m.1.2) (m.1.2 * m.2.2) (by unfold InQ; omega) (by omega)) ?_; conv => whnf) | ((with_reducible refine And.intro ?hh ?_); (case hh => (unfold InR; (try dsimp only); omega)); conv => whnf) | ((with_reducible refine And.intro ?hh ?_); (case hh => ((try dsimp only); omega)); conv => whnf) | ((with_reducible refine And.intro ?hh ?_); (case hh => ((conv => whnf); (repeat' (first | exact True.intro | rfl | refine And.intro ?_ ?_)); done)); conv => whnf) | fail))
  all_goals (refine ⟨[], ?_, rfl, rfl, trivial, (by (repeat' (first | exact True.intro | rfl | refine And.intro ?_ ?_)))⟩; first | rfl | (simp only [renV, renL]; first | done | rfl | (congr 1; grind [plcQ]) | grind [plcQ]))

/-! ### The program's -/

theorem contains_ok (h : H) (lo hi : Int) (q : Int × Int) (h1 : InR (lo * q.2)) (h2 : InR (hi * q.2)) (h3 : InR q.1) : CallOk Try.prog 109 [.agg [.int .i64 lo, .int .i64 hi], qV q] h (.bool (decide (lo * q.2 ≤ q.1) && decide (q.1 ≤ hi * q.2))) h := by
  have h4 : InR (q.1 * 1) := by rw [Int.mul_one]; exact h3
  refine CallOk.run0 Try.func109 rfl rfl rfl rfl rfl (WpR.of_vc ?_)
  (conv => whnf); (repeat' (first | ((with_reducible refine ifb_mk (fun hc => ?_) (fun hc => ?_)) <;> ((try simp only [decide_eq_true_eq, decide_eq_false_iff_not, Bool.not_eq_true', Bool.not_eq_false', Int.not_lt, Int.not_le, ne_eq, Decidable.not_not, beq_iff_eq, List.cons.injEq, and_true] at hc); (first | (exfalso; omega) | conv => whnf))) | ((with_reducible refine And.intro True.intro ?_); conv => whnf) | ((with_reducible refine WpR.draw (id := 1) mixed [0, 1, 3, 2, 4, 5, 6, 7, 8, 9, 10, 11, 12, 13, 14] [0, 1, 3, 0, 15, 31, 63, 127, 127, 383, 895, 2047, 4095, 8191, 16383] ?hh ?_); (case hh => kernel_rfl); conv => whnf) | ((with_reducible refine grd_ex ?_); refine ex_ok (whole_ok' _ _) ?_; conv => whnf) | ((with_reducible refine grd_ex ?_); refine ex_ok (compare_ok _ lo 1 q.1 q.2 h1 h4) ?_; conv => whnf) | ((with_reducible refine grd_ex ?_); refine ex_ok (compare_ok _ q.1 q.2 hi 1 h4 h2) ?_; conv => whnf) | ((with_reducible refine And.intro ?hh ?_); (case hh => (unfold InR; (try dsimp only); omega)); conv => whnf) | ((with_reducible refine And.intro ?hh ?_); (case hh => ((try dsimp only); omega)); conv => whnf) | ((with_reducible refine And.intro ?hh ?_); (case hh => ((conv => whnf); (repeat' (first | exact True.intro | rfl | refine And.intro ?_ ?_)); done)); conv => whnf) | fail))
  all_goals (refine ⟨[], ?_, rfl, rfl, trivial, (by (repeat' (first | exact True.intro | rfl | refine And.intro ?_ ?_)))⟩; first | rfl | (simp only [renV, renL]; first | done | rfl | (congr 1; grind [cmp3]) | grind [cmp3]))

theorem div_le (x n d g : Int) (hg : 0 < g) (h1 : g ∣ n) (h2 : g ∣ d) : decide (x * d.tdiv g ≤ n.tdiv g) = decide (x * d ≤ n) ∧ decide (n.tdiv g ≤ x * d.tdiv g) = decide (n ≤ x * d) := by
  obtain ⟨p, rfl⟩ := h1
  obtain ⟨q, rfl⟩ := h2
  rw [Int.mul_tdiv_cancel_left _ (by omega), Int.mul_tdiv_cancel_left _ (by omega), show x * (g * q) = g * (x * q) from by rw [← Int.mul_assoc, Int.mul_comm x g, Int.mul_assoc]]
  exact ⟨decide_eq_decide.2 (Int.mul_le_mul_left hg).symm, decide_eq_decide.2 (Int.mul_le_mul_left hg).symm⟩

theorem agrees_ok (h : H) (lo hi : Int) (l : List E) (hS : OkS lo hi l) (sv : V) (m : Mo) (hs : SlC h (entVs l) l.length sv) (h1 : okF m.1 = true) (h2 : okF m.2 = true) :
    CallOk Try.prog 89 [starV lo hi sv, .agg (bL m)] h (.bool (agr lo hi l m)) h := by
  obtain ⟨vo, svC, hsv, hca, hvw⟩ := hs.view 0
  obtain ⟨cap, ex, rfl⟩ := Sv.pos hsv hS.one
  refine CallOk.run Try.func89 rfl rfl (argsC := [starV lo hi (.sl 0 0 l.length cap ex), .agg (bL m)]) (Nat.le_of_ble_eq_true rfl) [vo] (.cons (CaL.agg (.cons (.bare rfl) (.cons (.bare rfl) (.cons (hca _ rfl) .nil)))) (CaL.lt0 rfl)) (viewMc1 entVs_bare hvw) rfl (WpR.of_vc ?_)
  have hBare := @entVs_bare l
  have hn := hS.most
  have hr := hS.rate
  have f1 := okF_iff h1
  have f2 := okF_iff h2
  have b1 := mul_bd (by decide : (0 : Int) ≤ 500) (by omega : -500 ≤ lo ∧ lo ≤ 500) (⟨by omega, f2.2.2⟩ : 0 ≤ m.2.2 ∧ m.2.2 ≤ 40000)
  have b2 := mul_bd (by decide : (0 : Int) ≤ 500) (by omega : -500 ≤ hi ∧ hi ≤ 500) (⟨by omega, f2.2.2⟩ : 0 ≤ m.2.2 ∧ m.2.2 ≤ 40000)
  have k0 := fun h' => contains_ok h' lo hi m.2 (by unfold InR; omega) (by unfold InR; omega) (by unfold InR; omega)
  have e0 : agr lo hi l m = ((decide (lo * m.2.2 ≤ m.2.1) && decide (m.2.1 ≤ hi * m.2.2)) && l.all (inE m)) := rfl
  generalize (decide (lo * m.2.2 ≤ m.2.1) && decide (m.2.1 ≤ hi * m.2.2)) = c at k0 e0
  cases c with
  | false =>
    (conv => whnf); (repeat' (first | ((with_reducible refine ifb_mk (fun hc => ?_) (fun hc => ?_)) <;> ((try simp only [decide_eq_true_eq, decide_eq_false_iff_not, Bool.not_eq_true', Bool.not_eq_false', Int.not_lt, Int.not_le, ne_eq, Decidable.not_not, beq_iff_eq, List.cons.injEq, and_true] at hc); (first | (exfalso; omega) | conv => whnf))) | ((with_reducible refine And.intro True.intro ?_); conv => whnf) | ((with_reducible refine CallX.all ?_); refine CallW.of_ok (k0 _) ?_; conv => whnf) | ((with_reducible refine And.intro ?hh ?_); (case hh => (unfold InR; (try dsimp only); omega)); conv => whnf) | ((with_reducible refine And.intro ?hh ?_); (case hh => ((try dsimp only); omega)); conv => whnf) | ((with_reducible refine And.intro ?hh ?_); (case hh => ((conv => whnf); (repeat' (first | exact True.intro | rfl | refine And.intro ?_ ?_)); done)); conv => whnf) | fail))
    (refine ⟨[], ?_, rfl, rfl, trivial, (by (repeat' (first | exact True.intro | rfl | refine And.intro ?_ ?_)))⟩; simp only [renV, renL]; rw [e0]; rfl)
  | true =>
  have e1 : agr lo hi l m = l.all (inE m) := by rw [e0]; rfl
  (conv => whnf); (repeat' (first | ((with_reducible refine ifb_mk (fun hc => ?_) (fun hc => ?_)) <;> ((try simp only [decide_eq_true_eq, decide_eq_false_iff_not, Bool.not_eq_true', Bool.not_eq_false', Int.not_lt, Int.not_le, ne_eq, Decidable.not_not, beq_iff_eq, List.cons.injEq, and_true] at hc); (first | (exfalso; omega) | conv => whnf))) | ((with_reducible refine And.intro True.intro ?_); conv => whnf) | ((with_reducible refine CallX.all ?_); refine CallW.of_ok (k0 _) ?_; conv => whnf) | ((with_reducible refine And.intro ?hh ?_); (case hh => (unfold InR; (try dsimp only); omega)); conv => whnf) | ((with_reducible refine And.intro ?hh ?_); (case hh => ((try dsimp only); omega)); conv => whnf) | ((with_reducible refine And.intro ?hh ?_); (case hh => ((conv => whnf); (repeat' (first | exact True.intro | rfl | refine And.intro ?_ ?_)); done)); conv => whnf) | fail))
  refine WpR.loopD (ι := Nat) [] [2, 3, 14, 15] [] [] 4 (fun i => [(16, .int .i64 i)]) (fun _ => []) (fun i => l.length - i) (fun i => i ≤ l.length ∧ l.all (inE m) = (l.drop i).all (inE m)) ?_ (0) (⟨Nat.zero_le _, rfl⟩) [] ⟨rfl, rfl, (by (repeat' (first | exact True.intro | rfl | refine And.intro ?_ ?_))), (by (repeat' (first | exact True.intro | rfl | refine And.intro ?_ ?_))), (by (repeat' (first | exact True.intro | rfl | refine And.intro ?_ ?_))), (by (repeat' (first | exact True.intro | exact Or.inl rfl | refine And.intro ?_ ?_ | refine Or.inr ⟨_, rfl, ?_⟩ | exact SubQ.same (n := 1000) (Y := []) (fun _ _ _ => rfl) (by first | exact True.intro | exact ltB_all rfl | exact ltB_ofLb (by first | exact bare0_ints | assumption | (intro v hv; (repeat (rcases List.mem_cons.1 hv with rfl | hv; exact rfl)); cases hv)) | exact ltB_loop rfl rfl | exact hMap _ | exact hMap2 _ | exact grB_lt (by first | exact bare0_ints | assumption | (intro v hv; (repeat (rcases List.mem_cons.1 hv with rfl | hv; exact rfl)); cases hv)) _ | exact ltB_mapB | assumption) (avB_nil _) rfl | exact SubQ.ofL (by first | rfl | simp) (by first | exact bare0_ints | assumption | (intro v hv; (repeat (rcases List.mem_cons.1 hv with rfl | hv; exact rfl)); cases hv)) (by first | exact Or.inl rfl | exact Or.inr rfl) | exact SubQ.fin (by (conv => whnf); (repeat' (first | exact True.intro | rfl | refine And.intro ?_ ?_)); done) (fun h => h) (by first | exact Or.inl rfl | exact Or.inr rfl)))), rfl, rfl⟩ rfl rfl rfl (fun _ => rfl) (by (repeat' (first | exact True.intro | refine And.intro ?_ ?_ | exact avV_nil _ | rfl))) (by (repeat' (first | exact True.intro | (with_reducible exact avB_nil _) | ((with_reducible refine avB_all ?_); rfl) | ((with_reducible refine avB_ofLb ?_); exact (by first | exact bare0_ints | assumption | (intro v hv; (repeat (rcases List.mem_cons.1 hv with rfl | hv; exact rfl)); cases hv))) | ((with_reducible refine ltB_all ?_); rfl) | ((with_reducible refine ltB_ofLb ?_); exact (by first | exact bare0_ints | assumption | (intro v hv; (repeat (rcases List.mem_cons.1 hv with rfl | hv; exact rfl)); cases hv))) | ((with_reducible refine ltB_loop ?_ ?_) <;> rfl) | (with_reducible exact hMap _) | (with_reducible exact hMap2 _) | (with_reducible exact ltB_mapB) | ((with_reducible refine grB_lt ?_ _); exact (by first | exact bare0_ints | assumption | (intro v hv; (repeat (rcases List.mem_cons.1 hv with rfl | hv; exact rfl)); cases hv))) | (with_reducible assumption) | refine And.intro ?_ ?_ | exact (by first | exact True.intro | exact ltB_all rfl | exact ltB_ofLb (by first | exact bare0_ints | assumption | (intro v hv; (repeat (rcases List.mem_cons.1 hv with rfl | hv; exact rfl)); cases hv)) | exact ltB_loop rfl rfl | exact hMap _ | exact hMap2 _ | exact grB_lt (by first | exact bare0_ints | assumption | (intro v hv; (repeat (rcases List.mem_cons.1 hv with rfl | hv; exact rfl)); cases hv)) _ | exact ltB_mapB | assumption)))) (fun _ _ => (by (repeat' (first | exact True.intro | rfl | refine And.intro ?_ ?_ | exact (by decide) | exact (by first | exact True.intro | exact hMap _ | exact hMap2 _ | exact grB_lt (by first | exact bare0_ints | assumption | (intro v hv; (repeat (rcases List.mem_cons.1 hv with rfl | hv; exact rfl)); cases hv)) _ | exact ltB_all rfl | exact ltB_ofLb (by first | exact bare0_ints | assumption | (intro v hv; (repeat (rcases List.mem_cons.1 hv with rfl | hv; exact rfl)); cases hv)) | exact ltB_loop rfl rfl | exact ltB_mapB | assumption))))) (fun _ _ => (by (repeat' (first | exact True.intro | rfl | refine And.intro ?_ ?_ | exact (by decide) | exact (by first | exact True.intro | exact hMap _ | exact hMap2 _ | exact grB_lt (by first | exact bare0_ints | assumption | (intro v hv; (repeat (rcases List.mem_cons.1 hv with rfl | hv; exact rfl)); cases hv)) _ | exact ltB_all rfl | exact ltB_ofLb (by first | exact bare0_ints | assumption | (intro v hv; (repeat (rcases List.mem_cons.1 hv with rfl | hv; exact rfl)); cases hv)) | exact ltB_loop rfl rfl | exact ltB_mapB | assumption))))) (fun _ _ => (by (repeat' (first | exact True.intro | rfl | refine And.intro ?_ ?_)))) rfl
  rintro i ⟨j1, j2⟩
  refine WpR.of_vc ?_
  cases hx : l[i]? with
  | some e =>
    rw [drop_at hx, List.all_cons] at j2
    have hlt := (List.getElem?_eq_some_iff.1 hx).1
    have he := hS.ent _ _ hx
    obtain ⟨c1, c2, c3, c4⟩ := bd1 h1 h2 (⟨he.1, he.2.1⟩ : 0 ≤ e.1 ∧ e.1 ≤ 200)
    have hpos : 0 < m.1.2 * m.2.2 := by omega
    have d1 : (plcQ m e.1).2 ≤ 1600000000 ∧ 1 ≤ (plcQ m e.1).2 := by have := fr_den hpos c4.2 (a := m.1.1 * m.2.2 + m.2.1 * e.1 * m.1.2); unfold plcQ; omega
    have d2 : -4611686018427387904 ≤ (plcQ m e.1).1 ∧ (plcQ m e.1).1 ≤ 4611686018427387904 := fr_bd hpos (by omega)
    have hx' : ∀ x : Int, -10000 ≤ x ∧ x ≤ 10000 → InR (x * (plcQ m e.1).2) := fun x hx => by
      have := mul_bd (by decide : (0 : Int) ≤ 10000) hx (⟨by omega, d1.1⟩ : 0 ≤ (plcQ m e.1).2 ∧ (plcQ m e.1).2 ≤ 1600000000)
      unfold InR; omega
    have k1 := fun h' => placeIn_ok h' m.1.1 m.1.2 m.2.1 m.2.2 e.1 (by unfold InR; omega) (by unfold InR; omega) (by unfold InR; omega) (by unfold InQ; omega) (by omega)
    have k2 := fun h' => contains_ok h' e.2.1 e.2.2 (plcQ m e.1) (hx' _ (by omega)) (hx' _ (by omega)) (by unfold InR; omega)
    have hgp := gcd_pos (m.1.1 * m.2.2 + m.2.1 * e.1 * m.1.2) (m.1.2 * m.2.2) hpos
    have q1 := (div_le e.2.1 _ _ _ hgp (Int.gcd_dvd_left (m.1.1 * m.2.2 + m.2.1 * e.1 * m.1.2) (m.1.2 * m.2.2)) (Int.gcd_dvd_right (m.1.1 * m.2.2 + m.2.1 * e.1 * m.1.2) (m.1.2 * m.2.2))).1
    have q2 := (div_le e.2.2 _ _ _ hgp (Int.gcd_dvd_left (m.1.1 * m.2.2 + m.2.1 * e.1 * m.1.2) (m.1.2 * m.2.2)) (Int.gcd_dvd_right (m.1.1 * m.2.2 + m.2.1 * e.1 * m.1.2) (m.1.2 * m.2.2))).2
    have c7 : (decide (e.2.1 * (plcQ m e.1).2 ≤ (plcQ m e.1).1) && decide ((plcQ m e.1).1 ≤ e.2.2 * (plcQ m e.1).2)) = inE m e := by
      have a1 : e.2.1 * m.1.2 * m.2.2 = e.2.1 * (m.1.2 * m.2.2) := Int.mul_assoc ..
      have a2 : e.2.2 * m.1.2 * m.2.2 = e.2.2 * (m.1.2 * m.2.2) := Int.mul_assoc ..
      unfold inE plN
      rw [a1, a2, ← q1, ← q2]
      rfl
    rw [c7] at k2
    (conv => whnf); (repeat' (first | ((with_reducible refine ifb_mk (fun hc => ?_) (fun hc => ?_)) <;> ((try simp only [decide_eq_true_eq, decide_eq_false_iff_not, Bool.not_eq_true', Bool.not_eq_false', Int.not_lt, Int.not_le, ne_eq, Decidable.not_not, beq_iff_eq, List.cons.injEq, and_true] at hc); (first | (exfalso; omega) | conv => whnf))) | ((with_reducible refine And.intro True.intro ?_); conv => whnf) | ((with_reducible refine grd_getN ?_); refine som_mk (a := ?_) ?hh ?_; (case hh => exact entGetN hx); conv => whnf) | ((with_reducible refine WpR.draw (id := 6) mixed [0, 1, 2, 3, 4, 5, 6, 7] [0, 1, 0, 0, 8, 28, 63, 127] ?hh ?_); (case hh => kernel_rfl); conv => whnf) | ((with_reducible refine grd_ex ?_); refine ex_ok (k1 _) ?_; conv => whnf) | ((with_reducible refine grd_ex ?_); refine ex_ok (k2 _) ?_; conv => whnf) | ((with_reducible refine And.intro ?hh ?_); (case hh => (unfold InR; (try dsimp only); omega)); conv => whnf) | ((with_reducible refine And.intro ?hh ?_); (case hh => ((try dsimp only); omega)); conv => whnf) | ((with_reducible refine And.intro ?hh ?_); (case hh => ((conv => whnf); (repeat' (first | exact True.intro | rfl | refine And.intro ?_ ?_)); done)); conv => whnf) | fail))
    · (refine ⟨[], ?_, rfl, rfl, trivial, (by (repeat' (first | exact True.intro | rfl | refine And.intro ?_ ?_)))⟩; simp only [renV, renL]; congr 1; grind)
    · exact ⟨i + 1, [], by omega, ⟨by omega, by grind⟩, ⟨rfl, rfl, (by (repeat' (first | exact True.intro | rfl | refine And.intro ?_ ?_))), (by (repeat' (first | exact True.intro | rfl | refine And.intro ?_ ?_))), (by (repeat' (first | exact True.intro | rfl | refine And.intro ?_ ?_))), (by (repeat' (first | exact True.intro | exact Or.inl rfl | refine And.intro ?_ ?_ | refine Or.inr ⟨_, rfl, ?_⟩ | exact SubQ.same (n := 1000) (Y := []) (fun _ _ _ => rfl) (by first | exact True.intro | exact ltB_all rfl | exact ltB_ofLb (by first | exact bare0_ints | assumption | (intro v hv; (repeat (rcases List.mem_cons.1 hv with rfl | hv; exact rfl)); cases hv)) | exact ltB_loop rfl rfl | exact hMap _ | exact hMap2 _ | exact grB_lt (by first | exact bare0_ints | assumption | (intro v hv; (repeat (rcases List.mem_cons.1 hv with rfl | hv; exact rfl)); cases hv)) _ | exact ltB_mapB | assumption) (avB_nil _) rfl | exact SubQ.ofL (by first | rfl | simp) (by first | exact bare0_ints | assumption | (intro v hv; (repeat (rcases List.mem_cons.1 hv with rfl | hv; exact rfl)); cases hv)) (by first | exact Or.inl rfl | exact Or.inr rfl) | exact SubQ.fin (by (conv => whnf); (repeat' (first | exact True.intro | rfl | refine And.intro ?_ ?_)); done) (fun h => h) (by first | exact Or.inl rfl | exact Or.inr rfl)))), rfl, rfl⟩⟩
  | none =>
    have hlen : l.length ≤ i := by simpa using hx
    rw [List.drop_eq_nil_of_le hlen, List.all_nil] at j2
    (conv => whnf); (repeat' (first | ((with_reducible refine ifb_mk (fun hc => ?_) (fun hc => ?_)) <;> ((try simp only [decide_eq_true_eq, decide_eq_false_iff_not, Bool.not_eq_true', Bool.not_eq_false', Int.not_lt, Int.not_le, ne_eq, Decidable.not_not, beq_iff_eq, List.cons.injEq, and_true] at hc); (first | (exfalso; omega) | conv => whnf))) | ((with_reducible refine And.intro True.intro ?_); conv => whnf) | ((with_reducible refine And.intro ?hh ?_); (case hh => (unfold InR; (try dsimp only); omega)); conv => whnf) | ((with_reducible refine And.intro ?hh ?_); (case hh => ((try dsimp only); omega)); conv => whnf) | ((with_reducible refine And.intro ?hh ?_); (case hh => ((conv => whnf); (repeat' (first | exact True.intro | rfl | refine And.intro ?_ ?_)); done)); conv => whnf) | fail))
    (refine ⟨[], ?_, rfl, rfl, trivial, (by (repeat' (first | exact True.intro | rfl | refine And.intro ?_ ?_)))⟩; simp only [renV, renL]; congr 1; grind)

theorem checkMotion_ok (h : H) (lo hi : Int) (l : List E) (sv : V) (m : Mo) (hl : l.length ≤ 9223372036854775807) (hs : SlC h (entVs l) l.length sv) :
    CallOk Try.prog 43 [starV lo hi sv, .agg (bL m)] h (.int .i64 (motErr lo hi l m)) h := by
  obtain ⟨vo, svC, hsv, hca, hvw⟩ := hs.view 0
  refine CallOk.run Try.func43 rfl rfl (argsC := [starV lo hi svC, .agg (bL m)]) (Nat.le_of_ble_eq_true rfl) [vo] (.cons (CaL.agg (.cons (.bare rfl) (.cons (.bare rfl) (.cons (hca _ rfl) .nil)))) (CaL.lt0 rfl)) (viewMc1 entVs_bare hvw) rfl (WpR.of_vc ?_)
  have hBare := @entVs_bare l
  cases hsv with
  | nil h0 =>
    have e1 : starErr lo hi l = 6 := by unfold starErr; rw [if_pos (by omega)]
    have e2 : motErr lo hi l m = starErr lo hi l := by unfold motErr; rw [if_neg (by omega)]
    (conv => whnf); (repeat' (first | ((with_reducible refine ifb_mk (fun hc => ?_) (fun hc => ?_)) <;> ((try simp only [decide_eq_true_eq, decide_eq_false_iff_not, Bool.not_eq_true', Bool.not_eq_false', Int.not_lt, Int.not_le, ne_eq, Decidable.not_not, beq_iff_eq, List.cons.injEq, and_true] at hc); (first | (exfalso; omega) | conv => whnf))) | ((with_reducible refine And.intro True.intro ?_); conv => whnf) | ((with_reducible refine CallX.all ?_); refine CallW.of_ok (checkStar_ok _ lo hi l _ hl (SlC.none h0)) ?_; conv => whnf) | ((with_reducible refine And.intro ?hh ?_); (case hh => (unfold InR; (try dsimp only); omega)); conv => whnf) | ((with_reducible refine And.intro ?hh ?_); (case hh => ((try dsimp only); omega)); conv => whnf) | ((with_reducible refine And.intro ?hh ?_); (case hh => ((conv => whnf); (repeat' (first | exact True.intro | rfl | refine And.intro ?_ ?_)); done)); conv => whnf) | fail))
    all_goals (first | (exfalso; omega) | (refine ⟨[], ?_, rfl, rfl, trivial, (by (repeat' (first | exact True.intro | rfl | refine And.intro ?_ ?_)))⟩; simp only [renV, renL]; rw [e2]))
  | @sl cap ex =>
  by_cases h0 : starErr lo hi l = 0
  · have hS := starErr_ok h0
    have e0 : motErr lo hi l m = if (okF m.1 && okF m.2) = true then (if agr lo hi l m = true then 0 else 17) else 3 := by unfold motErr; rw [if_pos h0]
    by_cases h12 : (okF m.1 && okF m.2) = true
    · have h1 : okF m.1 = true := by revert h12; cases okF m.1 <;> simp
      have h2 : okF m.2 = true := by revert h12; cases okF m.2 <;> simp
      have f1 := okF_iff h1
      have f2 := okF_iff h2
      rw [if_pos h12] at e0
      (conv => whnf); (repeat' (first | ((with_reducible refine ifb_mk (fun hc => ?_) (fun hc => ?_)) <;> ((try simp only [decide_eq_true_eq, decide_eq_false_iff_not, Bool.not_eq_true', Bool.not_eq_false', Int.not_lt, Int.not_le, ne_eq, Decidable.not_not, beq_iff_eq, List.cons.injEq, and_true] at hc); (first | (exfalso; omega) | conv => whnf))) | ((with_reducible refine And.intro True.intro ?_); conv => whnf) | ((with_reducible refine CallX.all ?_); refine CallW.of_ok (checkStar_ok _ lo hi l _ hl (SlC.own rfl)) ?_; conv => whnf) | ((with_reducible refine CallX.all (f := 80) ?_); refine CallW.inline Try.func80 rfl rfl (Nat.le_of_ble_eq_true rfl) (WpR.of_vc ?_); conv => whnf) | ((with_reducible refine WpR.loopU 4 ?_); conv => whnf) | ((with_reducible refine CallX.all ?_); refine CallW.of_ok (agrees_ok _ lo hi l hS _ m (SlC.own rfl) h1 h2) ?_; conv => whnf) | ((with_reducible refine And.intro ?hh ?_); (case hh => (unfold InR; (try dsimp only); omega)); conv => whnf) | ((with_reducible refine And.intro ?hh ?_); (case hh => ((try dsimp only); omega)); conv => whnf) | ((with_reducible refine And.intro ?hh ?_); (case hh => ((conv => whnf); (repeat' (first | exact True.intro | rfl | refine And.intro ?_ ?_)); done)); conv => whnf) | fail))
      all_goals (first | (exfalso; omega) | (refine ⟨[], ?_, rfl, rfl, trivial, (by (repeat' (first | exact True.intro | rfl | refine And.intro ?_ ?_)))⟩; simp only [renV, renL]; rw [e0, hc]; rfl))
    · have h3 : ¬ (((-8589934592 ≤ m.1.1 ∧ m.1.1 ≤ 8589934592) ∧ 1 ≤ m.1.2 ∧ m.1.2 ≤ 40000) ∧ ((-8589934592 ≤ m.2.1 ∧ m.2.1 ≤ 8589934592) ∧ 1 ≤ m.2.2 ∧ m.2.2 ≤ 40000)) := fun hc => h12 (by unfold okF; rw [decide_eq_true hc.1, decide_eq_true hc.2]; rfl)
      rw [if_neg h12] at e0
      (conv => whnf); (repeat' (first | ((with_reducible refine ifb_mk (fun hc => ?_) (fun hc => ?_)) <;> ((try simp only [decide_eq_true_eq, decide_eq_false_iff_not, Bool.not_eq_true', Bool.not_eq_false', Int.not_lt, Int.not_le, ne_eq, Decidable.not_not, beq_iff_eq, List.cons.injEq, and_true] at hc); (first | (exfalso; omega) | conv => whnf))) | ((with_reducible refine And.intro True.intro ?_); conv => whnf) | ((with_reducible refine CallX.all ?_); refine CallW.of_ok (checkStar_ok _ lo hi l _ hl (SlC.own rfl)) ?_; conv => whnf) | ((with_reducible refine CallX.all (f := 80) ?_); refine CallW.inline Try.func80 rfl rfl (Nat.le_of_ble_eq_true rfl) (WpR.of_vc ?_); conv => whnf) | ((with_reducible refine WpR.loopU 4 ?_); conv => whnf) | ((with_reducible refine And.intro ?hh ?_); (case hh => (unfold InR; (try dsimp only); omega)); conv => whnf) | ((with_reducible refine And.intro ?hh ?_); (case hh => ((try dsimp only); omega)); conv => whnf) | ((with_reducible refine And.intro ?hh ?_); (case hh => ((conv => whnf); (repeat' (first | exact True.intro | rfl | refine And.intro ?_ ?_)); done)); conv => whnf) | fail))
      all_goals (first | (exfalso; omega) | (refine ⟨[], ?_, rfl, rfl, trivial, (by (repeat' (first | exact True.intro | rfl | refine And.intro ?_ ?_)))⟩; simp only [renV, renL]; rw [e0]))
  · have e2 : motErr lo hi l m = starErr lo hi l := by unfold motErr; rw [if_neg h0]
    (conv => whnf); (repeat' (first | ((with_reducible refine ifb_mk (fun hc => ?_) (fun hc => ?_)) <;> ((try simp only [decide_eq_true_eq, decide_eq_false_iff_not, Bool.not_eq_true', Bool.not_eq_false', Int.not_lt, Int.not_le, ne_eq, Decidable.not_not, beq_iff_eq, List.cons.injEq, and_true] at hc); (first | (exfalso; omega) | conv => whnf))) | ((with_reducible refine And.intro True.intro ?_); conv => whnf) | ((with_reducible refine CallX.all ?_); refine CallW.of_ok (checkStar_ok _ lo hi l _ hl (SlC.own rfl)) ?_; conv => whnf) | ((with_reducible refine And.intro ?hh ?_); (case hh => (unfold InR; (try dsimp only); omega)); conv => whnf) | ((with_reducible refine And.intro ?hh ?_); (case hh => ((try dsimp only); omega)); conv => whnf) | ((with_reducible refine And.intro ?hh ?_); (case hh => ((conv => whnf); (repeat' (first | exact True.intro | rfl | refine And.intro ?_ ?_)); done)); conv => whnf) | fail))
    all_goals (first | (exfalso; omega) | (refine ⟨[], ?_, rfl, rfl, trivial, (by (repeat' (first | exact True.intro | rfl | refine And.intro ?_ ?_)))⟩; simp only [renV, renL]; rw [e2]))
end Go.Proofs.D

namespace Go.Proofs.D
open Go.As
set_option maxRecDepth 20000
set_option linter.unusedVariables false
set_option linter.unusedSimpArgs false

/-! ### Stars turned round -/

def turnE (e : E) : E := (e.1, -e.2.2, -e.2.1)
def turnL (l : List E) : List E := l.map turnE
theorem entVs_append : ∀ (a b : List E), entVs (a ++ b) = entVs a ++ entVs b
  | [], b => rfl
  | x :: a, b => by simp [entVs, entVs_append a b]
theorem entVs_length : ∀ (l : List E), (entVs l).length = l.length * 3
  | [] => rfl
  | x :: l => by simp only [entVs, List.length_cons, entVs_length l]; omega
theorem entVs_one (l : List E) : (entVs l).all one = true := by
  rw [List.all_eq_true]
  intro v hv
  have := entVs_bare v hv
  cases v <;> first | rfl | cases this
end Go.Proofs.D

