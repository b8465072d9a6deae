/- What the functions answer that the laws call, one after another, part 2. -/
import Derived.Test.YtcfblgemkgijmaaOwn1

set_option linter.unusedVariables false
namespace Go.Proofs.D
open Go.As
set_option maxRecDepth 20000
set_option linter.unusedVariables false
set_option linter.unusedSimpArgs false

/-! ### Which stars are valid -/

def vr (lo hi m : Int) : Bool := decide (-m ≤ lo ∧ lo ≤ hi ∧ hi ≤ m)

theorem validRange_ok (h : H) (lo hi m : Int) (hm : 0 ≤ m ∧ m ≤ 1000000) : CallOk Try.prog 91 [.agg [.int .i64 lo, .int .i64 hi], .int .i64 m] h (.bool (vr lo hi m)) h := by
  refine CallOk.run0 Try.func91 rfl rfl rfl rfl rfl (WpR.of_vc ?_)
  (conv => whnf); (repeat' (first | ((with_reducible refine ifb_mk (fun hc => ?_) (fun hc => ?_)) <;> ((try simp only [decide_eq_true_eq, decide_eq_false_iff_not, Bool.not_eq_true', Bool.not_eq_false', Int.not_lt, Int.not_le, ne_eq, Decidable.not_not, beq_iff_eq, List.cons.injEq, and_true] at hc); (first | (exfalso; omega) | conv => whnf))) | ((with_reducible refine And.intro True.intro ?_); conv => whnf) | ((with_reducible refine CallX.all (f := 80) ?_); refine CallW.inline Try.func80 rfl rfl (Nat.le_of_ble_eq_true rfl) (WpR.of_vc ?_); conv => whnf) | ((with_reducible refine WpR.loopU 3 ?_); conv => whnf) | ((with_reducible refine And.intro ?hh ?_); (case hh => (unfold InR; (try dsimp only); omega)); conv => whnf) | ((with_reducible refine And.intro ?hh ?_); (case hh => ((try dsimp only); omega)); conv => whnf) | ((with_reducible refine And.intro ?hh ?_); (case hh => ((conv => whnf); (repeat' (first | exact True.intro | rfl | refine And.intro ?_ ?_)); done)); conv => whnf) | fail))
  all_goals (refine ⟨[], ?_, rfl, rfl, trivial, (by (repeat' (first | exact True.intro | rfl | refine And.intro ?_ ?_)))⟩; first | rfl | (simp only [renV, renL]; first | done | rfl | (congr 1; grind [vr]) | grind [vr]))

theorem isRange_ok (h : H) (lo hi m : Int) (hm : 0 ≤ m ∧ m ≤ 1000000) : CallOk Try.prog 75 [.agg [.int .i64 lo, .int .i64 hi], .int .i64 m] h (.bool (vr lo hi m)) h := by
  refine CallOk.run0 Try.func75 rfl rfl rfl rfl rfl (WpR.of_vc ?_)
  (conv => whnf); (repeat' (first | ((with_reducible refine ifb_mk (fun hc => ?_) (fun hc => ?_)) <;> ((try simp only [decide_eq_true_eq, decide_eq_false_iff_not, Bool.not_eq_true', Bool.not_eq_false', Int.not_lt, Int.not_le, ne_eq, Decidable.not_not, beq_iff_eq, List.cons.injEq, and_true] at hc); (first | (exfalso; omega) | conv => whnf))) | ((with_reducible refine And.intro True.intro ?_); conv => whnf) | ((with_reducible refine And.intro ?hh ?_); (case hh => (unfold InR; (try dsimp only); omega)); conv => whnf) | ((with_reducible refine And.intro ?hh ?_); (case hh => ((try dsimp only); omega)); conv => whnf) | ((with_reducible refine And.intro ?hh ?_); (case hh => ((conv => whnf); (repeat' (first | exact True.intro | rfl | refine And.intro ?_ ?_)); done)); conv => whnf) | fail))
  all_goals (refine ⟨[], ?_, rfl, rfl, trivial, (by (repeat' (first | exact True.intro | rfl | refine And.intro ?_ ?_)))⟩; first | rfl | (simp only [renV, renL]; first | done | rfl | (congr 1; grind [vr]) | grind [vr]))

def okE (e : E) : Bool := decide (0 ≤ e.1 ∧ e.1 ≤ 200) && vr e.2.1 e.2.2 10000
def srt : List E → Bool
  | a :: b :: l => decide (a.1 < b.1) && srt (b :: l)
  | _ => true

theorem srt_two (a b : E) (l : List E) : srt (a :: b :: l) = (decide (a.1 < b.1) && srt (b :: l)) := rfl
theorem srt_one (a : E) : srt [a] = true := rfl

def starErr (lo hi : Int) (l : List E) : Int :=
  if l.length < 1 ∨ 12 < l.length then 6 else if vr lo hi 500 = false then 3 else if l.all okE = false then 3 else if srt l = false then 16 else 0

theorem drop_at {α : Type} {l : List α} {i : Nat} {x : α} (h : l[i]? = some x) : l.drop i = x :: l.drop (i + 1) := by
  obtain ⟨hi, rfl⟩ := List.getElem?_eq_some_iff.1 h
  exact List.drop_eq_getElem_cons hi

theorem entGet0' {l : List E} {i : Nat} {e : E} (h : l[i]? = some e) (n : Int) (hn : n = i) : (ofL (entVs l) 0).get (0 + n.toNat * 3 + 0) = some (.int .i64 e.1) := by subst hn; exact entGet0 h

theorem checkStar_ok (h : H) (lo hi : Int) (l : List E) (sv : V) (hl : l.length ≤ 9223372036854775807) (hs : SlC h (entVs l) l.length sv) :
    CallOk Try.prog 63 [starV lo hi sv] h (.int .i64 (starErr lo hi l)) h := by
  obtain ⟨vo, svC, hsv, hca, hvw⟩ := hs.view 0
  refine CallOk.run Try.func63 rfl rfl (argsC := [starV lo hi svC]) (Nat.le_of_ble_eq_true rfl) [vo] (.cons (CaL.agg (.cons (.bare rfl) (.cons (.bare rfl) (.cons (hca _ rfl) .nil)))) .nil) (viewMc1 entVs_bare hvw) rfl (WpR.of_vc ?_)
  cases hsv with
  | nil h0 =>
    (conv => whnf); (repeat' (first | ((with_reducible refine ifb_mk (fun hc => ?_) (fun hc => ?_)) <;> ((try simp only [decide_eq_true_eq, decide_eq_false_iff_not, Bool.not_eq_true', Bool.not_eq_false', Int.not_lt, Int.not_le, ne_eq, Decidable.not_not, beq_iff_eq, List.cons.injEq, and_true] at hc); (first | (exfalso; omega) | conv => whnf))) | ((with_reducible refine And.intro True.intro ?_); conv => whnf) | ((with_reducible refine And.intro ?hh ?_); (case hh => (unfold InR; (try dsimp only); omega)); conv => whnf) | ((with_reducible refine And.intro ?hh ?_); (case hh => ((try dsimp only); omega)); conv => whnf) | ((with_reducible refine And.intro ?hh ?_); (case hh => ((conv => whnf); (repeat' (first | exact True.intro | rfl | refine And.intro ?_ ?_)); done)); conv => whnf) | fail))
    (refine ⟨[], ?_, rfl, rfl, trivial, (by (repeat' (first | exact True.intro | rfl | refine And.intro ?_ ?_)))⟩; simp only [renV, renL]; congr 1; unfold starErr; rw [if_pos (by omega)])
  | @sl cap ex =>
  (conv => whnf); (repeat' (first | ((with_reducible refine ifb_mk (fun hc => ?_) (fun hc => ?_)) <;> ((try simp only [decide_eq_true_eq, decide_eq_false_iff_not, Bool.not_eq_true', Bool.not_eq_false', Int.not_lt, Int.not_le, ne_eq, Decidable.not_not, beq_iff_eq, List.cons.injEq, and_true] at hc); (first | (exfalso; omega) | conv => whnf))) | ((with_reducible refine And.intro True.intro ?_); conv => whnf) | ((with_reducible refine CallX.all ?_); refine CallW.of_ok (validRange_ok _ _ _ _ (by omega)) ?_; conv => whnf) | ((with_reducible refine And.intro ?hh ?_); (case hh => (unfold InR; (try dsimp only); omega)); conv => whnf) | ((with_reducible refine And.intro ?hh ?_); (case hh => ((try dsimp only); omega)); conv => whnf) | ((with_reducible refine And.intro ?hh ?_); (case hh => ((conv => whnf); (repeat' (first | exact True.intro | rfl | refine And.intro ?_ ?_)); done)); conv => whnf) | fail))
  · (refine ⟨[], ?_, rfl, rfl, trivial, (by (repeat' (first | exact True.intro | rfl | refine And.intro ?_ ?_)))⟩; simp only [renV, renL]; congr 1; unfold starErr; grind)
  · (refine ⟨[], ?_, rfl, rfl, trivial, (by (repeat' (first | exact True.intro | rfl | refine And.intro ?_ ?_)))⟩; simp only [renV, renL]; congr 1; unfold starErr; grind)
  · (refine ⟨[], ?_, rfl, rfl, trivial, (by (repeat' (first | exact True.intro | rfl | refine And.intro ?_ ?_)))⟩; simp only [renV, renL]; congr 1; unfold starErr; grind)
  rename_i hc1 hc2
  have e1 : starErr lo hi l = if l.all okE = false then 3 else if srt l = false then 16 else 0 := by unfold starErr; grind
  clear hc
  have hBare := @entVs_bare l
  refine WpR.loopD (ι := Nat) [] [1, 21, 22] [] [] 2 (fun i => [(23, .int .i64 i)]) (fun _ => []) (fun i => l.length - i) (fun i => i ≤ l.length ∧ l.all okE = (l.drop i).all okE) ?_ (0) (⟨Nat.zero_le _, rfl⟩) [] ⟨rfl, rfl, (by (repeat' (first | exact True.intro | rfl | refine And.intro ?_ ?_))), (by (repeat' (first | exact True.intro | rfl | refine And.intro ?_ ?_))), (by (repeat' (first | exact True.intro | rfl | refine And.intro ?_ ?_))), (by (repeat' (first | exact True.intro | exact Or.inl rfl | refine And.intro ?_ ?_ | refine Or.inr ⟨_, rfl, ?_⟩ | exact SubQ.same (n := 1000) (Y := []) (fun _ _ _ => rfl) (by first | exact True.intro | exact ltB_all rfl | exact ltB_ofLb (by first | exact bare0_ints | assumption | (intro v hv; (repeat (rcases List.mem_cons.1 hv with rfl | hv; exact rfl)); cases hv)) | exact ltB_loop rfl rfl | exact hMap _ | exact hMap2 _ | exact grB_lt (by first | exact bare0_ints | assumption | (intro v hv; (repeat (rcases List.mem_cons.1 hv with rfl | hv; exact rfl)); cases hv)) _ | exact ltB_mapB | assumption) (avB_nil _) rfl | exact SubQ.ofL (by first | rfl | simp) (by first | exact bare0_ints | assumption | (intro v hv; (repeat (rcases List.mem_cons.1 hv with rfl | hv; exact rfl)); cases hv)) (by first | exact Or.inl rfl | exact Or.inr rfl) | exact SubQ.fin (by (conv => whnf); (repeat' (first | exact True.intro | rfl | refine And.intro ?_ ?_)); done) (fun h => h) (by first | exact Or.inl rfl | exact Or.inr rfl)))), rfl, rfl⟩ rfl rfl rfl (fun _ => rfl) (by (repeat' (first | exact True.intro | refine And.intro ?_ ?_ | exact avV_nil _ | rfl))) (by (repeat' (first | exact True.intro | (with_reducible exact avB_nil _) | ((with_reducible refine avB_all ?_); rfl) | ((with_reducible refine avB_ofLb ?_); exact (by first | exact bare0_ints | assumption | (intro v hv; (repeat (rcases List.mem_cons.1 hv with rfl | hv; exact rfl)); cases hv))) | ((with_reducible refine ltB_all ?_); rfl) | ((with_reducible refine ltB_ofLb ?_); exact (by first | exact bare0_ints | assumption | (intro v hv; (repeat (rcases List.mem_cons.1 hv with rfl | hv; exact rfl)); cases hv))) | ((with_reducible refine ltB_loop ?_ ?_) <;> rfl) | (with_reducible exact hMap _) | (with_reducible exact hMap2 _) | (with_reducible exact ltB_mapB) | ((with_reducible refine grB_lt ?_ _); exact (by first | exact bare0_ints | assumption | (intro v hv; (repeat (rcases List.mem_cons.1 hv with rfl | hv; exact rfl)); cases hv))) | (with_reducible assumption) | refine And.intro ?_ ?_ | exact (by first | exact True.intro | exact ltB_all rfl | exact ltB_ofLb (by first | exact bare0_ints | assumption | (intro v hv; (repeat (rcases List.mem_cons.1 hv with rfl | hv; exact rfl)); cases hv)) | exact ltB_loop rfl rfl | exact hMap _ | exact hMap2 _ | exact grB_lt (by first | exact bare0_ints | assumption | (intro v hv; (repeat (rcases List.mem_cons.1 hv with rfl | hv; exact rfl)); cases hv)) _ | exact ltB_mapB | assumption)))) (fun _ _ => (by (repeat' (first | exact True.intro | rfl | refine And.intro ?_ ?_ | exact (by decide) | exact (by first | exact True.intro | exact hMap _ | exact hMap2 _ | exact grB_lt (by first | exact bare0_ints | assumption | (intro v hv; (repeat (rcases List.mem_cons.1 hv with rfl | hv; exact rfl)); cases hv)) _ | exact ltB_all rfl | exact ltB_ofLb (by first | exact bare0_ints | assumption | (intro v hv; (repeat (rcases List.mem_cons.1 hv with rfl | hv; exact rfl)); cases hv)) | exact ltB_loop rfl rfl | exact ltB_mapB | assumption))))) (fun _ _ => (by (repeat' (first | exact True.intro | rfl | refine And.intro ?_ ?_ | exact (by decide) | exact (by first | exact True.intro | exact hMap _ | exact hMap2 _ | exact grB_lt (by first | exact bare0_ints | assumption | (intro v hv; (repeat (rcases List.mem_cons.1 hv with rfl | hv; exact rfl)); cases hv)) _ | exact ltB_all rfl | exact ltB_ofLb (by first | exact bare0_ints | assumption | (intro v hv; (repeat (rcases List.mem_cons.1 hv with rfl | hv; exact rfl)); cases hv)) | exact ltB_loop rfl rfl | exact ltB_mapB | assumption))))) (fun _ _ => (by (repeat' (first | exact True.intro | rfl | refine And.intro ?_ ?_)))) rfl
  rintro i ⟨h1, hP⟩
  refine WpR.of_vc ?_
  cases hx : l[i]? with
  | some e =>
    rw [drop_at hx, List.all_cons] at hP
    have hlt := (List.getElem?_eq_some_iff.1 hx).1
    (conv => whnf); (repeat' (first | ((with_reducible refine ifb_mk (fun hc => ?_) (fun hc => ?_)) <;> ((try simp only [decide_eq_true_eq, decide_eq_false_iff_not, Bool.not_eq_true', Bool.not_eq_false', Int.not_lt, Int.not_le, ne_eq, Decidable.not_not, beq_iff_eq, List.cons.injEq, and_true] at hc); (first | (exfalso; omega) | conv => whnf))) | ((with_reducible refine And.intro True.intro ?_); conv => whnf) | ((with_reducible refine CallX.all (f := 80) ?_); refine CallW.inline Try.func80 rfl rfl (Nat.le_of_ble_eq_true rfl) (WpR.of_vc ?_); conv => whnf) | ((with_reducible refine WpR.loopU 3 ?_); conv => whnf) | ((with_reducible refine grd_getN ?_); refine som_mk (a := ?_) ?hh ?_; (case hh => exact entGetN hx); conv => whnf) | ((with_reducible refine grd_get ?_); refine som_mk (a := ?_) ?hh ?_; (case hh => exact entGet0 hx); conv => whnf) | ((with_reducible refine CallX.all ?_); refine CallW.of_ok (validRange_ok _ _ _ _ (by omega)) ?_; conv => whnf) | ((with_reducible refine And.intro ?hh ?_); (case hh => (unfold InR; (try dsimp only); omega)); conv => whnf) | ((with_reducible refine And.intro ?hh ?_); (case hh => ((try dsimp only); omega)); conv => whnf) | ((with_reducible refine And.intro ?hh ?_); (case hh => ((conv => whnf); (repeat' (first | exact True.intro | rfl | refine And.intro ?_ ?_)); done)); conv => whnf) | fail))
    · (refine ⟨[], ?_, rfl, rfl, trivial, (by (repeat' (first | exact True.intro | rfl | refine And.intro ?_ ?_)))⟩; simp only [renV, renL]; congr 1; grind [okE])
    · (refine ⟨[], ?_, rfl, rfl, trivial, (by (repeat' (first | exact True.intro | rfl | refine And.intro ?_ ?_)))⟩; simp only [renV, renL]; congr 1; grind [okE])
    · (refine ⟨[], ?_, rfl, rfl, trivial, (by (repeat' (first | exact True.intro | rfl | refine And.intro ?_ ?_)))⟩; simp only [renV, renL]; congr 1; grind [okE])
    · exact ⟨i + 1, [], by omega, ⟨by omega, by grind [okE]⟩, ⟨rfl, rfl, (by (repeat' (first | exact True.intro | rfl | refine And.intro ?_ ?_))), (by (repeat' (first | exact True.intro | rfl | refine And.intro ?_ ?_))), (by (repeat' (first | exact True.intro | rfl | refine And.intro ?_ ?_))), (by (repeat' (first | exact True.intro | exact Or.inl rfl | refine And.intro ?_ ?_ | refine Or.inr ⟨_, rfl, ?_⟩ | exact SubQ.same (n := 1000) (Y := []) (fun _ _ _ => rfl) (by first | exact True.intro | exact ltB_all rfl | exact ltB_ofLb (by first | exact bare0_ints | assumption | (intro v hv; (repeat (rcases List.mem_cons.1 hv with rfl | hv; exact rfl)); cases hv)) | exact ltB_loop rfl rfl | exact hMap _ | exact hMap2 _ | exact grB_lt (by first | exact bare0_ints | assumption | (intro v hv; (repeat (rcases List.mem_cons.1 hv with rfl | hv; exact rfl)); cases hv)) _ | exact ltB_mapB | assumption) (avB_nil _) rfl | exact SubQ.ofL (by first | rfl | simp) (by first | exact bare0_ints | assumption | (intro v hv; (repeat (rcases List.mem_cons.1 hv with rfl | hv; exact rfl)); cases hv)) (by first | exact Or.inl rfl | exact Or.inr rfl) | exact SubQ.fin (by (conv => whnf); (repeat' (first | exact True.intro | rfl | refine And.intro ?_ ?_)); done) (fun h => h) (by first | exact Or.inl rfl | exact Or.inr rfl)))), rfl, rfl⟩⟩
  | none =>
    have hlen : l.length ≤ i := by simpa using hx
    rw [List.drop_eq_nil_of_le hlen, List.all_nil] at hP
    have e2 : starErr lo hi l = if srt l = false then 16 else 0 := by grind
    (conv => whnf); (repeat' (first | ((with_reducible refine ifb_mk (fun hc => ?_) (fun hc => ?_)) <;> ((try simp only [decide_eq_true_eq, decide_eq_false_iff_not, Bool.not_eq_true', Bool.not_eq_false', Int.not_lt, Int.not_le, ne_eq, Decidable.not_not, beq_iff_eq, List.cons.injEq, and_true] at hc); (first | (exfalso; omega) | conv => whnf))) | ((with_reducible refine And.intro True.intro ?_); conv => whnf) | ((with_reducible refine And.intro ?hh ?_); (case hh => (unfold InR; (try dsimp only); omega)); conv => whnf) | ((with_reducible refine And.intro ?hh ?_); (case hh => ((try dsimp only); omega)); conv => whnf) | ((with_reducible refine And.intro ?hh ?_); (case hh => ((conv => whnf); (repeat' (first | exact True.intro | rfl | refine And.intro ?_ ?_)); done)); conv => whnf) | fail))
    refine WpR.loopD (ι := Nat) [] [1] [] [] 2 (fun i => [(5, .int .i64 ((i : Int) + 1))]) (fun _ => []) (fun i => l.length - i) (fun i => i + 1 ≤ l.length ∧ srt l = srt (l.drop i)) ?_ (0) (⟨by omega, rfl⟩) [] ⟨rfl, rfl, (by (repeat' (first | exact True.intro | rfl | refine And.intro ?_ ?_))), (by (repeat' (first | exact True.intro | rfl | refine And.intro ?_ ?_))), (by (repeat' (first | exact True.intro | rfl | refine And.intro ?_ ?_))), (by (repeat' (first | exact True.intro | exact Or.inl rfl | refine And.intro ?_ ?_ | refine Or.inr ⟨_, rfl, ?_⟩ | exact SubQ.same (n := 1000) (Y := []) (fun _ _ _ => rfl) (by first | exact True.intro | exact ltB_all rfl | exact ltB_ofLb (by first | exact bare0_ints | assumption | (intro v hv; (repeat (rcases List.mem_cons.1 hv with rfl | hv; exact rfl)); cases hv)) | exact ltB_loop rfl rfl | exact hMap _ | exact hMap2 _ | exact grB_lt (by first | exact bare0_ints | assumption | (intro v hv; (repeat (rcases List.mem_cons.1 hv with rfl | hv; exact rfl)); cases hv)) _ | exact ltB_mapB | assumption) (avB_nil _) rfl | exact SubQ.ofL (by first | rfl | simp) (by first | exact bare0_ints | assumption | (intro v hv; (repeat (rcases List.mem_cons.1 hv with rfl | hv; exact rfl)); cases hv)) (by first | exact Or.inl rfl | exact Or.inr rfl) | exact SubQ.fin (by (conv => whnf); (repeat' (first | exact True.intro | rfl | refine And.intro ?_ ?_)); done) (fun h => h) (by first | exact Or.inl rfl | exact Or.inr rfl)))), rfl, rfl⟩ rfl rfl rfl (fun _ => rfl) (by (repeat' (first | exact True.intro | refine And.intro ?_ ?_ | exact avV_nil _ | rfl))) (by (repeat' (first | exact True.intro | (with_reducible exact avB_nil _) | ((with_reducible refine avB_all ?_); rfl) | ((with_reducible refine avB_ofLb ?_); exact (by first | exact bare0_ints | assumption | (intro v hv; (repeat (rcases List.mem_cons.1 hv with rfl | hv; exact rfl)); cases hv))) | ((with_reducible refine ltB_all ?_); rfl) | ((with_reducible refine ltB_ofLb ?_); exact (by first | exact bare0_ints | assumption | (intro v hv; (repeat (rcases List.mem_cons.1 hv with rfl | hv; exact rfl)); cases hv))) | ((with_reducible refine ltB_loop ?_ ?_) <;> rfl) | (with_reducible exact hMap _) | (with_reducible exact hMap2 _) | (with_reducible exact ltB_mapB) | ((with_reducible refine grB_lt ?_ _); exact (by first | exact bare0_ints | assumption | (intro v hv; (repeat (rcases List.mem_cons.1 hv with rfl | hv; exact rfl)); cases hv))) | (with_reducible assumption) | refine And.intro ?_ ?_ | exact (by first | exact True.intro | exact ltB_all rfl | exact ltB_ofLb (by first | exact bare0_ints | assumption | (intro v hv; (repeat (rcases List.mem_cons.1 hv with rfl | hv; exact rfl)); cases hv)) | exact ltB_loop rfl rfl | exact hMap _ | exact hMap2 _ | exact grB_lt (by first | exact bare0_ints | assumption | (intro v hv; (repeat (rcases List.mem_cons.1 hv with rfl | hv; exact rfl)); cases hv)) _ | exact ltB_mapB | assumption)))) (fun _ _ => (by (repeat' (first | exact True.intro | rfl | refine And.intro ?_ ?_ | exact (by decide) | exact (by first | exact True.intro | exact hMap _ | exact hMap2 _ | exact grB_lt (by first | exact bare0_ints | assumption | (intro v hv; (repeat (rcases List.mem_cons.1 hv with rfl | hv; exact rfl)); cases hv)) _ | exact ltB_all rfl | exact ltB_ofLb (by first | exact bare0_ints | assumption | (intro v hv; (repeat (rcases List.mem_cons.1 hv with rfl | hv; exact rfl)); cases hv)) | exact ltB_loop rfl rfl | exact ltB_mapB | assumption))))) (fun _ _ => (by (repeat' (first | exact True.intro | rfl | refine And.intro ?_ ?_ | exact (by decide) | exact (by first | exact True.intro | exact hMap _ | exact hMap2 _ | exact grB_lt (by first | exact bare0_ints | assumption | (intro v hv; (repeat (rcases List.mem_cons.1 hv with rfl | hv; exact rfl)); cases hv)) _ | exact ltB_all rfl | exact ltB_ofLb (by first | exact bare0_ints | assumption | (intro v hv; (repeat (rcases List.mem_cons.1 hv with rfl | hv; exact rfl)); cases hv)) | exact ltB_loop rfl rfl | exact ltB_mapB | assumption))))) (fun _ _ => (by (repeat' (first | exact True.intro | rfl | refine And.intro ?_ ?_)))) rfl
    rintro i ⟨h2, hQ⟩
    refine WpR.of_vc ?_
    have hx : l[i]? = some l[i] := List.getElem?_eq_getElem _
    generalize l[i] = e at hx
    cases hy : l[i + 1]? with
    | some f =>
      have hlt := (List.getElem?_eq_some_iff.1 hy).1
      rw [drop_at hx, drop_at hy, srt_two, ← drop_at hy] at hQ
      (conv => whnf); (repeat' (first | ((with_reducible refine ifb_mk (fun hc => ?_) (fun hc => ?_)) <;> ((try simp only [decide_eq_true_eq, decide_eq_false_iff_not, Bool.not_eq_true', Bool.not_eq_false', Int.not_lt, Int.not_le, ne_eq, Decidable.not_not, beq_iff_eq, List.cons.injEq, and_true] at hc); (first | (exfalso; omega) | conv => whnf))) | ((with_reducible refine And.intro True.intro ?_); conv => whnf) | ((with_reducible refine WpR.draw (id := 14) mixed [0, 1, 2, 3, 4, 5, 6, 7, 8, 9, 10, 11, 12, 13] [0, 1, 0, 7, 15, 31, 0, 64, 0, 256, 960, 1984, 4032, 8191] ?hh ?_); (case hh => kernel_rfl); conv => whnf) | ((with_reducible refine grd_get ?_); refine som_mk (a := ?_) ?hh ?_; (case hh => exact entGet0' hx ((i : Int) + 1 - 1) (by omega)); conv => whnf) | ((with_reducible refine grd_get ?_); refine som_mk (a := ?_) ?hh ?_; (case hh => exact entGet0' hy ((i : Int) + 1) (by omega)); conv => whnf) | ((with_reducible refine And.intro ?hh ?_); (case hh => (unfold InR; (try dsimp only); omega)); conv => whnf) | ((with_reducible refine And.intro ?hh ?_); (case hh => ((try dsimp only); omega)); conv => whnf) | ((with_reducible refine And.intro ?hh ?_); (case hh => ((conv => whnf); (repeat' (first | exact True.intro | rfl | refine And.intro ?_ ?_)); done)); conv => whnf) | fail))
      · (refine ⟨[], ?_, rfl, rfl, trivial, (by (repeat' (first | exact True.intro | rfl | refine And.intro ?_ ?_)))⟩; simp only [renV, renL]; congr 1; grind)
      · exact ⟨i + 1, [], by omega, ⟨by omega, by grind⟩, ⟨rfl, rfl, (by (repeat' (first | exact True.intro | rfl | refine And.intro ?_ ?_))), (by (repeat' (first | exact True.intro | rfl | refine And.intro ?_ ?_))), (by (repeat' (first | exact True.intro | rfl | refine And.intro ?_ ?_))), (by (repeat' (first | exact True.intro | exact Or.inl rfl | refine And.intro ?_ ?_ | refine Or.inr ⟨_, rfl, ?_⟩ | exact SubQ.same (n := 1000) (Y := []) (fun _ _ _ => rfl) (by first | exact True.intro | exact ltB_all rfl | exact ltB_ofLb (by first | exact bare0_ints | assumption | (intro v hv; (repeat (rcases List.mem_cons.1 hv with rfl | hv; exact rfl)); cases hv)) | exact ltB_loop rfl rfl | exact hMap _ | exact hMap2 _ | exact grB_lt (by first | exact bare0_ints | assumption | (intro v hv; (repeat (rcases List.mem_cons.1 hv with rfl | hv; exact rfl)); cases hv)) _ | exact ltB_mapB | assumption) (avB_nil _) rfl | exact SubQ.ofL (by first | rfl | simp) (by first | exact bare0_ints | assumption | (intro v hv; (repeat (rcases List.mem_cons.1 hv with rfl | hv; exact rfl)); cases hv)) (by first | exact Or.inl rfl | exact Or.inr rfl) | exact SubQ.fin (by (conv => whnf); (repeat' (first | exact True.intro | rfl | refine And.intro ?_ ?_)); done) (fun h => h) (by first | exact Or.inl rfl | exact Or.inr rfl)))), rfl, rfl⟩⟩
    | none =>
      have hlen : l.length ≤ i + 1 := by simpa using hy
      rw [drop_at hx, List.drop_eq_nil_of_le hlen, srt_one] at hQ
      (conv => whnf); (repeat' (first | ((with_reducible refine ifb_mk (fun hc => ?_) (fun hc => ?_)) <;> ((try simp only [decide_eq_true_eq, decide_eq_false_iff_not, Bool.not_eq_true', Bool.not_eq_false', Int.not_lt, Int.not_le, ne_eq, Decidable.not_not, beq_iff_eq, List.cons.injEq, and_true] at hc); (first | (exfalso; omega) | conv => whnf))) | ((with_reducible refine And.intro True.intro ?_); conv => whnf) | ((with_reducible refine And.intro ?hh ?_); (case hh => (unfold InR; (try dsimp only); omega)); conv => whnf) | ((with_reducible refine And.intro ?hh ?_); (case hh => ((try dsimp only); omega)); conv => whnf) | ((with_reducible refine And.intro ?hh ?_); (case hh => ((conv => whnf); (repeat' (first | exact True.intro | rfl | refine And.intro ?_ ?_)); done)); conv => whnf) | fail))
      (refine ⟨[], ?_, rfl, rfl, trivial, (by (repeat' (first | exact True.intro | rfl | refine And.intro ?_ ?_)))⟩; simp only [renV, renL]; congr 1; grind)
end Go.Proofs.D

namespace Go.Proofs.D
open Go.As
set_option maxRecDepth 20000
set_option linter.unusedVariables false
set_option linter.unusedSimpArgs false

theorem refCheckStar_ok (h : H) (lo hi : Int) (l : List E) (sv : V) (hl : l.length ≤ 9223372036854775807) (hs : SlC h (entVs l) l.length sv) :
    CallOk Try.prog 23 [starV lo hi sv] h (.int .i64 (starErr lo hi l)) h := by
  obtain ⟨vo, svC, hsv, hca, hvw⟩ := hs.view 0
  refine CallOk.run Try.func23 rfl rfl (argsC := [starV lo hi svC]) (Nat.le_of_ble_eq_true rfl) [vo] (.cons (CaL.agg (.cons (.bare rfl) (.cons (.bare rfl) (.cons (hca _ rfl) .nil)))) .nil) (viewMc1 entVs_bare hvw) rfl (WpR.of_vc ?_)
  cases hsv with
  | nil h0 =>
    (conv => whnf); (repeat' (first | ((with_reducible refine ifb_mk (fun hc => ?_) (fun hc => ?_)) <;> ((try simp only [decide_eq_true_eq, decide_eq_false_iff_not, Bool.not_eq_true', Bool.not_eq_false', Int.not_lt, Int.not_le, ne_eq, Decidable.not_not, beq_iff_eq, List.cons.injEq, and_true] at hc); (first | (exfalso; omega) | conv => whnf))) | ((with_reducible refine And.intro True.intro ?_); conv => whnf) | ((with_reducible refine And.intro ?hh ?_); (case hh => (unfold InR; (try dsimp only); omega)); conv => whnf) | ((with_reducible refine And.intro ?hh ?_); (case hh => ((try dsimp only); omega)); conv => whnf) | ((with_reducible refine And.intro ?hh ?_); (case hh => ((conv => whnf); (repeat' (first | exact True.intro | rfl | refine And.intro ?_ ?_)); done)); conv => whnf) | fail))
    (refine ⟨[], ?_, rfl, rfl, trivial, (by (repeat' (first | exact True.intro | rfl | refine And.intro ?_ ?_)))⟩; simp only [renV, renL]; congr 1; unfold starErr; rw [if_pos (by omega)])
  | @sl cap ex =>
  (conv => whnf); (repeat' (first | ((with_reducible refine ifb_mk (fun hc => ?_) (fun hc => ?_)) <;> ((try simp only [decide_eq_true_eq, decide_eq_false_iff_not, Bool.not_eq_true', Bool.not_eq_false', Int.not_lt, Int.not_le, ne_eq, Decidable.not_not, beq_iff_eq, List.cons.injEq, and_true] at hc); (first | (exfalso; omega) | conv => whnf))) | ((with_reducible refine And.intro True.intro ?_); conv => whnf) | ((with_reducible refine CallX.all ?_); refine CallW.of_ok (isRange_ok _ _ _ _ (by omega)) ?_; conv => whnf) | ((with_reducible refine And.intro ?hh ?_); (case hh => (unfold InR; (try dsimp only); omega)); conv => whnf) | ((with_reducible refine And.intro ?hh ?_); (case hh => ((try dsimp only); omega)); conv => whnf) | ((with_reducible refine And.intro ?hh ?_); (case hh => ((conv => whnf); (repeat' (first | exact True.intro | rfl | refine And.intro ?_ ?_)); done)); conv => whnf) | fail))
  · (refine ⟨[], ?_, rfl, rfl, trivial, (by (repeat' (first | exact True.intro | rfl | refine And.intro ?_ ?_)))⟩; simp only [renV, renL]; congr 1; unfold starErr; grind)
  · (refine ⟨[], ?_, rfl, rfl, trivial, (by (repeat' (first | exact True.intro | rfl | refine And.intro ?_ ?_)))⟩; simp only [renV, renL]; congr 1; unfold starErr; grind)
  · (refine ⟨[], ?_, rfl, rfl, trivial, (by (repeat' (first | exact True.intro | rfl | refine And.intro ?_ ?_)))⟩; simp only [renV, renL]; congr 1; unfold starErr; grind)
  rename_i hc1 hc2
  have e1 : starErr lo hi l = if l.all okE = false then 3 else if srt l = false then 16 else 0 := by unfold starErr; grind
  clear hc
  have hBare := @entVs_bare l
  refine WpR.loopD (ι := Nat) [] [1] [] [] 2 (fun i => [(3, .int .i64 i)]) (fun _ => []) (fun i => l.length - i) (fun i => i ≤ l.length ∧ l.all okE = (l.drop i).all okE) ?_ (0) (⟨Nat.zero_le _, rfl⟩) [] ⟨rfl, rfl, (by (repeat' (first | exact True.intro | rfl | refine And.intro ?_ ?_))), (by (repeat' (first | exact True.intro | rfl | refine And.intro ?_ ?_))), (by (repeat' (first | exact True.intro | rfl | refine And.intro ?_ ?_))), (by (repeat' (first | exact True.intro | exact Or.inl rfl | refine And.intro ?_ ?_ | refine Or.inr ⟨_, rfl, ?_⟩ | exact SubQ.same (n := 1000) (Y := []) (fun _ _ _ => rfl) (by first | exact True.intro | exact ltB_all rfl | exact ltB_ofLb (by first | exact bare0_ints | assumption | (intro v hv; (repeat (rcases List.mem_cons.1 hv with rfl | hv; exact rfl)); cases hv)) | exact ltB_loop rfl rfl | exact hMap _ | exact hMap2 _ | exact grB_lt (by first | exact bare0_ints | assumption | (intro v hv; (repeat (rcases List.mem_cons.1 hv with rfl | hv; exact rfl)); cases hv)) _ | exact ltB_mapB | assumption) (avB_nil _) rfl | exact SubQ.ofL (by first | rfl | simp) (by first | exact bare0_ints | assumption | (intro v hv; (repeat (rcases List.mem_cons.1 hv with rfl | hv; exact rfl)); cases hv)) (by first | exact Or.inl rfl | exact Or.inr rfl) | exact SubQ.fin (by (conv => whnf); (repeat' (first | exact True.intro | rfl | refine And.intro ?_ ?_)); done) (fun h => h) (by first | exact Or.inl rfl | exact Or.inr rfl)))), rfl, rfl⟩ rfl rfl rfl (fun _ => rfl) (by (repeat' (first | exact True.intro | refine And.intro ?_ ?_ | exact avV_nil _ | rfl))) (by (repeat' (first | exact True.intro | (with_reducible exact avB_nil _) | ((with_reducible refine avB_all ?_); rfl) | ((with_reducible refine avB_ofLb ?_); exact (by first | exact bare0_ints | assumption | (intro v hv; (repeat (rcases List.mem_cons.1 hv with rfl | hv; exact rfl)); cases hv))) | ((with_reducible refine ltB_all ?_); rfl) | ((with_reducible refine ltB_ofLb ?_); exact (by first | exact bare0_ints | assumption | (intro v hv; (repeat (rcases List.mem_cons.1 hv with rfl | hv; exact rfl)); cases hv))) | ((with_reducible refine ltB_loop ?_ ?_) <;> rfl) | (with_reducible exact hMap _) | (with_reducible exact hMap2 _) | (with_reducible exact ltB_mapB) | ((with_reducible refine grB_lt ?_ _); exact (by first | exact bare0_ints | assumption | (intro v hv; (repeat (rcases List.mem_cons.1 hv with rfl | hv; exact rfl)); cases hv))) | (with_reducible assumption) | refine And.intro ?_ ?_ | exact (by first | exact True.intro | exact ltB_all rfl | exact ltB_ofLb (by first | exact bare0_ints | assumption | (intro v hv; (repeat (rcases List.mem_cons.1 hv with rfl | hv; exact rfl)); cases hv)) | exact ltB_loop rfl rfl | exact hMap _ | exact hMap2 _ | exact grB_lt (by first | exact bare0_ints | assumption | (intro v hv; (repeat (rcases List.mem_cons.1 hv with rfl | hv; exact rfl)); cases hv)) _ | exact ltB_mapB | assumption)))) (fun _ _ => (by (repeat' (first | exact True.intro | rfl | refine And.intro ?_ ?_ | exact (by decide) | exact (by first | exact True.intro | exact hMap _ | exact hMap2 _ | exact grB_lt (by first | exact bare0_ints | assumption | (intro v hv; (repeat (rcases List.mem_cons.1 hv with rfl | hv; exact rfl)); cases hv)) _ | exact ltB_all rfl | exact ltB_ofLb (by first | exact bare0_ints | assumption | (intro v hv; (repeat (rcases List.mem_cons.1 hv with rfl | hv; exact rfl)); cases hv)) | exact ltB_loop rfl rfl | exact ltB_mapB | assumption))))) (fun _ _ => (by (repeat' (first | exact True.intro | rfl | refine And.intro ?_ ?_ | exact (by decide) | exact (by first | exact True.intro | exact hMap _ | exact hMap2 _ | exact grB_lt (by first | exact bare0_ints | assumption | (intro v hv; (repeat (rcases List.mem_cons.1 hv with rfl | hv; exact rfl)); cases hv)) _ | exact ltB_all rfl | exact ltB_ofLb (by first | exact bare0_ints | assumption | (intro v hv; (repeat (rcases List.mem_cons.1 hv with rfl | hv; exact rfl)); cases hv)) | exact ltB_loop rfl rfl | exact ltB_mapB | assumption))))) (fun _ _ => (by (repeat' (first | exact True.intro | rfl | refine And.intro ?_ ?_)))) rfl
  rintro i ⟨h1, hP⟩
  refine WpR.of_vc ?_
  cases hx : l[i]? with
  | some e =>
    rw [drop_at hx, List.all_cons] at hP
    have hlt := (List.getElem?_eq_some_iff.1 hx).1
    (conv => whnf); (repeat' (first | ((with_reducible refine ifb_mk (fun hc => ?_) (fun hc => ?_)) <;> ((try simp only [decide_eq_true_eq, decide_eq_false_iff_not, Bool.not_eq_true', Bool.not_eq_false', Int.not_lt, Int.not_le, ne_eq, Decidable.not_not, beq_iff_eq, List.cons.injEq, and_true] at hc); (first | (exfalso; omega) | conv => whnf))) | ((with_reducible refine And.intro True.intro ?_); conv => whnf) | ((with_reducible refine grd_get ?_); refine som_mk (a := ?_) ?hh ?_; (case hh => exact entGet0 hx); conv => whnf) | ((with_reducible refine grd_getN ?_); refine som_mk (a := ?_) ?hh ?_; (case hh => exact entGetR hx); conv => whnf) | ((with_reducible refine CallX.all ?_); refine CallW.of_ok (isRange_ok _ _ _ _ (by omega)) ?_; conv => whnf) | ((with_reducible refine And.intro ?hh ?_); (case hh => (unfold InR; (try dsimp only); omega)); conv => whnf) | ((with_reducible refine And.intro ?hh ?_); (case hh => ((try dsimp only); omega)); conv => whnf) | ((with_reducible refine And.intro ?hh ?_); (case hh => ((conv => whnf); (repeat' (first | exact True.intro | rfl | refine And.intro ?_ ?_)); done)); conv => whnf) | fail))
    · (refine ⟨[], ?_, rfl, rfl, trivial, (by (repeat' (first | exact True.intro | rfl | refine And.intro ?_ ?_)))⟩; simp only [renV, renL]; congr 1; grind [okE])
    · (refine ⟨[], ?_, rfl, rfl, trivial, (by (repeat' (first | exact True.intro | rfl | refine And.intro ?_ ?_)))⟩; simp only [renV, renL]; congr 1; grind [okE])
    · (refine ⟨[], ?_, rfl, rfl, trivial, (by (repeat' (first | exact True.intro | rfl | refine And.intro ?_ ?_)))⟩; simp only [renV, renL]; congr 1; grind [okE])
    · exact ⟨i + 1, [], by omega, ⟨by omega, by grind [okE]⟩, ⟨rfl, rfl, (by (repeat' (first | exact True.intro | rfl | refine And.intro ?_ ?_))), (by (repeat' (first | exact True.intro | rfl | refine And.intro ?_ ?_))), (by (repeat' (first | exact True.intro | rfl | refine And.intro ?_ ?_))), (by (repeat' (first | exact True.intro | exact Or.inl rfl | refine And.intro ?_ ?_ | refine Or.inr ⟨_, rfl, ?_⟩ | exact SubQ.same (n := 1000) (Y := []) (fun _ _ _ => rfl) (by first | exact True.intro | exact ltB_all rfl | exact ltB_ofLb (by first | exact bare0_ints | assumption | (intro v hv; (repeat (rcases List.mem_cons.1 hv with rfl | hv; exact rfl)); cases hv)) | exact ltB_loop rfl rfl | exact hMap _ | exact hMap2 _ | exact grB_lt (by first | exact bare0_ints | assumption | (intro v hv; (repeat (rcases List.mem_cons.1 hv with rfl | hv; exact rfl)); cases hv)) _ | exact ltB_mapB | assumption) (avB_nil _) rfl | exact SubQ.ofL (by first | rfl | simp) (by first | exact bare0_ints | assumption | (intro v hv; (repeat (rcases List.mem_cons.1 hv with rfl | hv; exact rfl)); cases hv)) (by first | exact Or.inl rfl | exact Or.inr rfl) | exact SubQ.fin (by (conv => whnf); (repeat' (first | exact True.intro | rfl | refine And.intro ?_ ?_)); done) (fun h => h) (by first | exact Or.inl rfl | exact Or.inr rfl)))), rfl, rfl⟩⟩
  | none =>
    have hlen : l.length ≤ i := by simpa using hx
    rw [List.drop_eq_nil_of_le hlen, List.all_nil] at hP
    have e2 : starErr lo hi l = if srt l = false then 16 else 0 := by grind
    (conv => whnf); (repeat' (first | ((with_reducible refine ifb_mk (fun hc => ?_) (fun hc => ?_)) <;> ((try simp only [decide_eq_true_eq, decide_eq_false_iff_not, Bool.not_eq_true', Bool.not_eq_false', Int.not_lt, Int.not_le, ne_eq, Decidable.not_not, beq_iff_eq, List.cons.injEq, and_true] at hc); (first | (exfalso; omega) | conv => whnf))) | ((with_reducible refine And.intro True.intro ?_); conv => whnf) | ((with_reducible refine And.intro ?hh ?_); (case hh => (unfold InR; (try dsimp only); omega)); conv => whnf) | ((with_reducible refine And.intro ?hh ?_); (case hh => ((try dsimp only); omega)); conv => whnf) | ((with_reducible refine And.intro ?hh ?_); (case hh => ((conv => whnf); (repeat' (first | exact True.intro | rfl | refine And.intro ?_ ?_)); done)); conv => whnf) | fail))
    refine WpR.loopD (ι := Nat) [] [1] [] [] 2 (fun i => [(4, .int .i64 ((i : Int) + 1))]) (fun _ => []) (fun i => l.length - i) (fun i => i + 1 ≤ l.length ∧ srt l = srt (l.drop i)) ?_ (0) (⟨by omega, rfl⟩) [] ⟨rfl, rfl, (by (repeat' (first | exact True.intro | rfl | refine And.intro ?_ ?_))), (by (repeat' (first | exact True.intro | rfl | refine And.intro ?_ ?_))), (by (repeat' (first | exact True.intro | rfl | refine And.intro ?_ ?_))), (by (repeat' (first | exact True.intro | exact Or.inl rfl | refine And.intro ?_ ?_ | refine Or.inr ⟨_, rfl, ?_⟩ | exact SubQ.same (n := 1000) (Y := []) (fun _ _ _ => rfl) (by first | exact True.intro | exact ltB_all rfl | exact ltB_ofLb (by first | exact bare0_ints | assumption | (intro v hv; (repeat (rcases List.mem_cons.1 hv with rfl | hv; exact rfl)); cases hv)) | exact ltB_loop rfl rfl | exact hMap _ | exact hMap2 _ | exact grB_lt (by first | exact bare0_ints | assumption | (intro v hv; (repeat (rcases List.mem_cons.1 hv with rfl | hv; exact rfl)); cases hv)) _ | exact ltB_mapB | assumption) (avB_nil _) rfl | exact SubQ.ofL (by first | rfl | simp) (by first | exact bare0_ints | assumption | (intro v hv; (repeat (rcases List.mem_cons.1 hv with rfl | hv; exact rfl)); cases hv)) (by first | exact Or.inl rfl | exact Or.inr rfl) | exact SubQ.fin (by (conv => whnf); (repeat' (first | exact True.intro | rfl | refine And.intro ?_ ?_)); done) (fun h => h) (by first | exact Or.inl rfl | exact Or.inr rfl)))), rfl, rfl⟩ rfl rfl rfl (fun _ => rfl) (by (repeat' (first | exact True.intro | refine And.intro ?_ ?_ | exact avV_nil _ | rfl))) (by (repeat' (first | exact True.intro | (with_reducible exact avB_nil _) | ((with_reducible refine avB_all ?_); rfl) | ((with_reducible refine avB_ofLb ?_); exact (by first | exact bare0_ints | assumption | (intro v hv; (repeat (rcases List.mem_cons.1 hv with rfl | hv; exact rfl)); cases hv))) | ((with_reducible refine ltB_all ?_); rfl) | ((with_reducible refine ltB_ofLb ?_); exact (by first | exact bare0_ints | assumption | (intro v hv; (repeat (rcases List.mem_cons.1 hv with rfl | hv; exact rfl)); cases hv))) | ((with_reducible refine ltB_loop ?_ ?_) <;> rfl) | (with_reducible exact hMap _) | (with_reducible exact hMap2 _) | (with_reducible exact ltB_mapB) | ((with_reducible refine grB_lt ?_ _); exact (by first | exact bare0_ints | assumption | (intro v hv; (repeat (rcases List.mem_cons.1 hv with rfl | hv; exact rfl)); cases hv))) | (with_reducible assumption) | refine And.intro ?_ ?_ | exact (by first | exact True.intro | exact ltB_all rfl | exact ltB_ofLb (by first | exact bare0_ints | assumption | (intro v hv; (repeat (rcases List.mem_cons.1 hv with rfl | hv; exact rfl)); cases hv)) | exact ltB_loop rfl rfl | exact hMap _ | exact hMap2 _ | exact grB_lt (by first | exact bare0_ints | assumption | (intro v hv; (repeat (rcases List.mem_cons.1 hv with rfl | hv; exact rfl)); cases hv)) _ | exact ltB_mapB | assumption)))) (fun _ _ => (by (repeat' (first | exact True.intro | rfl | refine And.intro ?_ ?_ | exact (by decide) | exact (by first | exact True.intro | exact hMap _ | exact hMap2 _ | exact grB_lt (by first | exact bare0_ints | assumption | (intro v hv; (repeat (rcases List.mem_cons.1 hv with rfl | hv; exact rfl)); cases hv)) _ | exact ltB_all rfl | exact ltB_ofLb (by first | exact bare0_ints | assumption | (intro v hv; (repeat (rcases List.mem_cons.1 hv with rfl | hv; exact rfl)); cases hv)) | exact ltB_loop rfl rfl | exact ltB_mapB | assumption))))) (fun _ _ => (by (repeat' (first | exact True.intro | rfl | refine And.intro ?_ ?_ | exact (by decide) | exact (by first | exact True.intro | exact hMap _ | exact hMap2 _ | exact grB_lt (by first | exact bare0_ints | assumption | (intro v hv; (repeat (rcases List.mem_cons.1 hv with rfl | hv; exact rfl)); cases hv)) _ | exact ltB_all rfl | exact ltB_ofLb (by first | exact bare0_ints | assumption | (intro v hv; (repeat (rcases List.mem_cons.1 hv with rfl | hv; exact rfl)); cases hv)) | exact ltB_loop rfl rfl | exact ltB_mapB | assumption))))) (fun _ _ => (by (repeat' (first | exact True.intro | rfl | refine And.intro ?_ ?_)))) rfl
    rintro i ⟨h2, hQ⟩
    refine WpR.of_vc ?_
    have hx : l[i]? = some l[i] := List.getElem?_eq_getElem _
    generalize l[i] = e at hx
    cases hy : l[i + 1]? with
    | some f =>
      have hlt := (List.getElem?_eq_some_iff.1 hy).1
      rw [drop_at hx, drop_at hy, srt_two, ← drop_at hy] at hQ
      (conv => whnf); (repeat' (first | ((with_reducible refine ifb_mk (fun hc => ?_) (fun hc => ?_)) <;> ((try simp only [decide_eq_true_eq, decide_eq_false_iff_not, Bool.not_eq_true', Bool.not_eq_false', Int.not_lt, Int.not_le, ne_eq, Decidable.not_not, beq_iff_eq, List.cons.injEq, and_true] at hc); (first | (exfalso; omega) | conv => whnf))) | ((with_reducible refine And.intro True.intro ?_); conv => whnf) | ((with_reducible refine WpR.draw (id := 13) mixed [0, 1, 2, 3, 4, 5, 6, 7, 8, 9, 10, 11, 12, 13] [0, 1, 0, 7, 15, 31, 0, 64, 0, 256, 960, 1984, 4032, 8191] ?hh ?_); (case hh => kernel_rfl); conv => whnf) | ((with_reducible refine grd_get ?_); refine som_mk (a := ?_) ?hh ?_; (case hh => exact entGet0' hx ((i : Int) + 1 - 1) (by omega)); conv => whnf) | ((with_reducible refine grd_get ?_); refine som_mk (a := ?_) ?hh ?_; (case hh => exact entGet0' hy ((i : Int) + 1) (by omega)); conv => whnf) | ((with_reducible refine And.intro ?hh ?_); (case hh => (unfold InR; (try dsimp only); omega)); conv => whnf) | ((with_reducible refine And.intro ?hh ?_); (case hh => ((try dsimp only); omega)); conv => whnf) | ((with_reducible refine And.intro ?hh ?_); (case hh => ((conv => whnf); (repeat' (first | exact True.intro | rfl | refine And.intro ?_ ?_)); done)); conv => whnf) | fail))
      · (refine ⟨[], ?_, rfl, rfl, trivial, (by (repeat' (first | exact True.intro | rfl | refine And.intro ?_ ?_)))⟩; simp only [renV, renL]; congr 1; grind)
      · exact ⟨i + 1, [], by omega, ⟨by omega, by grind⟩, ⟨rfl, rfl, (by (repeat' (first | exact True.intro | rfl | refine And.intro ?_ ?_))), (by (repeat' (first | exact True.intro | rfl | refine And.intro ?_ ?_))), (by (repeat' (first | exact True.intro | rfl | refine And.intro ?_ ?_))), (by (repeat' (first | exact True.intro | exact Or.inl rfl | refine And.intro ?_ ?_ | refine Or.inr ⟨_, rfl, ?_⟩ | exact SubQ.same (n := 1000) (Y := []) (fun _ _ _ => rfl) (by first | exact True.intro | exact ltB_all rfl | exact ltB_ofLb (by first | exact bare0_ints | assumption | (intro v hv; (repeat (rcases List.mem_cons.1 hv with rfl | hv; exact rfl)); cases hv)) | exact ltB_loop rfl rfl | exact hMap _ | exact hMap2 _ | exact grB_lt (by first | exact bare0_ints | assumption | (intro v hv; (repeat (rcases List.mem_cons.1 hv with rfl | hv; exact rfl)); cases hv)) _ | exact ltB_mapB | assumption) (avB_nil _) rfl | exact SubQ.ofL (by first | rfl | simp) (by first | exact bare0_ints | assumption | (intro v hv; (repeat (rcases List.mem_cons.1 hv with rfl | hv; exact rfl)); cases hv)) (by first | exact Or.inl rfl | exact Or.inr rfl) | exact SubQ.fin (by (conv => whnf); (repeat' (first | exact True.intro | rfl | refine And.intro ?_ ?_)); done) (fun h => h) (by first | exact Or.inl rfl | exact Or.inr rfl)))), rfl, rfl⟩⟩
    | none =>
      have hlen : l.length ≤ i + 1 := by simpa using hy
      rw [drop_at hx, List.drop_eq_nil_of_le hlen, srt_one] at hQ
      (conv => whnf); (repeat' (first | ((with_reducible refine ifb_mk (fun hc => ?_) (fun hc => ?_)) <;> ((try simp only [decide_eq_true_eq, decide_eq_false_iff_not, Bool.not_eq_true', Bool.not_eq_false', Int.not_lt, Int.not_le, ne_eq, Decidable.not_not, beq_iff_eq, List.cons.injEq, and_true] at hc); (first | (exfalso; omega) | conv => whnf))) | ((with_reducible refine And.intro True.intro ?_); conv => whnf) | ((with_reducible refine And.intro ?hh ?_); (case hh => (unfold InR; (try dsimp only); omega)); conv => whnf) | ((with_reducible refine And.intro ?hh ?_); (case hh => ((try dsimp only); omega)); conv => whnf) | ((with_reducible refine And.intro ?hh ?_); (case hh => ((conv => whnf); (repeat' (first | exact True.intro | rfl | refine And.intro ?_ ?_)); done)); conv => whnf) | fail))
      (refine ⟨[], ?_, rfl, rfl, trivial, (by (repeat' (first | exact True.intro | rfl | refine And.intro ?_ ?_)))⟩; simp only [renV, renL]; congr 1; grind)

theorem refLess_ok (h : H) (a b c d : Int) (h1 : InR (a * d)) (h2 : InR (c * b)) : CallOk Try.prog 46 [.agg [.int .i64 a, .int .i64 b], .agg [.int .i64 c, .int .i64 d]] h (.bool (decide (a * d < c * b))) h := by
  refine CallOk.run0 Try.func46 rfl rfl rfl rfl rfl (WpR.of_vc ?_)
  (conv => whnf); (repeat' (first | ((with_reducible refine ifb_mk (fun hc => ?_) (fun hc => ?_)) <;> ((try simp only [decide_eq_true_eq, decide_eq_false_iff_not, Bool.not_eq_true', Bool.not_eq_false', Int.not_lt, Int.not_le, ne_eq, Decidable.not_not, beq_iff_eq, List.cons.injEq, and_true] at hc); (first | (exfalso; omega) | conv => whnf))) | ((with_reducible refine And.intro True.intro ?_); conv => whnf) | ((with_reducible refine grd_and ?_); refine And.intro (h1) ?_; conv => whnf) | ((with_reducible refine grd_and ?_); refine And.intro (h2) ?_; conv => whnf) | ((with_reducible refine And.intro ?hh ?_); (case hh => (unfold InR; (try dsimp only); omega)); conv => whnf) | ((with_reducible refine And.intro ?hh ?_); (case hh => ((try dsimp only); omega)); conv => whnf) | ((with_reducible refine And.intro ?hh ?_); (case hh => ((conv => whnf); (repeat' (first | exact True.intro | rfl | refine And.intro ?_ ?_)); done)); conv => whnf) | fail))
  all_goals (refine ⟨[], ?_, rfl, rfl, trivial, (by (repeat' (first | exact True.intro | rfl | refine And.intro ?_ ?_)))⟩; first | rfl | (simp only [renV, renL]; first | done | rfl | (congr 1; grind []) | grind []))

theorem gcd_step' (x y : Int) (hx : 0 ≤ x) (hy : 0 < y) : Int.gcd (x.tmod y) y = Int.gcd x y := by
  rcases Int.lt_or_le 0 x with h | h
  · rw [gcd_step y x hy h, Int.gcd_comm]
  · have : x = 0 := by omega
    subst this; simp
theorem mx_abs (a : Int) : (match ilt a (-a) with | true => -a | false => a) = (a.natAbs : Int) := by
  rw [ilt_eq]
  by_cases h : a < -a
  · rw [decide_eq_true h]; show -a = _; omega
  · rw [decide_eq_false h]; show a = _; omega

theorem refFraction_ok (h : H) (a b : Int) (ha : InQ a) (hb : 0 < b ∧ b ≤ 4611686018427387904) : CallOk Try.prog 53 [.int .i64 a, .int .i64 b] h (.agg [.int .i64 (fr a b).1, .int .i64 (fr a b).2]) h := by
  have hgp := gcd_pos a b hb.1
  unfold InQ at ha
  have h1 := tdiv_bd a _ hgp _ ha
  have h2 := tdiv_bd b _ hgp 4611686018427387904 (by omega)
  refine CallOk.run0 Try.func53 rfl rfl rfl rfl rfl (WpR.of_vc ?_)
  (conv => whnf); (repeat' (first | ((with_reducible refine ifb_mk (fun hc => ?_) (fun hc => ?_)) <;> ((try simp only [decide_eq_true_eq, decide_eq_false_iff_not, Bool.not_eq_true', Bool.not_eq_false', Int.not_lt, Int.not_le, ne_eq, Decidable.not_not, beq_iff_eq, List.cons.injEq, and_true] at hc); (first | (exfalso; omega) | conv => whnf))) | ((with_reducible refine And.intro True.intro ?_); conv => whnf) | ((with_reducible refine And.intro ?hh ?_); (case hh => (unfold InR; (try dsimp only); omega)); conv => whnf) | ((with_reducible refine And.intro ?hh ?_); (case hh => ((try dsimp only); omega)); conv => whnf) | ((with_reducible refine And.intro ?hh ?_); (case hh => ((conv => whnf); (repeat' (first | exact True.intro | rfl | refine And.intro ?_ ?_)); done)); conv => whnf) | fail))
  refine WpR.loopD (ι := Int × Int) [] [0, 1, 4] [] [] 1 (fun p => [(5, .int .i64 p.1), (6, .int .i64 p.2)]) (fun _ => []) (fun p => p.2.toNat) (fun p => 0 ≤ p.1 ∧ p.1 ≤ 4611686018427387904 ∧ 0 ≤ p.2 ∧ p.2 ≤ 4611686018427387904 ∧ Int.gcd p.1 p.2 = Int.gcd a b) ?_ ((match ilt a (-a) with | true => -a | false => a, b)) (by dsimp only; rw [mx_abs]; exact ⟨by omega, by omega, by omega, by omega, by simp [Int.gcd]⟩) [] ⟨rfl, rfl, (by (repeat' (first | exact True.intro | rfl | refine And.intro ?_ ?_))), (by (repeat' (first | exact True.intro | rfl | refine And.intro ?_ ?_))), (by (repeat' (first | exact True.intro | rfl | refine And.intro ?_ ?_))), (by (repeat' (first | exact True.intro | exact Or.inl rfl | refine And.intro ?_ ?_ | refine Or.inr ⟨_, rfl, ?_⟩ | exact SubQ.same (n := 1000) (Y := []) (fun _ _ _ => rfl) (by first | exact True.intro | exact ltB_all rfl | exact ltB_ofLb (by first | exact bare0_ints | assumption | (intro v hv; (repeat (rcases List.mem_cons.1 hv with rfl | hv; exact rfl)); cases hv)) | exact ltB_loop rfl rfl | exact hMap _ | exact hMap2 _ | exact grB_lt (by first | exact bare0_ints | assumption | (intro v hv; (repeat (rcases List.mem_cons.1 hv with rfl | hv; exact rfl)); cases hv)) _ | exact ltB_mapB | assumption) (avB_nil _) rfl | exact SubQ.ofL (by first | rfl | simp) (by first | exact bare0_ints | assumption | (intro v hv; (repeat (rcases List.mem_cons.1 hv with rfl | hv; exact rfl)); cases hv)) (by first | exact Or.inl rfl | exact Or.inr rfl) | exact SubQ.fin (by (conv => whnf); (repeat' (first | exact True.intro | rfl | refine And.intro ?_ ?_)); done) (fun h => h) (by first | exact Or.inl rfl | exact Or.inr rfl)))), rfl, rfl⟩ rfl rfl rfl (fun _ => rfl) (by (repeat' (first | exact True.intro | refine And.intro ?_ ?_ | exact avV_nil _ | rfl))) (by (repeat' (first | exact True.intro | (with_reducible exact avB_nil _) | ((with_reducible refine avB_all ?_); rfl) | ((with_reducible refine avB_ofLb ?_); exact (by first | exact bare0_ints | assumption | (intro v hv; (repeat (rcases List.mem_cons.1 hv with rfl | hv; exact rfl)); cases hv))) | ((with_reducible refine ltB_all ?_); rfl) | ((with_reducible refine ltB_ofLb ?_); exact (by first | exact bare0_ints | assumption | (intro v hv; (repeat (rcases List.mem_cons.1 hv with rfl | hv; exact rfl)); cases hv))) | ((with_reducible refine ltB_loop ?_ ?_) <;> rfl) | (with_reducible exact hMap _) | (with_reducible exact hMap2 _) | (with_reducible exact ltB_mapB) | ((with_reducible refine grB_lt ?_ _); exact (by first | exact bare0_ints | assumption | (intro v hv; (repeat (rcases List.mem_cons.1 hv with rfl | hv; exact rfl)); cases hv))) | (with_reducible assumption) | refine And.intro ?_ ?_ | exact (by first | exact True.intro | exact ltB_all rfl | exact ltB_ofLb (by first | exact bare0_ints | assumption | (intro v hv; (repeat (rcases List.mem_cons.1 hv with rfl | hv; exact rfl)); cases hv)) | exact ltB_loop rfl rfl | exact hMap _ | exact hMap2 _ | exact grB_lt (by first | exact bare0_ints | assumption | (intro v hv; (repeat (rcases List.mem_cons.1 hv with rfl | hv; exact rfl)); cases hv)) _ | exact ltB_mapB | assumption)))) (fun _ _ => (by (repeat' (first | exact True.intro | rfl | refine And.intro ?_ ?_ | exact (by decide) | exact (by first | exact True.intro | exact hMap _ | exact hMap2 _ | exact grB_lt (by first | exact bare0_ints | assumption | (intro v hv; (repeat (rcases List.mem_cons.1 hv with rfl | hv; exact rfl)); cases hv)) _ | exact ltB_all rfl | exact ltB_ofLb (by first | exact bare0_ints | assumption | (intro v hv; (repeat (rcases List.mem_cons.1 hv with rfl | hv; exact rfl)); cases hv)) | exact ltB_loop rfl rfl | exact ltB_mapB | assumption))))) (fun _ _ => (by (repeat' (first | exact True.intro | rfl | refine And.intro ?_ ?_ | exact (by decide) | exact (by first | exact True.intro | exact hMap _ | exact hMap2 _ | exact grB_lt (by first | exact bare0_ints | assumption | (intro v hv; (repeat (rcases List.mem_cons.1 hv with rfl | hv; exact rfl)); cases hv)) _ | exact ltB_all rfl | exact ltB_ofLb (by first | exact bare0_ints | assumption | (intro v hv; (repeat (rcases List.mem_cons.1 hv with rfl | hv; exact rfl)); cases hv)) | exact ltB_loop rfl rfl | exact ltB_mapB | assumption))))) (fun _ _ => (by (repeat' (first | exact True.intro | rfl | refine And.intro ?_ ?_)))) rfl
  rintro ⟨x, y⟩ ⟨j1, j2, j3, j4, hg⟩
  dsimp only at j1 j2 j3 j4 hg
  have e : x.tmod y = x % y := Int.tmod_eq_emod_of_nonneg (by omega)
  have l0 := Int.emod_nonneg x (b := y)
  have l1 := Int.emod_lt_of_pos x (b := y)
  refine WpR.of_vc ?_
  (conv => whnf); (repeat' (first | ((with_reducible refine ifb_mk (fun hc => ?_) (fun hc => ?_)) <;> ((try simp only [decide_eq_true_eq, decide_eq_false_iff_not, Bool.not_eq_true', Bool.not_eq_false', Int.not_lt, Int.not_le, ne_eq, Decidable.not_not, beq_iff_eq, List.cons.injEq, and_true] at hc); (first | (exfalso; omega) | conv => whnf))) | ((with_reducible refine And.intro True.intro ?_); conv => whnf) | ((with_reducible refine WpR.draw (id := 3) mixed [0, 1, 2, 3, 4, 5] [0, 0, 0, 6, 3, 31] ?hh ?_); (case hh => kernel_rfl); conv => whnf) | ((with_reducible refine And.intro ?hh ?_); (case hh => (unfold InR; (try dsimp only); omega)); conv => whnf) | ((with_reducible refine And.intro ?hh ?_); (case hh => ((try dsimp only); omega)); conv => whnf) | ((with_reducible refine And.intro ?hh ?_); (case hh => ((conv => whnf); (repeat' (first | exact True.intro | rfl | refine And.intro ?_ ?_)); done)); conv => whnf) | fail))
  · exact ⟨(y, x.tmod y), [], by dsimp only; omega, ⟨by dsimp only; omega, by dsimp only; omega, by dsimp only; omega, by dsimp only; omega, by dsimp only; rw [← hg, Int.gcd_comm y]; exact gcd_step' x y j1 (by omega)⟩, ⟨rfl, rfl, (by (repeat' (first | exact True.intro | rfl | refine And.intro ?_ ?_))), (by (repeat' (first | exact True.intro | rfl | refine And.intro ?_ ?_))), (by (repeat' (first | exact True.intro | rfl | refine And.intro ?_ ?_))), (by (repeat' (first | exact True.intro | exact Or.inl rfl | refine And.intro ?_ ?_ | refine Or.inr ⟨_, rfl, ?_⟩ | exact SubQ.same (n := 1000) (Y := []) (fun _ _ _ => rfl) (by first | exact True.intro | exact ltB_all rfl | exact ltB_ofLb (by first | exact bare0_ints | assumption | (intro v hv; (repeat (rcases List.mem_cons.1 hv with rfl | hv; exact rfl)); cases hv)) | exact ltB_loop rfl rfl | exact hMap _ | exact hMap2 _ | exact grB_lt (by first | exact bare0_ints | assumption | (intro v hv; (repeat (rcases List.mem_cons.1 hv with rfl | hv; exact rfl)); cases hv)) _ | exact ltB_mapB | assumption) (avB_nil _) rfl | exact SubQ.ofL (by first | rfl | simp) (by first | exact bare0_ints | assumption | (intro v hv; (repeat (rcases List.mem_cons.1 hv with rfl | hv; exact rfl)); cases hv)) (by first | exact Or.inl rfl | exact Or.inr rfl) | exact SubQ.fin (by (conv => whnf); (repeat' (first | exact True.intro | rfl | refine And.intro ?_ ?_)); done) (fun h => h) (by first | exact Or.inl rfl | exact Or.inr rfl)))), rfl, rfl⟩⟩
  · have hy : y = 0 := by omega
    subst hy
    have hx : x = (Int.gcd a b : Int) := by rw [← hg, Int.gcd_zero_right]; omega
    subst hx
    (conv => whnf); (repeat' (first | ((with_reducible refine ifb_mk (fun hc => ?_) (fun hc => ?_)) <;> ((try simp only [decide_eq_true_eq, decide_eq_false_iff_not, Bool.not_eq_true', Bool.not_eq_false', Int.not_lt, Int.not_le, ne_eq, Decidable.not_not, beq_iff_eq, List.cons.injEq, and_true] at hc); (first | (exfalso; omega) | conv => whnf))) | ((with_reducible refine And.intro True.intro ?_); conv => whnf) | ((with_reducible refine WpR.draw (id := 4) mixed [0, 1, 2, 3, 4, 5, 6, 7] [0, 0, 3, 0, 0, 24, 63, 127] ?hh ?_); (case hh => kernel_rfl); conv => whnf) | ((with_reducible refine And.intro ?hh ?_); (case hh => (unfold InR; (try dsimp only); omega)); conv => whnf) | ((with_reducible refine And.intro ?hh ?_); (case hh => ((try dsimp only); omega)); conv => whnf) | ((with_reducible refine And.intro ?hh ?_); (case hh => ((conv => whnf); (repeat' (first | exact True.intro | rfl | refine And.intro ?_ ?_)); done)); conv => whnf) | fail))
    all_goals (refine ⟨[], ?_, rfl, rfl, trivial, (by (repeat' (first | exact True.intro | rfl | refine And.intro ?_ ?_)))⟩; first | rfl | (simp only [renV, renL]; first | done | rfl | (congr 1; grind [fr]) | grind [fr]))
end Go.Proofs.D

namespace Go.Proofs.D
open Go.As
set_option maxRecDepth 20000
set_option linter.unusedVariables false
set_option linter.unusedSimpArgs false

/-! ### Bounds -/

theorem srt_lt : ∀ {l : List E}, srt l = true → ∀ (i j : Nat) (e f : E), i < j → l[i]? = some e → l[j]? = some f → e.1 < f.1
  | [], _, i, j, e, f, _, h, _ => by simp at h
  | [a], _, i, j, e, f, hij, _, h => by
    have := (List.getElem?_eq_some_iff.1 h).1
    simp at this; omega
  | a :: b :: l, hs, i, j, e, f, hij, hi, hj => by
    rw [srt_two, Bool.and_eq_true, decide_eq_true_eq] at hs
    cases j with
    | zero => omega
    | succ j =>
      have hj' : (b :: l)[j]? = some f := by simpa using hj
      cases i with
      | zero =>
        simp at hi; subst hi
        cases j with
        | zero => simp at hj'; subst hj'; exact hs.1
        | succ j => exact Int.lt_trans hs.1 (srt_lt hs.2 0 (j + 1) b f (by omega) rfl hj')
      | succ i => exact srt_lt hs.2 i j e f (by omega) (by simpa using hi) hj'

theorem starErr_ok {lo hi : Int} {l : List E} (h : starErr lo hi l = 0) : OkS lo hi l := by
  unfold starErr at h
  have h1 : ¬ (l.length < 1 ∨ 12 < l.length) := by intro hc; rw [if_pos hc] at h; omega
  rw [if_neg h1] at h
  have h2 : ¬ vr lo hi 500 = false := by intro hc; rw [if_pos hc] at h; omega
  rw [if_neg h2] at h
  have h3 : ¬ l.all okE = false := by intro hc; rw [if_pos hc] at h; omega
  rw [if_neg h3] at h
  have h4 : ¬ srt l = false := by intro hc; rw [if_pos hc] at h; omega
  simp only [Bool.not_eq_false] at h2 h3 h4
  unfold vr at h2
  have h2 := of_decide_eq_true h2
  refine ⟨by omega, by omega, by omega, fun i e he => ?_, srt_lt h4⟩
  have := List.all_eq_true.1 h3 e (List.mem_of_getElem? he)
  unfold okE vr at this
  simp only [Bool.and_eq_true, decide_eq_true_eq] at this
  omega

theorem SlC.own {h : H} {L : List V} {b n cap : Nat} {ex w : Bool} {g : Option (Nat × Nat)} (hb : h.get b = some (.cells (ofL L 0) w g)) : SlC h L n (.sl b 0 n cap ex) :=
  SlC.sl hb (fun _ _ h => by rw [Nat.zero_add]; exact get_ofL0 h)
theorem SlC.none {h : H} {l : List E} (h0 : l.length = 0) : SlC h (entVs l) l.length .nils := by
  have : l = [] := List.eq_nil_of_length_eq_zero h0
  subst this
  exact .nil rfl rfl

def sideN (high : Bool) : Int := if high then 1 else 0
abbrev qV (x : Int × Int) : V := .agg [.int .i64 x.1, .int .i64 x.2]

end Go.Proofs.D

namespace Go.Proofs.D
open Go.As
set_option maxRecDepth 20000
set_option linter.unusedVariables false
set_option linter.unusedSimpArgs false

end Go.Proofs.D

namespace Go.Proofs.D
open Go.As
set_option maxRecDepth 20000
set_option linter.unusedVariables false
set_option linter.unusedSimpArgs false

theorem span_ok (h : H) (lo hi : Int) (n : Nat) (hn : n ≤ 1000) (h0 : 0 < n) (L : List V) (hL : ∀ v ∈ L, bare0 v = true) (sv : V) (hsv : SlC h L n sv) (B : List ((Int × Int) × Bd × Nat)) (clock : Nat) (hB : OkB B) (m : Nat) (hm : h.get m = some (.map (mapB B) clock))
    (p0 p1 : Int × Int) (b0 b1 : Bd) (t0 : tightL B 0 (pairsL n) = some p0) (t1 : tightL B 1 (pairsL n) = some p1) (g0 : getB B p0 = some b0) (g1 : getB B p1 = some b1) :
   CallOk Try.prog 73 [.agg [.int .i64 lo, .int .i64 hi, sv, .map m]] h (.agg (bL (b0.1, b1.2))) h := by
  obtain ⟨vo, svC, hsv', hca, hvw⟩ := hsv.view 0
  obtain ⟨cap, ex, rfl⟩ := Sv.pos hsv' h0
  refine CallOk.run Try.func73 rfl rfl (argsC := [.agg [.int .i64 lo, .int .i64 hi, .sl 0 0 n cap ex, .map 1]]) (bs := [.cells (ofL L 0) false none, .map (mapB B) clock]) (Nat.le_of_ble_eq_true rfl) [vo, some (m, 0)] (.cons (CaL.agg (.cons (.bare rfl) (.cons (.bare rfl) (.cons (hca _ rfl) (.cons (.map rfl) .nil))))) .nil) (viewMcm hL hvw hm (fun e he => by obtain ⟨x, _, rfl⟩ := List.mem_map.1 he; rfl)) rfl (WpR.of_vc ?_)
  have e0 := tightest_ok (hp [.cells (ofL L 0) false none, .map (mapB B) clock])
  obtain ⟨j0, c0, hj0, hk0⟩ := findB_some g0
  obtain ⟨j1, c1, hj1, hk1⟩ := findB_some g1
  have k0 : ∀ h' sv', SlC h' L n sv' → ∀ m', h'.get m' = some (.map (mapB B) clock) → CallOk Try.prog 69 [.agg [.int .i64 lo, .int .i64 hi, sv', .map m'], .int .i64 0] h' (pV p0) h' := fun h' sv' hs' m' hm' => by
    have := tightest_ok h' lo hi n hn h0 L hL sv' hs' B clock hB m' hm' 0 (.inl rfl)
    rwa [t0] at this
  have k1 : ∀ h' sv', SlC h' L n sv' → ∀ m', h'.get m' = some (.map (mapB B) clock) → CallOk Try.prog 69 [.agg [.int .i64 lo, .int .i64 hi, sv', .map m'], .int .i64 1] h' (pV p1) h' := fun h' sv' hs' m' hm' => by
    have := tightest_ok h' lo hi n hn h0 L hL sv' hs' B clock hB m' hm' 1 (.inr rfl)
    rwa [t1] at this
  (conv => whnf); (repeat' (first | ((with_reducible refine ifb_mk (fun hc => ?_) (fun hc => ?_)) <;> ((try simp only [decide_eq_true_eq, decide_eq_false_iff_not, Bool.not_eq_true', Bool.not_eq_false', Int.not_lt, Int.not_le, ne_eq, Decidable.not_not, beq_iff_eq, List.cons.injEq, and_true] at hc); (first | (exfalso; omega) | conv => whnf))) | ((with_reducible refine And.intro True.intro ?_); conv => whnf) | ((with_reducible refine WpR.loopU 3 ?_); conv => whnf) | ((with_reducible refine WpR.draw (id := 5) mixed [0, 1, 2, 3, 4, 7, 5, 6, 8, 9, 10] [0, 0, 2, 0, 0, 24, 62, 0, 254, 511, 1023] ?hh ?_); (case hh => kernel_rfl); conv => whnf) | ((with_reducible refine grd_ex ?_); refine ex_ok (k0 _ _ (SlC.own rfl) _ rfl) ?_; conv => whnf) | ((with_reducible refine grd_ex ?_); refine ex_ok (k1 _ _ (SlC.own rfl) _ rfl) ?_; conv => whnf) | (refine som_mk (hj0 _) ?_; conv => whnf) | (refine som_mk (hk0) ?_; conv => whnf) | (refine som_mk (hj1 _) ?_; conv => whnf) | (refine som_mk (hk1) ?_; conv => whnf) | ((with_reducible refine And.intro ?hh ?_); (case hh => (unfold InR; (try dsimp only); omega)); conv => whnf) | ((with_reducible refine And.intro ?hh ?_); (case hh => ((try dsimp only); omega)); conv => whnf) | ((with_reducible refine And.intro ?hh ?_); (case hh => ((conv => whnf); (repeat' (first | exact True.intro | rfl | refine And.intro ?_ ?_)); done)); conv => whnf) | fail))
  all_goals (refine ⟨[], ?_, rfl, rfl, trivial, (by (repeat' (first | exact True.intro | rfl | refine And.intro ?_ ?_)))⟩; first | rfl | (simp only [renV, renL]; first | done | rfl | (congr 1; grind []) | grind []))

theorem clash_ok (h : H) (b : Bd) (h1 : InR (b.1.1 * b.2.2)) (h2 : InR (b.2.1 * b.1.2)) : CallOk Try.prog 74 [.agg (bL b)] h (.bool (decide (b.2.1 * b.1.2 < b.1.1 * b.2.2))) h := by
  refine CallOk.run0 Try.func74 rfl rfl rfl rfl rfl (WpR.of_vc ?_)
  (conv => whnf); (repeat' (first | ((with_reducible refine ifb_mk (fun hc => ?_) (fun hc => ?_)) <;> ((try simp only [decide_eq_true_eq, decide_eq_false_iff_not, Bool.not_eq_true', Bool.not_eq_false', Int.not_lt, Int.not_le, ne_eq, Decidable.not_not, beq_iff_eq, List.cons.injEq, and_true] at hc); (first | (exfalso; omega) | conv => whnf))) | ((with_reducible refine And.intro True.intro ?_); conv => whnf) | ((with_reducible refine CallX.all ?_); refine CallW.of_ok (compare_ok _ _ _ _ _ h1 h2) ?_; conv => whnf) | ((with_reducible refine And.intro ?hh ?_); (case hh => (unfold InR; (try dsimp only); omega)); conv => whnf) | ((with_reducible refine And.intro ?hh ?_); (case hh => ((try dsimp only); omega)); conv => whnf) | ((with_reducible refine And.intro ?hh ?_); (case hh => ((conv => whnf); (repeat' (first | exact True.intro | rfl | refine And.intro ?_ ?_)); done)); conv => whnf) | fail))
  all_goals (refine ⟨[], ?_, rfl, rfl, trivial, (by (repeat' (first | exact True.intro | rfl | refine And.intro ?_ ?_)))⟩; first | rfl | (simp only [renV, renL]; first | done | rfl | (congr 1; grind [cmp3]) | grind [cmp3]))
end Go.Proofs.D

namespace Go.Proofs.D
open Go.As
set_option maxRecDepth 20000
set_option linter.unusedVariables false
set_option linter.unusedSimpArgs false

/-! ### Fractions as rational numbers -/

def rq (x : Int × Int) : Rat := (x.1 : Rat) / (x.2 : Rat)

theorem rq_lt {a b : Int × Int} (ha : 0 < a.2) (hb : 0 < b.2) : rq a < rq b ↔ a.1 * b.2 < b.1 * a.2 := by
  have ha' : (0 : Rat) < (a.2 : Rat) := Rat.intCast_pos.2 ha
  have hb' : (0 : Rat) < (b.2 : Rat) := Rat.intCast_pos.2 hb
  unfold rq
  rw [Rat.div_lt_iff ha', Rat.div_def, Rat.mul_assoc, Rat.mul_comm (b.2 : Rat)⁻¹, ← Rat.mul_assoc, ← Rat.div_def, Rat.lt_div_iff hb', ← Rat.intCast_mul, ← Rat.intCast_mul, Rat.intCast_lt_intCast]
theorem rq_le {a b : Int × Int} (ha : 0 < a.2) (hb : 0 < b.2) : rq a ≤ rq b ↔ a.1 * b.2 ≤ b.1 * a.2 := by
  rw [← Rat.not_lt, rq_lt hb ha]; omega

/-- Fractions in least terms that are the same number are the same. -/
theorem rq_inj {a b : Int × Int} (ha : 0 < a.2) (hb : 0 < b.2) (ga : Int.gcd a.1 a.2 = 1) (gb : Int.gcd b.1 b.2 = 1) (h : rq a = rq b) : a = b := by
  have h1 : a.1 * b.2 = b.1 * a.2 := by
    have h1 := (rq_le ha hb).1 (by rw [h]; exact Rat.le_refl)
    have h2 := (rq_le hb ha).1 (by rw [h]; exact Rat.le_refl)
    omega
  have d1 : a.2 ∣ b.2 := by
    have : a.2 ∣ a.1 * b.2 := ⟨b.1, by rw [h1, Int.mul_comm]⟩
    rw [← Int.dvd_gcd_mul_iff_dvd_mul, Int.gcd_comm, ga] at this; simpa using this
  have d2 : b.2 ∣ a.2 := by
    have : b.2 ∣ b.1 * a.2 := ⟨a.1, by rw [← h1, Int.mul_comm]⟩
    rw [← Int.dvd_gcd_mul_iff_dvd_mul, Int.gcd_comm, gb] at this; simpa using this
  have h2 : a.2 = b.2 := Int.dvd_antisymm (by omega) (by omega) d1 d2
  rw [h2] at h1
  have h3 := Int.eq_of_mul_eq_mul_right (by omega) h1
  exact Prod.ext h3 h2

theorem fr_pos {a b : Int} (hb : 0 < b) : 0 < (fr a b).2 := by have := fr_den hb (Int.le_refl b) (a := a); omega
theorem fr_mul {a b : Int} (hb : 0 < b) : (fr a b).1 * (Int.gcd a b) = a ∧ (fr a b).2 * (Int.gcd a b) = b := by
  have hg := gcd_pos a b hb
  exact ⟨Int.tdiv_mul_cancel (Int.gcd_dvd_left ..), Int.tdiv_mul_cancel (Int.gcd_dvd_right ..)⟩
theorem fr_gcd {a b : Int} (hb : 0 < b) : Int.gcd (fr a b).1 (fr a b).2 = 1 := by
  have hg := gcd_pos a b hb
  obtain ⟨h1, h2⟩ := fr_mul (a := a) hb
  have h3 : Int.gcd ((fr a b).1 * (Int.gcd a b)) ((fr a b).2 * (Int.gcd a b)) = Int.gcd a b := by rw [h1, h2]
  rw [Int.gcd_mul_right] at h3
  have h4 : 0 < Int.gcd a b := by omega
  simp at h3
  exact Nat.eq_of_mul_eq_mul_right h4 (by omega)
theorem rq_fr {a b : Int} (hb : 0 < b) : rq (fr a b) = (a : Rat) / (b : Rat) := by
  have hg := gcd_pos a b hb
  obtain ⟨h1, h2⟩ := fr_mul (a := a) hb
  have hp := fr_pos (a := a) hb
  have h3 : rq (fr a b) = rq (a, b) := by
    refine Rat.le_antisymm ((rq_le hp hb).2 ?_) ((rq_le hb hp).2 ?_)
    · dsimp only
      have : (fr a b).1 * b = (fr a b).1 * ((fr a b).2 * (Int.gcd a b)) := by rw [h2]
      have h4 : a * (fr a b).2 = (fr a b).1 * (Int.gcd a b) * (fr a b).2 := by rw [h1]
      rw [this, h4]
      exact Int.le_of_eq (by grind)
    · dsimp only
      have : (fr a b).1 * b = (fr a b).1 * ((fr a b).2 * (Int.gcd a b)) := by rw [h2]
      have h4 : a * (fr a b).2 = (fr a b).1 * (Int.gcd a b) * (fr a b).2 := by rw [h1]
      rw [this, h4]
      exact Int.le_of_eq (by grind)
  exact h3

/-! ### The tightest bound -/

/-- A bound as a number: the less, the tighter. -/
def tq (s : Int) (x : Int × Int) : Rat := if s = 1 then rq x else - rq x
theorem tighter_tq {s : Int} {a b : Int × Int} (ha : 0 < a.2) (hb : 0 < b.2) : tighterF s a b = decide (tq s a < tq s b) := by
  unfold tighterF tq
  split
  · exact decide_eq_decide.2 (rq_lt ha hb).symm
  · exact decide_eq_decide.2 ((rq_lt hb ha).symm.trans Rat.neg_lt_neg_iff.symm)

theorem sideB_pos {s : Int} {b : Bd} (h1 : 0 < b.1.2) (h2 : 0 < b.2.2) : 0 < (sideB s b).2 := by unfold sideB; split <;> assumption

def BestP (B : List ((Int × Int) × Bd × Nat)) (s : Int) (a : Option (Int × Int)) (S : List (Int × Int)) : Prop := match a with
  | none => ∀ q ∈ S, getB B q = none
  | some p0 => p0 ∈ S ∧ ∃ b0, getB B p0 = some b0 ∧ ∀ q ∈ S, ∀ bq, getB B q = some bq → tq s (sideB s b0) ≤ tq s (sideB s bq)

theorem BestP.step {B : List ((Int × Int) × Bd × Nat)} (hB : OkB B) {s : Int} {a : Option (Int × Int)} {S : List (Int × Int)} (h : BestP B s a S) (x : Int × Int) : BestP B s (stepT B s a x) (S ++ [x]) := by
  have hpos : ∀ {p b}, getB B p = some b → 0 < (sideB s b).2 := fun {p b} hb => by
    obtain ⟨_, h2, _, h4⟩ := hB p b hb
    exact sideB_pos (by omega) (by omega)
  cases hx : getB B x with
  | none =>
    rw [stepT_none hx]
    cases a with
    | none =>
      intro q hq
      rcases List.mem_append.1 hq with hq | hq
      · exact h q hq
      · rw [List.mem_singleton.1 hq]; exact hx
    | some p0 =>
      obtain ⟨h1, b0, h2, h3⟩ := h
      refine ⟨List.mem_append_left _ h1, b0, h2, fun q hq bq hbq => ?_⟩
      rcases List.mem_append.1 hq with hq | hq
      · exact h3 q hq bq hbq
      · rw [List.mem_singleton.1 hq, hx] at hbq; cases hbq
  | some bx =>
    rw [stepT_some hx]
    cases a with
    | none =>
      refine ⟨List.mem_append_right _ (List.mem_singleton.2 rfl), bx, hx, fun q hq bq hbq => ?_⟩
      rcases List.mem_append.1 hq with hq | hq
      · rw [h q hq] at hbq; cases hbq
      · rw [List.mem_singleton.1 hq, hx] at hbq; cases hbq; exact Rat.le_refl
    | some p0 =>
      obtain ⟨h1, b0, h2, h3⟩ := h
      have he := betterB_eq (s := s) hx h2
      rw [tighter_tq (hpos hx) (hpos h2)] at he
      by_cases hc : tq s (sideB s bx) < tq s (sideB s b0)
      · rw [decide_eq_true hc] at he
        rw [stepB_true he]
        refine ⟨List.mem_append_right _ (List.mem_singleton.2 rfl), bx, hx, fun q hq bq hbq => ?_⟩
        rcases List.mem_append.1 hq with hq | hq
        · exact Rat.le_trans (Rat.le_of_lt hc) (h3 q hq bq hbq)
        · rw [List.mem_singleton.1 hq, hx] at hbq; cases hbq; exact Rat.le_refl
      · rw [decide_eq_false hc] at he
        rw [stepB_false he]
        refine ⟨List.mem_append_left _ h1, b0, h2, fun q hq bq hbq => ?_⟩
        rcases List.mem_append.1 hq with hq | hq
        · exact h3 q hq bq hbq
        · rw [List.mem_singleton.1 hq, hx] at hbq; cases hbq; exact Rat.not_lt.1 hc

theorem tightL_best {B : List ((Int × Int) × Bd × Nat)} (hB : OkB B) (s : Int) (l : List (Int × Int)) : BestP B s (tightL B s l) l := by
  have : ∀ (l : List (Int × Int)) (a : Option (Int × Int)) (S : List (Int × Int)), BestP B s a S → BestP B s (l.foldl (stepT B s) a) (S ++ l) := by
    intro l
    induction l with
    | nil => intro a S h; simpa using h
    | cons x l ih =>
      intro a S h
      have := ih _ _ (h.step hB x)
      rwa [List.append_assoc, List.singleton_append] at this
  exact this l none [] (fun q hq => by cases hq)

/-! ### The card of a star -/

theorem getB_card {lo hi : Int} {l : List E} {p : Int × Int} : getB (cardL lo hi l) p = if p ∈ pairsL l.length ∧ keepE lo hi (p, bndOf lo hi l p, 0) = true then some (bndOf lo hi l p) else none := by
  have hk : ∀ k, keepE lo hi (p, bndOf lo hi l p, k) = keepE lo hi (p, bndOf lo hi l p, 0) := fun k => rfl
  have hmem : ∀ x, x ∈ cardL lo hi l ↔ (∃ k, (pairsL l.length)[k]? = some x.1 ∧ x = (x.1, bndOf lo hi l x.1, k)) ∧ keepE lo hi x = true := by
    intro x
    unfold cardL
    rw [List.mem_filter]
    refine and_congr ⟨fun h => ?_, fun ⟨k, h1, h2⟩ => ?_⟩ Iff.rfl
    · unfold fullL insL at h
      rw [List.take_length] at h
      obtain ⟨y, hy, rfl⟩ := List.mem_map.1 h
      exact ⟨y.2, List.mem_zipIdx_iff_getElem?.1 hy, rfl⟩
    · rw [h2]; exact List.mem_of_getElem? (fullL_get h1)
  split
  · rename_i h
    obtain ⟨k, hkp⟩ := List.mem_iff_getElem?.1 h.1
    unfold getB
    cases hf : (cardL lo hi l).find? (fun x => decide (p = x.1)) with
    | none =>
      have := List.find?_eq_none.1 hf (p, bndOf lo hi l p, k) ((hmem _).2 ⟨⟨k, hkp, rfl⟩, by rw [hk]; exact h.2⟩)
      simp at this
    | some x =>
      have h1 : p = x.1 := of_decide_eq_true (by simpa using List.find?_some hf)
      obtain ⟨⟨k', h2, h3⟩, _⟩ := (hmem x).1 (List.mem_of_find?_eq_some hf)
      rw [Option.map_some, h3, h1]
  · rename_i h
    unfold getB
    rw [Option.map_eq_none_iff, List.find?_eq_none]
    intro x hx hc
    have h1 : p = x.1 := of_decide_eq_true hc
    obtain ⟨⟨k', h2, h3⟩, h4⟩ := (hmem x).1 hx
    refine h ⟨by rw [h1]; exact List.mem_of_getElem? h2, ?_⟩
    rw [h3, ← h1] at h4
    exact h4

theorem cardL_ok {lo hi : Int} {l : List E} (hS : OkS lo hi l) : OkB (cardL lo hi l) := by
  intro p b hb
  rw [getB_card] at hb
  split at hb
  · rename_i h; cases hb; exact bndOf_bd hS h.1
  · cases hb

/-- The tightest of all bounds. -/
structure Tight (lo hi : Int) (l : List E) (s : Int) (p0 : Int × Int) : Prop where
  tight : tightL (cardL lo hi l) s (pairsL l.length) = some p0
  get : getB (cardL lo hi l) p0 = some (bndOf lo hi l p0)
  mem : p0 ∈ pairsL l.length
  best : ∀ q ∈ pairsL l.length, tq s (sideB s (bndOf lo hi l p0)) ≤ tq s (sideB s (bndOf lo hi l q))

theorem exists_tight {lo hi : Int} {l : List E} (hS : OkS lo hi l) (s : Int) (hs : s = 0 ∨ s = 1) : ∃ p0, Tight lo hi l s p0 := by
  have hb := tightL_best (cardL_ok hS) s (pairsL l.length)
  have ha : getB (cardL lo hi l) (-1, -1) = some ((lo, 1), (hi, 1)) := by
    rw [getB_card, if_pos ⟨pairsL_mem.2 (.inl rfl), rfl⟩]; rfl
  cases ht : tightL (cardL lo hi l) s (pairsL l.length) with
  | none =>
    rw [ht] at hb
    have := hb (-1, -1) (pairsL_mem.2 (.inl rfl))
    rw [ha] at this; cases this
  | some p0 =>
    rw [ht] at hb
    obtain ⟨h1, b0, h2, h3⟩ := hb
    have h2' := h2
    rw [getB_card] at h2'
    split at h2'
    · cases h2'
      refine ⟨p0, ht, h2, h1, fun q hq => ?_⟩
      cases hk : keepE lo hi (q, bndOf lo hi l q, 0) with
      | true => exact h3 q hq _ (by rw [getB_card, if_pos ⟨hq, hk⟩])
      | false =>
        refine Rat.le_trans (h3 (-1, -1) (pairsL_mem.2 (.inl rfl)) _ ha) ?_
        obtain ⟨o1, o2, o3, o4⟩ := bndOf_bd hS hq
        unfold keepE at hk
        simp only [Bool.or_eq_false_iff] at hk
        obtain ⟨⟨_, k1⟩, k2⟩ := hk
        rw [tighter_tq (by omega) (Int.zero_lt_one : (0 : Int) < 1)] at k1 k2
        have k1 := of_decide_eq_false k1
        have k2 := of_decide_eq_false k2
        rcases hs with rfl | rfl
        · exact Rat.not_lt.1 k1
        · exact Rat.not_lt.1 k2
    · cases h2'

end Go.Proofs.D

namespace Go.Proofs.D
open Go.As
set_option maxRecDepth 20000
set_option linter.unusedVariables false
set_option linter.unusedSimpArgs false

theorem newCard_ok (h : H) (lo hi : Int) (l : List E) (hS : OkS lo hi l) (sv : V) (hs : SlC h (entVs l) l.length sv) :
    CallOk Try.prog 71 [starV lo hi sv, .fn 72 [] []] h (.agg [.int .i64 lo, .int .i64 hi, sv, .map h.n]) (addBs h [.map (mapB (cardL lo hi l)) (pairsL l.length).length]) := by
  obtain ⟨vo, svC, hsv, hca, hvw⟩ := hs.view 0
  obtain ⟨cap, ex, rfl⟩ := Sv.pos hsv hS.one
  exact CallOk.of_new (newCard_try lo hi l hS cap ex) (viewMc1 entVs_bare hvw) (.cons (CaL.agg (.cons (.bare rfl) (.cons (.bare rfl) (.cons (hca _ rfl) .nil)))) (.cons (.lt0 rfl) .nil))
    (ShV.agg (.cons (.bare rfl) (.cons (.bare rfl) (.cons (.old (hca _ rfl) rfl) (.cons (.map (i := 0) (Nat.lt_succ_self 0) rfl rfl) .nil))))) rfl
    (fun i b hi => by
      cases i with
      | zero => simp at hi; subst hi; exact ⟨_, rfl, rfl, .map (fun e he => by obtain ⟨x, _, rfl⟩ := List.mem_map.1 he; rfl)⟩
      | succ i => simp at hi)

theorem newCard_W {X : List Nat} {K : V → H → Prop} {h : H} (lo hi : Int) (l : List E) (hS : OkS lo hi l) (sv : V) (hs : SlC h (entVs l) l.length sv)
    (hK : addNP h (fun _ => [.map (mapB (cardL lo hi l)) (pairsL l.length).length]) fun N h' => K (.agg [.int .i64 lo, .int .i64 hi, sv, .map N]) h') : CallW Try.prog X 71 [starV lo hi sv, .fn 72 [] []] h K :=
  CallW.of_new (vC := fun N => .agg [.int .i64 lo, .int .i64 hi, sv, .map N]) (news := fun _ => [.map (mapB (cardL lo hi l)) (pairsL l.length).length]) (newCard_ok h lo hi l hS sv hs) hK

def tgt (lo hi : Int) (l : List E) (s : Int) : Int × Int := (tightL (cardL lo hi l) s (pairsL l.length)).getD (0, 0)
theorem tgt_ok {lo hi : Int} {l : List E} (hS : OkS lo hi l) {s : Int} (hs : s = 0 ∨ s = 1) : Tight lo hi l s (tgt lo hi l s) := by
  obtain ⟨p0, hp⟩ := exists_tight hS s hs
  have : tgt lo hi l s = p0 := by unfold tgt; rw [hp.tight]; rfl
  rw [this]; exact hp
/-- The ends of the rate. -/
def loQ (lo hi : Int) (l : List E) : Int × Int := (bndOf lo hi l (tgt lo hi l 0)).1
def hiQ (lo hi : Int) (l : List E) : Int × Int := (bndOf lo hi l (tgt lo hi l 1)).2
def hasM (lo hi : Int) (l : List E) : Bool := !decide ((hiQ lo hi l).1 * (loQ lo hi l).2 < (loQ lo hi l).1 * (hiQ lo hi l).2)
def staErr (lo hi : Int) (l : List E) : Int := if starErr lo hi l = 0 then (if hasM lo hi l then 0 else 17) else starErr lo hi l

theorem span2_ok (h : H) (lo hi : Int) (l : List E) (hS : OkS lo hi l) (sv : V) (hsv : SlC h (entVs l) l.length sv) (m : Nat) (clock : Nat) (hm : h.get m = some (.map (mapB (cardL lo hi l)) clock)) :
   CallOk Try.prog 73 [.agg [.int .i64 lo, .int .i64 hi, sv, .map m]] h (.agg (bL (loQ lo hi l, hiQ lo hi l))) h :=
  have t0 := tgt_ok hS (.inl rfl)
  have t1 := tgt_ok hS (.inr rfl)
  span_ok h lo hi l.length (by have := hS.most; omega) hS.one _ entVs_bare sv hsv _ clock (cardL_ok hS) m hm _ _ _ _ t0.tight t1.tight t0.get t1.get

theorem loQ_bd {lo hi : Int} {l : List E} (hS : OkS lo hi l) : (-20000 ≤ (loQ lo hi l).1 ∧ (loQ lo hi l).1 ≤ 20000) ∧ 1 ≤ (loQ lo hi l).2 ∧ (loQ lo hi l).2 ≤ 200 :=
  have h := bndOf_bd hS (tgt_ok hS (.inl rfl)).mem; ⟨h.1, h.2.1⟩
theorem hiQ_bd {lo hi : Int} {l : List E} (hS : OkS lo hi l) : (-20000 ≤ (hiQ lo hi l).1 ∧ (hiQ lo hi l).1 ≤ 20000) ∧ 1 ≤ (hiQ lo hi l).2 ∧ (hiQ lo hi l).2 ≤ 200 :=
  have h := bndOf_bd hS (tgt_ok hS (.inr rfl)).mem; ⟨h.2.2.1, h.2.2.2⟩

theorem clash2_ok (h : H) (lo hi : Int) (l : List E) (hS : OkS lo hi l) : CallOk Try.prog 74 [.agg (bL (loQ lo hi l, hiQ lo hi l))] h (.bool (!hasM lo hi l)) h := by
  have h1 := loQ_bd hS
  have h2 := hiQ_bd hS
  have := clash_ok h (loQ lo hi l, hiQ lo hi l) (InR_mul h1.1 h2.2) (InR_mul h2.1 h1.2)
  unfold hasM
  rwa [Bool.not_not]

theorem agreed_bad (h : H) (lo hi : Int) (l : List E) (sv : V) (hl : l.length ≤ 9223372036854775807) (hs : SlC h (entVs l) l.length sv) (he : staErr lo hi l ≠ 0) :
    CallOk Try.prog 68 [starV lo hi sv] h (.tup [.agg [.int .i64 0, .int .i64 0, .nils, .nilm], .int .i64 (staErr lo hi l)]) h := by
  obtain ⟨vo, svC, hsv, hca, hvw⟩ := hs.view 0
  refine CallOk.run Try.func68 rfl rfl (argsC := [starV lo hi svC]) (Nat.le_of_ble_eq_true rfl) [vo] (.cons (CaL.agg (.cons (.bare rfl) (.cons (.bare rfl) (.cons (hca _ rfl) .nil)))) .nil) (viewMc1 entVs_bare hvw) rfl (WpR.of_vc ?_)
  have hBare := @entVs_bare l
  cases hsv with
  | nil h0 =>
    have e1 : starErr lo hi l = 6 := by unfold starErr; rw [if_pos (by omega)]
    (conv => whnf); (repeat' (first | ((with_reducible refine ifb_mk (fun hc => ?_) (fun hc => ?_)) <;> ((try simp only [decide_eq_true_eq, decide_eq_false_iff_not, Bool.not_eq_true', Bool.not_eq_false', Int.not_lt, Int.not_le, ne_eq, Decidable.not_not, beq_iff_eq, List.cons.injEq, and_true] at hc); (first | (exfalso; omega) | conv => whnf))) | ((with_reducible refine And.intro True.intro ?_); conv => whnf) | ((with_reducible refine CallX.all ?_); refine CallW.of_ok (checkStar_ok _ lo hi l _ hl (SlC.none h0)) ?_; conv => whnf) | ((with_reducible refine And.intro ?hh ?_); (case hh => (unfold InR; (try dsimp only); omega)); conv => whnf) | ((with_reducible refine And.intro ?hh ?_); (case hh => ((try dsimp only); omega)); conv => whnf) | ((with_reducible refine And.intro ?hh ?_); (case hh => ((conv => whnf); (repeat' (first | exact True.intro | rfl | refine And.intro ?_ ?_)); done)); conv => whnf) | fail))
    (refine ⟨[], ?_, rfl, rfl, trivial, (by (repeat' (first | exact True.intro | rfl | refine And.intro ?_ ?_)))⟩; simp only [renV, renL]; grind [staErr])
  | @sl cap ex =>
  (conv => whnf); (repeat' (first | ((with_reducible refine ifb_mk (fun hc => ?_) (fun hc => ?_)) <;> ((try simp only [decide_eq_true_eq, decide_eq_false_iff_not, Bool.not_eq_true', Bool.not_eq_false', Int.not_lt, Int.not_le, ne_eq, Decidable.not_not, beq_iff_eq, List.cons.injEq, and_true] at hc); (first | (exfalso; omega) | conv => whnf))) | ((with_reducible refine And.intro True.intro ?_); conv => whnf) | ((with_reducible refine CallX.all ?_); refine CallW.of_ok (checkStar_ok _ lo hi l _ hl (SlC.own rfl)) ?_; conv => whnf) | ((with_reducible refine And.intro ?hh ?_); (case hh => (unfold InR; (try dsimp only); omega)); conv => whnf) | ((with_reducible refine And.intro ?hh ?_); (case hh => ((try dsimp only); omega)); conv => whnf) | ((with_reducible refine And.intro ?hh ?_); (case hh => ((conv => whnf); (repeat' (first | exact True.intro | rfl | refine And.intro ?_ ?_)); done)); conv => whnf) | fail))
  · (refine ⟨[], ?_, rfl, rfl, trivial, (by (repeat' (first | exact True.intro | rfl | refine And.intro ?_ ?_)))⟩; simp only [renV, renL]; grind [staErr])
  have hS := starErr_ok hc
  have hm : hasM lo hi l = false := by unfold staErr at he; grind
  (conv => whnf); (repeat' (first | ((with_reducible refine ifb_mk (fun hc => ?_) (fun hc => ?_)) <;> ((try simp only [decide_eq_true_eq, decide_eq_false_iff_not, Bool.not_eq_true', Bool.not_eq_false', Int.not_lt, Int.not_le, ne_eq, Decidable.not_not, beq_iff_eq, List.cons.injEq, and_true] at hc); (first | (exfalso; omega) | conv => whnf))) | ((with_reducible refine And.intro True.intro ?_); conv => whnf) | ((with_reducible refine CallX.all ?_); refine newCard_W lo hi l hS _ (SlC.own rfl) ?_; conv => whnf) | ((with_reducible refine CallX.all ?_); refine CallW.of_ok (span2_ok _ lo hi l hS _ (SlC.own rfl) _ _ rfl) ?_; conv => whnf) | ((with_reducible refine CallX.all ?_); refine CallW.of_ok (clash2_ok _ lo hi l hS) ?_; conv => whnf) | ((with_reducible refine And.intro ?hh ?_); (case hh => (unfold InR; (try dsimp only); omega)); conv => whnf) | ((with_reducible refine And.intro ?hh ?_); (case hh => ((try dsimp only); omega)); conv => whnf) | ((with_reducible refine And.intro ?hh ?_); (case hh => ((conv => whnf); (repeat' (first | exact True.intro | rfl | refine And.intro ?_ ?_)); done)); conv => whnf) | fail))
  · (refine ⟨[], ?_, rfl, rfl, trivial, (by (repeat' (first | exact True.intro | rfl | refine And.intro ?_ ?_)))⟩; simp only [renV, renL]; grind [staErr])
  · exfalso; grind

theorem agreed_ok (h : H) (lo hi : Int) (l : List E) (sv : V) (hl : l.length ≤ 9223372036854775807) (hs : SlC h (entVs l) l.length sv) (he : staErr lo hi l = 0) :
    CallOk Try.prog 68 [starV lo hi sv] h (.tup [.agg [.int .i64 lo, .int .i64 hi, sv, .map h.n], .int .i64 0]) (addBs h [.map (mapB (cardL lo hi l)) (pairsL l.length).length]) := by
  have h0 : starErr lo hi l = 0 ∧ hasM lo hi l = true := by unfold staErr at he; grind
  have hS := starErr_ok h0.1
  obtain ⟨vo, svC, hsv, hca, hvw⟩ := hs.view 0
  obtain ⟨cap, ex, rfl⟩ := Sv.pos hsv hS.one
  have hBare := @entVs_bare l
  refine CallOk.runN Try.func68 rfl rfl (argsC := [starV lo hi (.sl 0 0 l.length cap ex)]) (fun N => .tup [.agg [.int .i64 lo, .int .i64 hi, .sl 0 0 l.length cap ex, .map N], .int .i64 0]) (fun _ => [.map (mapB (cardL lo hi l)) (pairsL l.length).length]) (Nat.le_of_ble_eq_true rfl) [vo] (.cons (CaL.agg (.cons (.bare rfl) (.cons (.bare rfl) (.cons (hca _ rfl) .nil)))) .nil) (viewMc1 entVs_bare hvw)
    (ShV.tup (.cons (ShV.agg (.cons (.bare rfl) (.cons (.bare rfl) (.cons (.old (hca _ rfl) rfl) (.cons (.map (i := 0) (Nat.lt_succ_self 0) rfl rfl) .nil))))) (.cons (.bare rfl) .nil))) rfl
    (fun i b hi => by
      cases i with
      | zero => simp at hi; subst hi; exact ⟨_, rfl, rfl, .map (fun e he => by obtain ⟨x, _, rfl⟩ := List.mem_map.1 he; rfl)⟩
      | succ i => simp at hi) (WpR.of_vc ?_)
  (conv => whnf); (repeat' (first | ((with_reducible refine ifb_mk (fun hc => ?_) (fun hc => ?_)) <;> ((try simp only [decide_eq_true_eq, decide_eq_false_iff_not, Bool.not_eq_true', Bool.not_eq_false', Int.not_lt, Int.not_le, ne_eq, Decidable.not_not, beq_iff_eq, List.cons.injEq, and_true] at hc); (first | (exfalso; omega) | conv => whnf))) | ((with_reducible refine And.intro True.intro ?_); conv => whnf) | ((with_reducible refine CallX.all ?_); refine CallW.of_ok (checkStar_ok _ lo hi l _ hl (SlC.own rfl)) ?_; conv => whnf) | ((with_reducible refine CallX.all ?_); refine newCard_W lo hi l hS _ (SlC.own rfl) ?_; conv => whnf) | ((with_reducible refine CallX.all ?_); refine CallW.of_ok (span2_ok _ lo hi l hS _ (SlC.own rfl) _ _ rfl) ?_; conv => whnf) | ((with_reducible refine CallX.all ?_); refine CallW.of_ok (clash2_ok _ lo hi l hS) ?_; conv => whnf) | ((with_reducible refine And.intro ?hh ?_); (case hh => (unfold InR; (try dsimp only); omega)); conv => whnf) | ((with_reducible refine And.intro ?hh ?_); (case hh => ((try dsimp only); omega)); conv => whnf) | ((with_reducible refine And.intro ?hh ?_); (case hh => ((conv => whnf); (repeat' (first | exact True.intro | rfl | refine And.intro ?_ ?_)); done)); conv => whnf) | fail))
  · exfalso; grind
  · refine ⟨[3], rfl, rfl, rfl, ⟨⟨_, rfl, rfl, SubQ.same (n := 0) (Y := []) (fun i hi _ => absurd hi (Nat.not_lt_zero _)) ltB_mapB (avB_nil _) rfl⟩, ltB_mapB, rfl, trivial⟩, (by (repeat' (first | exact True.intro | rfl | refine And.intro ?_ ?_)))⟩
theorem agreed_W {X : List Nat} {K : V → H → Prop} {h : H} (lo hi : Int) (l : List E) (hl : l.length ≤ 9223372036854775807) (he : staErr lo hi l = 0) (sv : V) (hs : SlC h (entVs l) l.length sv)
    (hK : addNP h (fun _ => [.map (mapB (cardL lo hi l)) (pairsL l.length).length]) fun N h' => K (.tup [.agg [.int .i64 lo, .int .i64 hi, sv, .map N], .int .i64 0]) h') : CallW Try.prog X 68 [starV lo hi sv] h K :=
  CallW.of_new (vC := fun N => .tup [.agg [.int .i64 lo, .int .i64 hi, sv, .map N], .int .i64 0]) (news := fun _ => [.map (mapB (cardL lo hi l)) (pairsL l.length).length]) (agreed_ok h lo hi l sv hl hs he) hK

theorem staErr_OkS {lo hi : Int} {l : List E} (h : staErr lo hi l = 0) : OkS lo hi l ∧ hasM lo hi l = true := by
  have h0 : starErr lo hi l = 0 ∧ hasM lo hi l = true := by unfold staErr at h; grind
  exact ⟨starErr_ok h0.1, h0.2⟩
end Go.Proofs.D

namespace Go.Proofs.D
open Go.As
set_option maxRecDepth 20000
set_option linter.unusedVariables false
set_option linter.unusedSimpArgs false

end Go.Proofs.D

namespace Go.Proofs.D
open Go.As
set_option maxRecDepth 20000
set_option linter.unusedVariables false
set_option linter.unusedSimpArgs false

/-! ### The reference's ends of the rate -/

def refStep (lo hi : Int) (l : List E) (a : Bd) (p : Int × Int) : Bd :=
  (if a.1.1 * (bndOf lo hi l p).1.2 < (bndOf lo hi l p).1.1 * a.1.2 then (bndOf lo hi l p).1 else a.1,
   if (bndOf lo hi l p).2.1 * a.2.2 < a.2.1 * (bndOf lo hi l p).2.2 then (bndOf lo hi l p).2 else a.2)
def refRate (lo hi : Int) (l : List E) : Bd := ((List.range' 0 l.length).flatMap (rowP l.length)).foldl (refStep lo hi l) ((lo, 1), (hi, 1))

end Go.Proofs.D

namespace Go.Proofs.D
open Go.As
set_option maxRecDepth 20000
set_option linter.unusedVariables false
set_option linter.unusedSimpArgs false

theorem bndOf_red {lo hi : Int} {l : List E} (hS : OkS lo hi l) {p : Int × Int} (hp : p ∈ pairsL l.length) : (Int.gcd (bndOf lo hi l p).1.1 (bndOf lo hi l p).1.2 = 1) ∧ (Int.gcd (bndOf lo hi l p).2.1 (bndOf lo hi l p).2.2 = 1) := by
  rcases pairsL_mem.1 hp with rfl | ⟨i, j, h1, h2, rfl⟩
  · exact ⟨Int.gcd_one, Int.gcd_one⟩
  · have hgi : l[i]? = some l[i] := List.getElem?_eq_getElem _
    have hgj : l[j]? = some l[j] := List.getElem?_eq_getElem _
    rw [bndOf_two hgi hgj]
    have h3' := hS.inc _ _ _ _ h1 hgi hgj
    exact ⟨fr_gcd (by omega), fr_gcd (by omega)⟩

/-- The ends behind some pairs. -/
structure RefP (lo hi : Int) (l : List E) (S : List (Int × Int)) (a : Bd) : Prop where
  lm : ∃ p ∈ S, a.1 = (bndOf lo hi l p).1
  hm : ∃ p ∈ S, a.2 = (bndOf lo hi l p).2
  lb : ∀ p ∈ S, rq (bndOf lo hi l p).1 ≤ rq a.1
  hb : ∀ p ∈ S, rq a.2 ≤ rq (bndOf lo hi l p).2

theorem RefP.step {lo hi : Int} {l : List E} (hS : OkS lo hi l) {S : List (Int × Int)} (hSm : ∀ p ∈ S, p ∈ pairsL l.length) {a : Bd} (h : RefP lo hi l S a) {x : Int × Int} (hx : x ∈ pairsL l.length) : RefP lo hi l (S ++ [x]) (refStep lo hi l a x) := by
  obtain ⟨⟨p1, m1, e1⟩, ⟨p2, m2, e2⟩, h3, h4⟩ := h
  have b1 := bndOf_bd hS (hSm _ m1)
  have b2 := bndOf_bd hS (hSm _ m2)
  have bx := bndOf_bd hS hx
  have k1 : a.1.1 * (bndOf lo hi l x).1.2 < (bndOf lo hi l x).1.1 * a.1.2 ↔ rq a.1 < rq (bndOf lo hi l x).1 := by
    refine (rq_lt ?_ ?_).symm
    · rw [e1]; have := (bndOf_bd hS (hSm _ m1)).2.1; omega
    · have := bx.2.1; omega
  have k2 : (bndOf lo hi l x).2.1 * a.2.2 < a.2.1 * (bndOf lo hi l x).2.2 ↔ rq (bndOf lo hi l x).2 < rq a.2 := by
    refine (rq_lt ?_ ?_).symm
    · have := bx.2.2.2; omega
    · rw [e2]; have := b2.2.2.2; omega
  unfold refStep
  simp only [k1, k2]
  refine ⟨?_, ?_, ?_, ?_⟩
  · dsimp only; split
    · exact ⟨x, by simp, rfl⟩
    · exact ⟨p1, by simp [m1], e1⟩
  · dsimp only; split
    · exact ⟨x, by simp, rfl⟩
    · exact ⟨p2, by simp [m2], e2⟩
  · intro p hp
    dsimp only
    rcases List.mem_append.1 hp with hp | hp
    · have := h3 p hp
      split <;> grind
    · rw [List.mem_singleton.1 hp]
      split <;> grind
  · intro p hp
    dsimp only
    rcases List.mem_append.1 hp with hp | hp
    · have := h4 p hp
      split <;> grind
    · rw [List.mem_singleton.1 hp]
      split <;> grind

theorem refRate_P {lo hi : Int} {l : List E} (hS : OkS lo hi l) : RefP lo hi l (pairsL l.length) (refRate lo hi l) := by
  have : ∀ (xs S : List (Int × Int)) (a : Bd), (∀ p ∈ S ++ xs, p ∈ pairsL l.length) → RefP lo hi l S a → RefP lo hi l (S ++ xs) (xs.foldl (refStep lo hi l) a) := by
    intro xs
    induction xs with
    | nil => intro S a _ h; simpa using h
    | cons x xs ih =>
      intro S a hm h
      have := ih (S ++ [x]) _ (by simpa using hm) (h.step hS (fun p hp => hm p (by simp [hp])) (hm x (by simp)))
      simpa using this
  refine this _ [(-1, -1)] ((lo, 1), (hi, 1)) (fun p hp => hp) ⟨⟨(-1, -1), by simp, rfl⟩, ⟨(-1, -1), by simp, rfl⟩, fun p hp => ?_, fun p hp => ?_⟩
  · rw [List.mem_singleton.1 hp]; exact Rat.le_refl
  · rw [List.mem_singleton.1 hp]; exact Rat.le_refl

theorem refRate_eq {lo hi : Int} {l : List E} (hS : OkS lo hi l) : refRate lo hi l = (loQ lo hi l, hiQ lo hi l) := by
  obtain ⟨⟨p1, m1, e1⟩, ⟨p2, m2, e2⟩, h3, h4⟩ := refRate_P hS
  have t0 := tgt_ok hS (.inl rfl)
  have t1 := tgt_ok hS (.inr rfl)
  have b1 := bndOf_bd hS m1
  have b2 := bndOf_bd hS m2
  have c1 := bndOf_bd hS t0.mem
  have c2 := bndOf_bd hS t1.mem
  have q1 := t0.best p1 m1
  have q2 := t1.best p2 m2
  have r1 := h3 _ t0.mem
  have r2 := h4 _ t1.mem
  rw [e1] at r1
  rw [e2] at r2
  refine Prod.ext ?_ ?_
  · rw [e1]
    refine rq_inj (by have := b1.2.1; omega) (by have := c1.2.1; show 0 < (bndOf lo hi l _).1.2; omega) (bndOf_red hS m1).1 (bndOf_red hS t0.mem).1 (Rat.le_antisymm ?_ r1)
    exact Rat.neg_le_neg_iff.1 q1
  · rw [e2]
    refine rq_inj (by have := b2.2.2.2; omega) (by have := c2.2.2.2; show 0 < (bndOf lo hi l _).2.2; omega) (bndOf_red hS m2).2 (bndOf_red hS t1.mem).2 (Rat.le_antisymm r2 ?_)
    exact q2

end Go.Proofs.D

namespace Go.Proofs.D
open Go.As
set_option maxRecDepth 20000
set_option linter.unusedVariables false
set_option linter.unusedSimpArgs false

theorem great_ok (h : H) (lo hi : Int) (l : List E) (sv : V) (hl : l.length ≤ 9223372036854775807) (hs : SlC h (entVs l) l.length sv) :
    CallOk Try.prog 15 [starV lo hi sv] h (.bool (decide ((20 : Int) < (l.length : Int)))) h := by
  obtain ⟨vo, svC, hsv, hca, hvw⟩ := hs.view 0
  refine CallOk.run Try.func15 rfl rfl (argsC := [starV lo hi svC]) (Nat.le_of_ble_eq_true rfl) [vo] (.cons (CaL.agg (.cons (.bare rfl) (.cons (.bare rfl) (.cons (hca _ rfl) .nil)))) .nil) (viewMc1 entVs_bare hvw) rfl (WpR.of_vc ?_)
  cases hsv with
  | nil h0 =>
    rw [h0]
    (conv => whnf); (repeat' (first | ((with_reducible refine ifb_mk (fun hc => ?_) (fun hc => ?_)) <;> ((try simp only [decide_eq_true_eq, decide_eq_false_iff_not, Bool.not_eq_true', Bool.not_eq_false', Int.not_lt, Int.not_le, ne_eq, Decidable.not_not, beq_iff_eq, List.cons.injEq, and_true] at hc); (first | (exfalso; omega) | conv => whnf))) | ((with_reducible refine And.intro True.intro ?_); conv => whnf) | ((with_reducible refine And.intro ?hh ?_); (case hh => (unfold InR; (try dsimp only); omega)); conv => whnf) | ((with_reducible refine And.intro ?hh ?_); (case hh => ((try dsimp only); omega)); conv => whnf) | ((with_reducible refine And.intro ?hh ?_); (case hh => ((conv => whnf); (repeat' (first | exact True.intro | rfl | refine And.intro ?_ ?_)); done)); conv => whnf) | fail))
    all_goals (refine ⟨[], ?_, rfl, rfl, trivial, (by (repeat' (first | exact True.intro | rfl | refine And.intro ?_ ?_)))⟩; simp only [renV, renL]; grind)
  | @sl cap ex =>
    (conv => whnf); (repeat' (first | ((with_reducible refine ifb_mk (fun hc => ?_) (fun hc => ?_)) <;> ((try simp only [decide_eq_true_eq, decide_eq_false_iff_not, Bool.not_eq_true', Bool.not_eq_false', Int.not_lt, Int.not_le, ne_eq, Decidable.not_not, beq_iff_eq, List.cons.injEq, and_true] at hc); (first | (exfalso; omega) | conv => whnf))) | ((with_reducible refine And.intro True.intro ?_); conv => whnf) | ((with_reducible refine And.intro ?hh ?_); (case hh => (unfold InR; (try dsimp only); omega)); conv => whnf) | ((with_reducible refine And.intro ?hh ?_); (case hh => ((try dsimp only); omega)); conv => whnf) | ((with_reducible refine And.intro ?hh ?_); (case hh => ((conv => whnf); (repeat' (first | exact True.intro | rfl | refine And.intro ?_ ?_)); done)); conv => whnf) | fail))
    (refine ⟨[], ?_, rfl, rfl, trivial, (by (repeat' (first | exact True.intro | rfl | refine And.intro ?_ ?_)))⟩; simp only [renV, renL]; (first | done | rfl | simp | grind))

end Go.Proofs.D

namespace Go.Proofs.D
open Go.As
set_option maxRecDepth 20000
set_option linter.unusedVariables false
set_option linter.unusedSimpArgs false

end Go.Proofs.D

