/- What the functions answer that the laws call, one after another, part 1. -/
import Derived.Test.YtjkgnkhbbnmgbaaAs6
import Derived.Test.YtjkgnkhbbnmgbaaProg
import Derived.KernelRfl

set_option linter.unusedVariables false
namespace Go.Proofs.P
open Go.As
set_option maxRecDepth 20000
set_option linter.unusedVariables false
set_option linter.unusedSimpArgs false

theorem mixed : Try.prog.follows .mixedOrders = true := by kernel_rfl

/-! ### Lists of numbers -/

def iVs (l : List Int) : List V := l.map (V.int .i64)
theorem iVs_bare {l : List Int} : ∀ v ∈ iVs l, bare0 v = true := fun v h => by obtain ⟨x, _, rfl⟩ := List.mem_map.1 h; rfl
theorem iGet {l : List Int} {i : Nat} {x : Int} (h : l[i]? = some x) : (ofL (iVs l) 0).get (0 + (i : Int).toNat * 1) = some (.int .i64 x) := get_ofL0 (by unfold iVs; rw [List.getElem?_map]; simp [h])
theorem SlC.own {h : H} {L : List V} {b n cap : Nat} {ex w : Bool} {g : Option (Nat × Nat)} (hb : h.get b = some (.cells (ofL L 0) w g)) : SlC h L n (.sl b 0 n cap ex) :=
  SlC.sl hb (fun _ _ h => by rw [Nat.zero_add]; exact get_ofL0 h)
theorem drop_at {α : Type} {l : List α} {i : Nat} {x : α} (h : l[i]? = some x) : l.drop i = x :: l.drop (i + 1) := by
  obtain ⟨hi, rfl⟩ := List.getElem?_eq_some_iff.1 h
  exact List.drop_eq_getElem_cons hi
/-! ### Ranges -/

def wi (a b : Int) (L : List Int) : Bool := L.all fun x => decide (a ≤ x ∧ x ≤ b)
theorem within_ok (h : H) (a b : Int) (L : List Int) (sv : V) (hl : L.length ≤ 9223372036854775807) (hs : SlC h (iVs L) L.length sv) : CallOk Try.prog 69 [.int .i64 a, .int .i64 b, sv] h (.bool (wi a b L)) h := by
  obtain ⟨vo, svC, hsv, hca, hvw⟩ := hs.view 0
  refine CallOk.run Try.func69 rfl rfl (argsC := [.int .i64 a, .int .i64 b, svC]) (Nat.le_of_ble_eq_true rfl) [vo] (.cons (.bare rfl) (.cons (.bare rfl) (.cons (hca _ rfl) .nil))) (viewMc1 iVs_bare hvw) rfl (WpR.of_vc ?_)
  have hBare := @iVs_bare L
  cases hsv with
  | nil h0 =>
    have e : L = [] := List.eq_nil_of_length_eq_zero h0
    subst e
    (conv => whnf); (repeat' (first | ((with_reducible refine ifb_mk (fun hc => ?_) (fun hc => ?_)) <;> ((try simp only [decide_eq_true_eq, decide_eq_false_iff_not, Bool.not_eq_true', Bool.not_eq_false', Int.not_lt, Int.not_le, ne_eq, Decidable.not_not, beq_iff_eq, List.cons.injEq, and_true] at hc); (first | (exfalso; omega) | conv => whnf))) | ((with_reducible refine And.intro True.intro ?_); conv => whnf) | ((with_reducible refine WpR.loopU 2 ?_); conv => whnf) | ((with_reducible refine And.intro ?hh ?_); (case hh => (unfold InR; (try dsimp only); omega)); conv => whnf) | ((with_reducible refine And.intro ?hh ?_); (case hh => ((try dsimp only); omega)); conv => whnf) | ((with_reducible refine And.intro ?hh ?_); (case hh => ((conv => whnf); (repeat' (first | exact True.intro | rfl | refine And.intro ?_ ?_)); done)); conv => whnf) | fail))
    (refine ⟨[], ?_, rfl, rfl, trivial, (by (repeat' (first | exact True.intro | rfl | refine And.intro ?_ ?_)))⟩; simp only [renV, renL]; (first | done | rfl | simp | grind))
  | @sl cap ex =>
  (conv => whnf); (repeat' (first | ((with_reducible refine ifb_mk (fun hc => ?_) (fun hc => ?_)) <;> ((try simp only [decide_eq_true_eq, decide_eq_false_iff_not, Bool.not_eq_true', Bool.not_eq_false', Int.not_lt, Int.not_le, ne_eq, Decidable.not_not, beq_iff_eq, List.cons.injEq, and_true] at hc); (first | (exfalso; omega) | conv => whnf))) | ((with_reducible refine And.intro True.intro ?_); conv => whnf) | ((with_reducible refine And.intro ?hh ?_); (case hh => (unfold InR; (try dsimp only); omega)); conv => whnf) | ((with_reducible refine And.intro ?hh ?_); (case hh => ((try dsimp only); omega)); conv => whnf) | ((with_reducible refine And.intro ?hh ?_); (case hh => ((conv => whnf); (repeat' (first | exact True.intro | rfl | refine And.intro ?_ ?_)); done)); conv => whnf) | fail))
  refine WpR.loopD (ι := Nat) [] [0, 1, 9, 10] [] [] 1 (fun i => [(11, .int .i64 i)]) (fun _ => []) (fun i => L.length - i) (fun i => i ≤ L.length ∧ wi a b L = wi a b (L.drop i)) ?_ (0) (⟨Nat.zero_le _, rfl⟩) [] ⟨rfl, rfl, (by (repeat' (first | exact True.intro | rfl | refine And.intro ?_ ?_))), (by (repeat' (first | exact True.intro | rfl | refine And.intro ?_ ?_))), (by (repeat' (first | exact True.intro | rfl | refine And.intro ?_ ?_))), (by (repeat' (first | exact True.intro | exact Or.inl rfl | refine And.intro ?_ ?_ | refine Or.inr ⟨_, rfl, ?_⟩ | exact SubQ.same (n := 1000) (Y := []) (fun _ _ _ => rfl) (by first | exact True.intro | exact ltB_all rfl | exact ltB_ofLb (by first | exact bare0_ints | assumption | exact bVs_bare | exact iVs_bare | exact mVs_bare | (intro v hv; (repeat (rcases List.mem_cons.1 hv with rfl | hv; exact rfl)); cases hv)) | exact ltB_loop rfl rfl | exact hMap _ | exact hMap2 _ | exact grB_lt (by first | exact bare0_ints | assumption | exact bVs_bare | exact iVs_bare | exact mVs_bare | (intro v hv; (repeat (rcases List.mem_cons.1 hv with rfl | hv; exact rfl)); cases hv)) _ | exact ltB_encL | exact ltB_map0 | assumption) (avB_nil _) rfl | exact SubQ.ofL (by first | rfl | simp) (by first | exact bare0_ints | assumption | exact bVs_bare | exact iVs_bare | exact mVs_bare | (intro v hv; (repeat (rcases List.mem_cons.1 hv with rfl | hv; exact rfl)); cases hv)) (by first | exact Or.inl rfl | exact Or.inr rfl) | exact SubQ.fin (by (conv => whnf); (repeat' (first | exact True.intro | rfl | refine And.intro ?_ ?_)); done) (fun h => h) (by first | exact Or.inl rfl | exact Or.inr rfl)))), rfl, rfl⟩ rfl rfl rfl (fun _ => rfl) (by (repeat' (first | exact True.intro | refine And.intro ?_ ?_ | exact avV_nil _ | rfl))) (by (repeat' (first | exact True.intro | (with_reducible exact avB_nil _) | ((with_reducible refine avB_all ?_); rfl) | ((with_reducible refine avB_ofLb ?_); exact (by first | exact bare0_ints | assumption | exact bVs_bare | exact iVs_bare | exact mVs_bare | (intro v hv; (repeat (rcases List.mem_cons.1 hv with rfl | hv; exact rfl)); cases hv))) | ((with_reducible refine ltB_all ?_); rfl) | ((with_reducible refine ltB_ofLb ?_); exact (by first | exact bare0_ints | assumption | exact bVs_bare | exact iVs_bare | exact mVs_bare | (intro v hv; (repeat (rcases List.mem_cons.1 hv with rfl | hv; exact rfl)); cases hv))) | ((with_reducible refine ltB_loop ?_ ?_) <;> rfl) | (with_reducible exact hMap _) | (with_reducible exact hMap2 _) | (with_reducible exact ltB_encL) | (with_reducible exact ltB_map0) | ((with_reducible refine grB_lt ?_ _); exact (by first | exact bare0_ints | assumption | exact bVs_bare | exact iVs_bare | exact mVs_bare | (intro v hv; (repeat (rcases List.mem_cons.1 hv with rfl | hv; exact rfl)); cases hv))) | (with_reducible assumption) | refine And.intro ?_ ?_ | exact (by first | exact True.intro | exact ltB_all rfl | exact ltB_ofLb (by first | exact bare0_ints | assumption | exact bVs_bare | exact iVs_bare | exact mVs_bare | (intro v hv; (repeat (rcases List.mem_cons.1 hv with rfl | hv; exact rfl)); cases hv)) | exact ltB_loop rfl rfl | exact hMap _ | exact hMap2 _ | exact grB_lt (by first | exact bare0_ints | assumption | exact bVs_bare | exact iVs_bare | exact mVs_bare | (intro v hv; (repeat (rcases List.mem_cons.1 hv with rfl | hv; exact rfl)); cases hv)) _ | exact ltB_encL | exact ltB_map0 | assumption)))) (fun _ _ => (by (repeat' (first | exact True.intro | rfl | refine And.intro ?_ ?_ | exact (by decide) | exact (by first | exact True.intro | exact hMap _ | exact hMap2 _ | exact grB_lt (by first | exact bare0_ints | assumption | exact bVs_bare | exact iVs_bare | exact mVs_bare | (intro v hv; (repeat (rcases List.mem_cons.1 hv with rfl | hv; exact rfl)); cases hv)) _ | exact ltB_all rfl | exact ltB_ofLb (by first | exact bare0_ints | assumption | exact bVs_bare | exact iVs_bare | exact mVs_bare | (intro v hv; (repeat (rcases List.mem_cons.1 hv with rfl | hv; exact rfl)); cases hv)) | exact ltB_loop rfl rfl | exact ltB_encL | exact ltB_map0 | assumption))))) (fun _ _ => (by (repeat' (first | exact True.intro | rfl | refine And.intro ?_ ?_ | exact (by decide) | exact (by first | exact True.intro | exact hMap _ | exact hMap2 _ | exact grB_lt (by first | exact bare0_ints | assumption | exact bVs_bare | exact iVs_bare | exact mVs_bare | (intro v hv; (repeat (rcases List.mem_cons.1 hv with rfl | hv; exact rfl)); cases hv)) _ | exact ltB_all rfl | exact ltB_ofLb (by first | exact bare0_ints | assumption | exact bVs_bare | exact iVs_bare | exact mVs_bare | (intro v hv; (repeat (rcases List.mem_cons.1 hv with rfl | hv; exact rfl)); cases hv)) | exact ltB_loop rfl rfl | exact ltB_encL | exact ltB_map0 | assumption))))) (fun _ _ => (by (repeat' (first | exact True.intro | rfl | refine And.intro ?_ ?_)))) rfl
  rintro i ⟨h1, hP⟩
  refine WpR.of_vc ?_
  cases hx : L[i]? with
  | some x =>
    have hlt := (List.getElem?_eq_some_iff.1 hx).1
    rw [drop_at hx] at hP
    unfold wi at hP
    rw [List.all_cons] at hP
    have hQ : wi a b L = (decide (a ≤ x ∧ x ≤ b) && wi a b (L.drop (i + 1))) := hP
    (conv => whnf); (repeat' (first | ((with_reducible refine ifb_mk (fun hc => ?_) (fun hc => ?_)) <;> ((try simp only [decide_eq_true_eq, decide_eq_false_iff_not, Bool.not_eq_true', Bool.not_eq_false', Int.not_lt, Int.not_le, ne_eq, Decidable.not_not, beq_iff_eq, List.cons.injEq, and_true] at hc); (first | (exfalso; omega) | conv => whnf))) | ((with_reducible refine And.intro True.intro ?_); conv => whnf) | ((with_reducible refine grd_get ?_); refine som_mk (a := ?_) ?hh ?_; (case hh => exact iGet hx); conv => whnf) | ((with_reducible refine And.intro ?hh ?_); (case hh => (unfold InR; (try dsimp only); omega)); conv => whnf) | ((with_reducible refine And.intro ?hh ?_); (case hh => ((try dsimp only); omega)); conv => whnf) | ((with_reducible refine And.intro ?hh ?_); (case hh => ((conv => whnf); (repeat' (first | exact True.intro | rfl | refine And.intro ?_ ?_)); done)); conv => whnf) | fail))
    · (refine ⟨[], ?_, rfl, rfl, trivial, (by (repeat' (first | exact True.intro | rfl | refine And.intro ?_ ?_)))⟩; simp only [renV, renL]; rw [hQ, decide_eq_false (by omega)]; rfl)
    · (refine ⟨[], ?_, rfl, rfl, trivial, (by (repeat' (first | exact True.intro | rfl | refine And.intro ?_ ?_)))⟩; simp only [renV, renL]; rw [hQ, decide_eq_false (by omega)]; rfl)
    · rw [decide_eq_true (by omega), Bool.true_and] at hQ
      exact ⟨i + 1, [], by omega, ⟨by omega, hQ⟩, ⟨rfl, rfl, (by (repeat' (first | exact True.intro | rfl | refine And.intro ?_ ?_))), (by (repeat' (first | exact True.intro | rfl | refine And.intro ?_ ?_))), (by (repeat' (first | exact True.intro | rfl | refine And.intro ?_ ?_))), (by (repeat' (first | exact True.intro | exact Or.inl rfl | refine And.intro ?_ ?_ | refine Or.inr ⟨_, rfl, ?_⟩ | exact SubQ.same (n := 1000) (Y := []) (fun _ _ _ => rfl) (by first | exact True.intro | exact ltB_all rfl | exact ltB_ofLb (by first | exact bare0_ints | assumption | exact bVs_bare | exact iVs_bare | exact mVs_bare | (intro v hv; (repeat (rcases List.mem_cons.1 hv with rfl | hv; exact rfl)); cases hv)) | exact ltB_loop rfl rfl | exact hMap _ | exact hMap2 _ | exact grB_lt (by first | exact bare0_ints | assumption | exact bVs_bare | exact iVs_bare | exact mVs_bare | (intro v hv; (repeat (rcases List.mem_cons.1 hv with rfl | hv; exact rfl)); cases hv)) _ | exact ltB_encL | exact ltB_map0 | assumption) (avB_nil _) rfl | exact SubQ.ofL (by first | rfl | simp) (by first | exact bare0_ints | assumption | exact bVs_bare | exact iVs_bare | exact mVs_bare | (intro v hv; (repeat (rcases List.mem_cons.1 hv with rfl | hv; exact rfl)); cases hv)) (by first | exact Or.inl rfl | exact Or.inr rfl) | exact SubQ.fin (by (conv => whnf); (repeat' (first | exact True.intro | rfl | refine And.intro ?_ ?_)); done) (fun h => h) (by first | exact Or.inl rfl | exact Or.inr rfl)))), rfl, rfl⟩⟩
  | none =>
    have hlen : L.length ≤ i := by simpa using hx
    (conv => whnf); (repeat' (first | ((with_reducible refine ifb_mk (fun hc => ?_) (fun hc => ?_)) <;> ((try simp only [decide_eq_true_eq, decide_eq_false_iff_not, Bool.not_eq_true', Bool.not_eq_false', Int.not_lt, Int.not_le, ne_eq, Decidable.not_not, beq_iff_eq, List.cons.injEq, and_true] at hc); (first | (exfalso; omega) | conv => whnf))) | ((with_reducible refine And.intro True.intro ?_); conv => whnf) | ((with_reducible refine And.intro ?hh ?_); (case hh => (unfold InR; (try dsimp only); omega)); conv => whnf) | ((with_reducible refine And.intro ?hh ?_); (case hh => ((try dsimp only); omega)); conv => whnf) | ((with_reducible refine And.intro ?hh ?_); (case hh => ((conv => whnf); (repeat' (first | exact True.intro | rfl | refine And.intro ?_ ?_)); done)); conv => whnf) | fail))
    have e : wi a b L = true := by rw [hP, List.drop_eq_nil_of_le hlen]; rfl
    (refine ⟨[], ?_, rfl, rfl, trivial, (by (repeat' (first | exact True.intro | rfl | refine And.intro ?_ ?_)))⟩; simp only [renV, renL]; rw [e])

theorem isSize_ok (h : H) (n : Int) : CallOk Try.prog 68 [.int .i64 n] h (.bool (decide (1 ≤ n ∧ n ≤ 8))) h := by
  have e : wi 1 8 [n] = decide (1 ≤ n ∧ n ≤ 8) := by unfold wi; simp
  rw [← e]
  refine CallOk.run0 Try.func68 rfl rfl rfl rfl rfl (WpR.of_vc ?_)
  (conv => whnf); (repeat' (first | ((with_reducible refine ifb_mk (fun hc => ?_) (fun hc => ?_)) <;> ((try simp only [decide_eq_true_eq, decide_eq_false_iff_not, Bool.not_eq_true', Bool.not_eq_false', Int.not_lt, Int.not_le, ne_eq, Decidable.not_not, beq_iff_eq, List.cons.injEq, and_true] at hc); (first | (exfalso; omega) | conv => whnf))) | ((with_reducible refine And.intro True.intro ?_); conv => whnf) | ((with_reducible refine CallX.all ?_); refine CallW.of_ok (within_ok _ 1 8 [n] _ (by simp) (SlC.own rfl)) ?_; conv => whnf) | ((with_reducible refine And.intro ?hh ?_); (case hh => (unfold InR; (try dsimp only); omega)); conv => whnf) | ((with_reducible refine And.intro ?hh ?_); (case hh => ((try dsimp only); omega)); conv => whnf) | ((with_reducible refine And.intro ?hh ?_); (case hh => ((conv => whnf); (repeat' (first | exact True.intro | rfl | refine And.intro ?_ ?_)); done)); conv => whnf) | fail))
  (refine ⟨[], ?_, rfl, rfl, trivial, (by (repeat' (first | exact True.intro | rfl | refine And.intro ?_ ?_)))⟩; simp only [renV, renL]; (first | done | rfl | simp | grind))

theorem areMotions1_ok (h : H) (a : Int) (sv : V) (hs : SlC h (iVs [a]) 1 sv) : CallOk Try.prog 62 [sv] h (.bool (decide (0 ≤ a ∧ a ≤ 7))) h := by
  have e : wi 0 7 [a] = decide (0 ≤ a ∧ a ≤ 7) := by unfold wi; simp
  rw [← e]
  obtain ⟨vo, svC, hsv, hca, hvw⟩ := hs.view 0
  refine CallOk.run Try.func62 rfl rfl (argsC := [svC]) (Nat.le_of_ble_eq_true rfl) [vo] (.cons (hca _ rfl) .nil) (viewMc1 iVs_bare hvw) rfl (WpR.of_vc ?_)
  cases hsv with
  | nil h0 => cases h0
  | @sl cap ex =>
    (conv => whnf); (repeat' (first | ((with_reducible refine ifb_mk (fun hc => ?_) (fun hc => ?_)) <;> ((try simp only [decide_eq_true_eq, decide_eq_false_iff_not, Bool.not_eq_true', Bool.not_eq_false', Int.not_lt, Int.not_le, ne_eq, Decidable.not_not, beq_iff_eq, List.cons.injEq, and_true] at hc); (first | (exfalso; omega) | conv => whnf))) | ((with_reducible refine And.intro True.intro ?_); conv => whnf) | ((with_reducible refine CallX.all ?_); refine CallW.of_ok (within_ok _ 0 7 [a] _ (by simp) (SlC.own rfl)) ?_; conv => whnf) | ((with_reducible refine And.intro ?hh ?_); (case hh => (unfold InR; (try dsimp only); omega)); conv => whnf) | ((with_reducible refine And.intro ?hh ?_); (case hh => ((try dsimp only); omega)); conv => whnf) | ((with_reducible refine And.intro ?hh ?_); (case hh => ((conv => whnf); (repeat' (first | exact True.intro | rfl | refine And.intro ?_ ?_)); done)); conv => whnf) | fail))
    (refine ⟨[], ?_, rfl, rfl, trivial, (by (repeat' (first | exact True.intro | rfl | refine And.intro ?_ ?_)))⟩; simp only [renV, renL]; (first | done | rfl | simp | grind))
theorem areMotions2_ok (h : H) (a b : Int) (sv : V) (hs : SlC h (iVs [a, b]) 2 sv) : CallOk Try.prog 62 [sv] h (.bool (decide (0 ≤ a ∧ a ≤ 7) && decide (0 ≤ b ∧ b ≤ 7))) h := by
  have e : wi 0 7 [a, b] = (decide (0 ≤ a ∧ a ≤ 7) && decide (0 ≤ b ∧ b ≤ 7)) := by unfold wi; simp
  rw [← e]
  obtain ⟨vo, svC, hsv, hca, hvw⟩ := hs.view 0
  refine CallOk.run Try.func62 rfl rfl (argsC := [svC]) (Nat.le_of_ble_eq_true rfl) [vo] (.cons (hca _ rfl) .nil) (viewMc1 iVs_bare hvw) rfl (WpR.of_vc ?_)
  cases hsv with
  | nil h0 => cases h0
  | @sl cap ex =>
    (conv => whnf); (repeat' (first | ((with_reducible refine ifb_mk (fun hc => ?_) (fun hc => ?_)) <;> ((try simp only [decide_eq_true_eq, decide_eq_false_iff_not, Bool.not_eq_true', Bool.not_eq_false', Int.not_lt, Int.not_le, ne_eq, Decidable.not_not, beq_iff_eq, List.cons.injEq, and_true] at hc); (first | (exfalso; omega) | conv => whnf))) | ((with_reducible refine And.intro True.intro ?_); conv => whnf) | ((with_reducible refine CallX.all ?_); refine CallW.of_ok (within_ok _ 0 7 [a, b] _ (by simp) (SlC.own rfl)) ?_; conv => whnf) | ((with_reducible refine And.intro ?hh ?_); (case hh => (unfold InR; (try dsimp only); omega)); conv => whnf) | ((with_reducible refine And.intro ?hh ?_); (case hh => ((try dsimp only); omega)); conv => whnf) | ((with_reducible refine And.intro ?hh ?_); (case hh => ((conv => whnf); (repeat' (first | exact True.intro | rfl | refine And.intro ?_ ?_)); done)); conv => whnf) | fail))
    (refine ⟨[], ?_, rfl, rfl, trivial, (by (repeat' (first | exact True.intro | rfl | refine And.intro ?_ ?_)))⟩; simp only [renV, renL]; (first | done | rfl | simp | grind))

/-! ### Plates -/

def plateV (n : Int) (dv : V) : V := .agg [.int .i64 n, dv]
/-- The error of a plate. -/
def ckP (n : Int) (D : List Int) : Int := if 1 ≤ n ∧ n ≤ 8 then (if (D.length : Int) = n * n then (if wi 0 3 D = true then 0 else 3) else 15) else 6

theorem checkPlate_ok (h : H) (n : Int) (D : List Int) (dv : V) (hl : D.length ≤ 9223372036854775807) (hs : SlC h (iVs D) D.length dv) : CallOk Try.prog 23 [plateV n dv] h (.int .i64 (ckP n D)) h := by
  obtain ⟨vo, svC, hsv, hca, hvw⟩ := hs.view 0
  refine CallOk.run Try.func23 rfl rfl (argsC := [plateV n svC]) (Nat.le_of_ble_eq_true rfl) [vo] (.cons (CaL.agg (.cons (.bare rfl) (.cons (hca _ rfl) .nil))) .nil) (viewMc1 iVs_bare hvw) rfl (WpR.of_vc ?_)
  have kS := fun h' => isSize_ok h' n
  by_cases hn : 1 ≤ n ∧ n ≤ 8
  · have hnn : 1 ≤ n * n ∧ n * n ≤ 64 := by
      obtain ⟨h1, h2⟩ := hn
      have : n = 1 ∨ n = 2 ∨ n = 3 ∨ n = 4 ∨ n = 5 ∨ n = 6 ∨ n = 7 ∨ n = 8 := by omega
      rcases this with rfl | rfl | rfl | rfl | rfl | rfl | rfl | rfl <;> decide
    rw [decide_eq_true hn] at kS
    unfold ckP
    rw [if_pos hn]
    cases hsv with
    | nil h0 =>
      (conv => whnf); (repeat' (first | ((with_reducible refine ifb_mk (fun hc => ?_) (fun hc => ?_)) <;> ((try simp only [decide_eq_true_eq, decide_eq_false_iff_not, Bool.not_eq_true', Bool.not_eq_false', Int.not_lt, Int.not_le, ne_eq, Decidable.not_not, beq_iff_eq, List.cons.injEq, and_true] at hc); (first | (exfalso; omega) | conv => whnf))) | ((with_reducible refine And.intro True.intro ?_); conv => whnf) | ((with_reducible refine CallX.all ?_); refine CallW.of_ok (kS _) ?_; conv => whnf) | ((with_reducible refine And.intro ?hh ?_); (case hh => (unfold InR; (try dsimp only); omega)); conv => whnf) | ((with_reducible refine And.intro ?hh ?_); (case hh => ((try dsimp only); omega)); conv => whnf) | ((with_reducible refine And.intro ?hh ?_); (case hh => ((conv => whnf); (repeat' (first | exact True.intro | rfl | refine And.intro ?_ ?_)); done)); conv => whnf) | fail))
      rw [h0, if_neg (by omega)]
      (refine ⟨[], ?_, rfl, rfl, trivial, (by (repeat' (first | exact True.intro | rfl | refine And.intro ?_ ?_)))⟩; simp only [renV, renL]; (first | done | rfl | simp | grind))
    | @sl cap ex =>
      (conv => whnf); (repeat' (first | ((with_reducible refine ifb_mk (fun hc => ?_) (fun hc => ?_)) <;> ((try simp only [decide_eq_true_eq, decide_eq_false_iff_not, Bool.not_eq_true', Bool.not_eq_false', Int.not_lt, Int.not_le, ne_eq, Decidable.not_not, beq_iff_eq, List.cons.injEq, and_true] at hc); (first | (exfalso; omega) | conv => whnf))) | ((with_reducible refine And.intro True.intro ?_); conv => whnf) | ((with_reducible refine CallX.all ?_); refine CallW.of_ok (kS _) ?_; conv => whnf) | ((with_reducible refine CallX.all ?_); refine CallW.of_ok (within_ok _ 0 3 D _ hl (SlC.own rfl)) ?_; conv => whnf) | ((with_reducible refine And.intro ?hh ?_); (case hh => (unfold InR; (try dsimp only); omega)); conv => whnf) | ((with_reducible refine And.intro ?hh ?_); (case hh => ((try dsimp only); omega)); conv => whnf) | ((with_reducible refine And.intro ?hh ?_); (case hh => ((conv => whnf); (repeat' (first | exact True.intro | rfl | refine And.intro ?_ ?_)); done)); conv => whnf) | fail))
      · rw [if_neg (by omega)]; (refine ⟨[], ?_, rfl, rfl, trivial, (by (repeat' (first | exact True.intro | rfl | refine And.intro ?_ ?_)))⟩; simp only [renV, renL]; (first | done | rfl | simp | grind))
      · rw [if_pos (by omega)]; rw [hc]; (refine ⟨[], ?_, rfl, rfl, trivial, (by (repeat' (first | exact True.intro | rfl | refine And.intro ?_ ?_)))⟩; simp only [renV, renL]; (first | done | rfl | simp | grind))
      · rw [if_pos (by omega)]; rw [hc]; (refine ⟨[], ?_, rfl, rfl, trivial, (by (repeat' (first | exact True.intro | rfl | refine And.intro ?_ ?_)))⟩; simp only [renV, renL]; (first | done | rfl | simp | grind))
  · rw [decide_eq_false hn] at kS
    unfold ckP
    rw [if_neg hn]
    cases hsv with
    | nil h0 => (conv => whnf); (repeat' (first | ((with_reducible refine ifb_mk (fun hc => ?_) (fun hc => ?_)) <;> ((try simp only [decide_eq_true_eq, decide_eq_false_iff_not, Bool.not_eq_true', Bool.not_eq_false', Int.not_lt, Int.not_le, ne_eq, Decidable.not_not, beq_iff_eq, List.cons.injEq, and_true] at hc); (first | (exfalso; omega) | conv => whnf))) | ((with_reducible refine And.intro True.intro ?_); conv => whnf) | ((with_reducible refine CallX.all ?_); refine CallW.of_ok (kS _) ?_; conv => whnf) | ((with_reducible refine And.intro ?hh ?_); (case hh => (unfold InR; (try dsimp only); omega)); conv => whnf) | ((with_reducible refine And.intro ?hh ?_); (case hh => ((try dsimp only); omega)); conv => whnf) | ((with_reducible refine And.intro ?hh ?_); (case hh => ((conv => whnf); (repeat' (first | exact True.intro | rfl | refine And.intro ?_ ?_)); done)); conv => whnf) | fail)); (refine ⟨[], ?_, rfl, rfl, trivial, (by (repeat' (first | exact True.intro | rfl | refine And.intro ?_ ?_)))⟩; simp only [renV, renL]; (first | done | rfl | simp | grind))
    | @sl cap ex => (conv => whnf); (repeat' (first | ((with_reducible refine ifb_mk (fun hc => ?_) (fun hc => ?_)) <;> ((try simp only [decide_eq_true_eq, decide_eq_false_iff_not, Bool.not_eq_true', Bool.not_eq_false', Int.not_lt, Int.not_le, ne_eq, Decidable.not_not, beq_iff_eq, List.cons.injEq, and_true] at hc); (first | (exfalso; omega) | conv => whnf))) | ((with_reducible refine And.intro True.intro ?_); conv => whnf) | ((with_reducible refine CallX.all ?_); refine CallW.of_ok (kS _) ?_; conv => whnf) | ((with_reducible refine And.intro ?hh ?_); (case hh => (unfold InR; (try dsimp only); omega)); conv => whnf) | ((with_reducible refine And.intro ?hh ?_); (case hh => ((try dsimp only); omega)); conv => whnf) | ((with_reducible refine And.intro ?hh ?_); (case hh => ((conv => whnf); (repeat' (first | exact True.intro | rfl | refine And.intro ?_ ?_)); done)); conv => whnf) | fail)); (refine ⟨[], ?_, rfl, rfl, trivial, (by (repeat' (first | exact True.intro | rfl | refine And.intro ?_ ?_)))⟩; simp only [renV, renL]; (first | done | rfl | simp | grind))
end Go.Proofs.P

namespace Go.Proofs.P
open Go.As
set_option maxRecDepth 20000
set_option linter.unusedVariables false
set_option linter.unusedSimpArgs false

/-! ### Places -/

def qtN (n : Nat) (p : Nat × Nat) : Nat × Nat := (p.2, n - 1 - p.1)
/-- Where a motion brings a place. -/
def mvN (n m : Nat) (p : Nat × Nat) : Nat × Nat :=
  match m % 4 with
  | 0 => if 4 ≤ m then (p.1, n - 1 - p.2) else p
  | 1 => qtN n (if 4 ≤ m then (p.1, n - 1 - p.2) else p)
  | 2 => qtN n (qtN n (if 4 ≤ m then (p.1, n - 1 - p.2) else p))
  | _ => qtN n (qtN n (qtN n (if 4 ≤ m then (p.1, n - 1 - p.2) else p)))
def spV (p : Nat × Nat) : V := .agg [.int .i64 p.1, .int .i64 p.2]
theorem mvN_lt {n m : Nat} {p : Nat × Nat} (h1 : p.1 < n) (h2 : p.2 < n) : (mvN n m p).1 < n ∧ (mvN n m p).2 < n := by
  unfold mvN qtN
  split <;> split <;> (constructor <;> (try dsimp only) <;> omega)

theorem mirrors_ok (h : H) (m : Int) : CallOk Try.prog 102 [.int .i64 m] h (.bool (decide (4 ≤ m))) h := by
  refine CallOk.run0 Try.func102 rfl rfl rfl rfl rfl (WpR.of_vc ?_)
  (conv => whnf); (repeat' (first | ((with_reducible refine ifb_mk (fun hc => ?_) (fun hc => ?_)) <;> ((try simp only [decide_eq_true_eq, decide_eq_false_iff_not, Bool.not_eq_true', Bool.not_eq_false', Int.not_lt, Int.not_le, ne_eq, Decidable.not_not, beq_iff_eq, List.cons.injEq, and_true] at hc); (first | (exfalso; omega) | conv => whnf))) | ((with_reducible refine And.intro True.intro ?_); conv => whnf) | ((with_reducible refine And.intro ?hh ?_); (case hh => (unfold InR; (try dsimp only); omega)); conv => whnf) | ((with_reducible refine And.intro ?hh ?_); (case hh => ((try dsimp only); omega)); conv => whnf) | ((with_reducible refine And.intro ?hh ?_); (case hh => ((conv => whnf); (repeat' (first | exact True.intro | rfl | refine And.intro ?_ ?_)); done)); conv => whnf) | fail))
  (refine ⟨[], ?_, rfl, rfl, trivial, (by (repeat' (first | exact True.intro | rfl | refine And.intro ?_ ?_)))⟩; simp only [renV, renL]; (first | done | rfl | simp | grind))

theorem spotMoved_ok (h : H) (n m r c : Nat) (hn : n ≤ 8) (hm : m < 8) (hr : r < n) (hc : c < n) : CallOk Try.prog 98 [spV (r, c), .int .i64 n, .int .i64 m] h (spV (mvN n m (r, c))) h := by
  have km := fun h' => mirrors_ok h' m
  obtain ⟨mi, hmi⟩ : ∃ mi : Int, mi = m := ⟨_, rfl⟩
  rw [← hmi] at km ⊢
  have e : m = 0 ∨ m = 1 ∨ m = 2 ∨ m = 3 ∨ m = 4 ∨ m = 5 ∨ m = 6 ∨ m = 7 := by omega
  rcases e with rfl | rfl | rfl | rfl | rfl | rfl | rfl | rfl
  all_goals
    have hmi' := hmi
    simp only [Int.natCast_zero, Int.natCast_one, Int.cast_ofNat_Int] at hmi'
    subst hmi'
    refine CallOk.run0 Try.func98 rfl rfl rfl rfl rfl (WpR.of_vc ?_)
    (conv => whnf); (repeat' (first | ((with_reducible refine ifb_mk (fun hc => ?_) (fun hc => ?_)) <;> ((try simp only [decide_eq_true_eq, decide_eq_false_iff_not, Bool.not_eq_true', Bool.not_eq_false', Int.not_lt, Int.not_le, ne_eq, Decidable.not_not, beq_iff_eq, List.cons.injEq, and_true] at hc); (first | (exfalso; omega) | conv => whnf))) | ((with_reducible refine And.intro True.intro ?_); conv => whnf) | ((with_reducible refine CallX.all ?_); refine CallW.of_ok (km _) ?_; conv => whnf) | ((with_reducible refine grd_and ?_); refine And.intro ((by unfold InR; decide)) ?_; conv => whnf) | ((with_reducible refine WpR.loopU 4 ?_); conv => whnf) | ((with_reducible refine And.intro ?hh ?_); (case hh => (unfold InR; (try dsimp only); omega)); conv => whnf) | ((with_reducible refine And.intro ?hh ?_); (case hh => ((try dsimp only); omega)); conv => whnf) | ((with_reducible refine And.intro ?hh ?_); (case hh => ((conv => whnf); (repeat' (first | exact True.intro | rfl | refine And.intro ?_ ?_)); done)); conv => whnf) | fail))
    (refine ⟨[], ?_, rfl, rfl, trivial, (by (repeat' (first | exact True.intro | rfl | refine And.intro ?_ ?_)))⟩; simp only [renV, renL]; (simp [spV, renV, renL, mvN, qtN] <;> omega))
end Go.Proofs.P

namespace Go.Proofs.P
open Go.As
set_option maxRecDepth 20000
set_option linter.unusedVariables false
set_option linter.unusedSimpArgs false

/-! ### Tables of calls on numbers -/

theorem CallOk.everyBare {P : Program} {f : FuncId} {args : List V} {v : V} {h' : H} (hc : CallOk P f args H.empty v h') (ha : ltL 0 args = true) (hb : bare v = true) (h : H) : CallOk P f args h v h := by
  intro base m w xs hr hB hvs
  have hx : VRs (fun _ => none) args xs := ⟨hvs.1, fun k v x hv hx => (hvs.2 k v x hv hx).of_lt0 (ltL_get ha k v hv)⟩
  refine ⟨(hc w.heap.size (fun _ => none) w xs (HR.empty w) (Nat.le_refl _) hx).1, CallsIn.mono (hc.calls hx w) ?_⟩
  rintro e w' ⟨m', x, rfl, hv, ho, ht, hp, hsz, hfr⟩
  refine ⟨m, x, rfl, ?_, hv.of_bare hb⟩
  exact {
    ext := .refl m
    new := fun i p h1 h2 => by rw [h1] at h2; cases h2
    hr := {
      blk := fun i b r s hi hm => by rw [hfr r (hr.rng i r s hm)]; exact hr.blk i b r s hi hm
      inj := hr.inj
      own := hr.own
      rng := fun i r s hm => Nat.lt_of_lt_of_le (hr.rng i r s hm) hsz
      lt := hr.lt
      dom := hr.dom }
    n := Nat.le_refl _
    os := ho
    tape := ht
    output := hp
    size := hsz
    frame := fun r hr' _ => hfr r hr'
    fresh := fun i b r s hi hw hm => .inr ⟨i, b, s, hi, hw, hm⟩
    low := fun _ _ _ => rfl
    lowle := Nat.le_refl _
    keep := fun _ _ _ => rfl }

def tab (f0 : FuncId) (g : List V → Option V) (k : Memo) : Memo := fun f a h => match Nat.beq f f0 with
  | true => (match g a with
    | some v => some (v, h)
    | none => k f a h)
  | false => k f a h
theorem MemoOk.tab {P : Program} {k : Memo} (hk : MemoOk P k) {f : FuncId} {g : List V → Option V} (hg : ∀ a v, g a = some v → ∀ h, CallOk P f a h v h) : MemoOk P (tab f g k) := by
  intro f1 a1 h1 v1 h1' he
  unfold Go.Proofs.P.tab at he
  split at he
  · rename_i hf
    split at he
    · rename_i v hv
      cases he
      rw [Nat.eq_of_beq_eq_true hf]
      exact hg a1 v1 hv h1
    · exact hk _ _ _ _ _ he
  · exact hk _ _ _ _ _ he

def nV (n : Nat) : V := .int .i64 (.ofNat n)
def n1G (ok : Nat → Bool) (f : Nat → V) : List V → Option V
  | [.int .i64 (.ofNat a)] => (match ok a with | true => some (f a) | false => none)
  | _ => none
def n2G (ok : Nat → Nat → Bool) (f : Nat → Nat → V) : List V → Option V
  | [.int .i64 (.ofNat a), .int .i64 (.ofNat b)] => (match ok a b with | true => some (f a b) | false => none)
  | _ => none
def n4G (ok : Nat → Nat → Nat → Nat → Bool) (f : Nat → Nat → Nat → Nat → V) : List V → Option V
  | [.int .i64 (.ofNat a), .int .i64 (.ofNat b), .int .i64 (.ofNat c), .int .i64 (.ofNat d)] => (match ok a b c d with | true => some (f a b c d) | false => none)
  | _ => none
theorem n1G_some {ok : Nat → Bool} {f : Nat → V} {a : List V} {v : V} (h : n1G ok f a = some v) : ∃ x, a = [nV x] ∧ ok x = true ∧ v = f x := by
  unfold n1G at h
  split at h
  · split at h
    · rename_i hk; cases h; exact ⟨_, rfl, hk, rfl⟩
    · cases h
  · cases h
theorem n2G_some {ok : Nat → Nat → Bool} {f : Nat → Nat → V} {a : List V} {v : V} (h : n2G ok f a = some v) : ∃ x y, a = [nV x, nV y] ∧ ok x y = true ∧ v = f x y := by
  unfold n2G at h
  split at h
  · split at h
    · rename_i hk; cases h; exact ⟨_, _, rfl, hk, rfl⟩
    · cases h
  · cases h
theorem n4G_some {ok : Nat → Nat → Nat → Nat → Bool} {f : Nat → Nat → Nat → Nat → V} {a : List V} {v : V} (h : n4G ok f a = some v) : ∃ x y z u, a = [nV x, nV y, nV z, nV u] ∧ ok x y z u = true ∧ v = f x y z u := by
  unfold n4G at h
  split at h
  · split at h
    · rename_i hk; cases h; exact ⟨_, _, _, _, rfl, hk, rfl⟩
    · cases h
  · cases h
theorem all_range {n : Nat} {p : Nat → Bool} (h : ((List.range n).all p) = true) {a : Nat} (ha : a < n) : p a = true := List.all_eq_true.1 h a (List.mem_range.2 ha)

/-! ### The reference's places -/

theorem to_ok (h : H) (n m r c : Nat) (hn : n ≤ 8) (hm : m < 8) (hr : r < n) (hc : c < n) : CallOk Try.prog 96 [nV n, nV m, nV r, nV c] h (.tup [nV (mvN n m (r, c)).1, nV (mvN n m (r, c)).2]) h := by
  show CallOk Try.prog _ [.int .i64 n, .int .i64 m, .int .i64 r, .int .i64 c] h (.tup [.int .i64 (mvN n m (r, c)).1, .int .i64 (mvN n m (r, c)).2]) h
  obtain ⟨mi, hmi⟩ : ∃ mi : Int, mi = m := ⟨_, rfl⟩
  rw [← hmi]
  have e : m = 0 ∨ m = 1 ∨ m = 2 ∨ m = 3 ∨ m = 4 ∨ m = 5 ∨ m = 6 ∨ m = 7 := by omega
  rcases e with rfl | rfl | rfl | rfl | rfl | rfl | rfl | rfl
  all_goals
    have hmi' := hmi
    simp only [Int.natCast_zero, Int.natCast_one, Int.cast_ofNat_Int] at hmi'
    subst hmi'
    refine CallOk.run0 Try.func96 rfl rfl rfl rfl rfl (WpR.of_vc ?_)
    (conv => whnf); (repeat' (first | ((with_reducible refine ifb_mk (fun hc => ?_) (fun hc => ?_)) <;> ((try simp only [decide_eq_true_eq, decide_eq_false_iff_not, Bool.not_eq_true', Bool.not_eq_false', Int.not_lt, Int.not_le, ne_eq, Decidable.not_not, beq_iff_eq, List.cons.injEq, and_true] at hc); (first | (exfalso; omega) | conv => whnf))) | ((with_reducible refine And.intro True.intro ?_); conv => whnf) | ((with_reducible refine grd_and ?_); refine And.intro ((by unfold InR; decide)) ?_; conv => whnf) | ((with_reducible refine WpR.loopU 4 ?_); conv => whnf) | ((with_reducible refine And.intro ?hh ?_); (case hh => (unfold InR; (try dsimp only); omega)); conv => whnf) | ((with_reducible refine And.intro ?hh ?_); (case hh => ((try dsimp only); omega)); conv => whnf) | ((with_reducible refine And.intro ?hh ?_); (case hh => ((conv => whnf); (repeat' (first | exact True.intro | rfl | refine And.intro ?_ ?_)); done)); conv => whnf) | fail))
    (refine ⟨[], ?_, rfl, rfl, trivial, (by (repeat' (first | exact True.intro | rfl | refine And.intro ?_ ?_)))⟩; simp only [renV, renL]; (simp [renV, renL, mvN, qtN] <;> omega))
theorem mirrorsN_ok (h : H) (m : Nat) : CallOk Try.prog 102 [nV m] h (.bool (Nat.ble 4 m)) h := by
  have e : Nat.ble 4 m = decide ((4 : Int) ≤ (m : Int)) := by rw [Bool.eq_iff_iff, Nat.ble_eq]; simp; omega
  rw [e]; exact mirrors_ok h m

/-! ### Motions, one after another -/

def aftN (a b : Nat) : Nat :=
  match Nat.ble 4 a, Nat.ble 4 b with
  | false, false => (a + b) % 4
  | true, false => (a % 4 + b) % 4 + 4
  | false, true => (4 - a + b % 4) % 4 + 4
  | true, true => (4 - a % 4 + b % 4) % 4
def invN (m : Nat) : Nat := match Nat.ble 4 m with | true => m | false => (4 - m) % 4
def mirG : List V → Option V := n1G (fun m => Nat.blt m 8) fun m => .bool (Nat.ble 4 m)
def toG : List V → Option V := n4G (fun n m r c => Nat.ble n 8 && Nat.blt m 8 && Nat.blt r n && Nat.blt c n) fun n m r c => .tup [nV (mvN n m (r, c)).1, nV (mvN n m (r, c)).2]
def k0 : Memo := tab 102 mirG (tab 96 toG (Go.As.look []))
theorem k0_ok : MemoOk Try.prog k0 := by
  refine MemoOk.tab (MemoOk.tab (MemoOk.nil _) (fun a v h hh => ?_)) (fun a v h hh => ?_)
  · obtain ⟨n, m, r, c, rfl, hk, rfl⟩ := n4G_some h
    simp only [Bool.and_eq_true, Nat.ble_eq, Nat.blt_eq] at hk
    exact to_ok hh n m r c hk.1.1.1 hk.1.1.2 hk.1.2 hk.2
  · obtain ⟨m, rfl, hk, rfl⟩ := n1G_some h
    exact mirrorsN_ok hh m

set_option maxHeartbeats 2000000 in
theorem after_all : ((List.range 8).all fun a => (List.range 8).all fun b => chk (evM Try.prog k0 200 (.call 71 [nV a, nV b] H.empty)) (nV (aftN a b)) H.empty) = true := by kernel_rfl
theorem afterOf_all : ((List.range 8).all fun a => (List.range 8).all fun b => chk (evM Try.prog k0 200 (.call 72 [nV a, nV b] H.empty)) (nV (aftN a b)) H.empty) = true := by kernel_rfl
theorem inverse_all : ((List.range 8).all fun a => chk (evM Try.prog k0 200 (.call 73 [nV a] H.empty)) (nV (invN a)) H.empty) = true := by kernel_rfl

theorem after_ok (h : H) (a b : Nat) (ha : a < 8) (hb : b < 8) : CallOk Try.prog 71 [nV a, nV b] h (nV (aftN a b)) h :=
  CallOk.everyBare (.of_chk mixed k0_ok 200 (all_range (all_range after_all ha) hb)) rfl rfl h
theorem afterOf_ok (h : H) (a b : Nat) (ha : a < 8) (hb : b < 8) : CallOk Try.prog 72 [nV a, nV b] h (nV (aftN a b)) h :=
  CallOk.everyBare (.of_chk mixed k0_ok 200 (all_range (all_range afterOf_all ha) hb)) rfl rfl h
theorem inverse_ok (h : H) (a : Nat) (ha : a < 8) : CallOk Try.prog 73 [nV a] h (nV (invN a)) h :=
  CallOk.everyBare (.of_chk mixed k0_ok 200 (all_range inverse_all ha)) rfl rfl h
end Go.Proofs.P

namespace Go.Proofs.P
open Go.As
set_option maxRecDepth 20000
set_option linter.unusedVariables false
set_option linter.unusedSimpArgs false

theorem tdiv_nat (a b : Nat) : (a : Int).tdiv b = ((a / b : Nat) : Int) := rfl
theorem tmod_nat (a b : Nat) : (a : Int).tmod b = ((a % b : Nat) : Int) := rfl

theorem spotAt_ok (h : H) (i n : Nat) (hn : 1 ≤ n ∧ n ≤ 8) (hi : i < 64) : CallOk Try.prog 97 [nV i, nV n] h (spV (i / n, i % n)) h := by
  show CallOk Try.prog _ [.int .i64 i, .int .i64 n] h (.agg [.int .i64 (i / n : Nat), .int .i64 (i % n : Nat)]) h
  rw [← tdiv_nat, ← tmod_nat]
  have h1 : InR ((i : Int).tdiv n) := by
    rw [tdiv_nat]
    have := Nat.div_le_self i n
    generalize i / n = q at *
    unfold InR; omega
  have h2 : InR ((i : Int).tmod n) := by
    rw [tmod_nat]
    have := Nat.mod_le i n
    generalize i % n = q at *
    unfold InR; omega
  refine CallOk.run0 Try.func97 rfl rfl rfl rfl rfl (WpR.of_vc ?_)
  (conv => whnf); (repeat' (first | ((with_reducible refine ifb_mk (fun hc => ?_) (fun hc => ?_)) <;> ((try simp only [decide_eq_true_eq, decide_eq_false_iff_not, Bool.not_eq_true', Bool.not_eq_false', Int.not_lt, Int.not_le, ne_eq, Decidable.not_not, beq_iff_eq, List.cons.injEq, and_true] at hc); (first | (exfalso; omega) | conv => whnf))) | ((with_reducible refine And.intro True.intro ?_); conv => whnf) | ((with_reducible refine grd_and ?_); refine And.intro (h1) ?_; conv => whnf) | ((with_reducible refine grd_and ?_); refine And.intro (h2) ?_; conv => whnf) | ((with_reducible refine WpR.draw (id := 1) mixed [0, 1, 2, 3, 4, 5, 6, 7] [0, 0, 3, 0, 0, 24, 63, 127] ?hh ?_); (case hh => kernel_rfl); conv => whnf) | ((with_reducible refine And.intro ?hh ?_); (case hh => (unfold InR; (try dsimp only); omega)); conv => whnf) | ((with_reducible refine And.intro ?hh ?_); (case hh => ((try dsimp only); omega)); conv => whnf) | ((with_reducible refine And.intro ?hh ?_); (case hh => ((conv => whnf); (repeat' (first | exact True.intro | rfl | refine And.intro ?_ ?_)); done)); conv => whnf) | fail))
  (refine ⟨[], ?_, rfl, rfl, trivial, (by (repeat' (first | exact True.intro | rfl | refine And.intro ?_ ?_)))⟩; simp only [renV, renL]; (first | done | rfl | simp | grind))

theorem mul_lt {n r c : Nat} (hn : n ≤ 8) (hr : r < n) (hc : c < n) : r * n + c < n * n ∧ n * n ≤ 64 := by
  have h1 : (r + 1) * n ≤ n * n := Nat.mul_le_mul_right n hr
  have h2 : n * n ≤ 8 * 8 := Nat.mul_le_mul hn hn
  rw [Nat.add_mul] at h1
  omega
theorem index_ok (h : H) (r c n : Nat) (hn : n ≤ 8) (hr : r < n) (hc : c < n) : CallOk Try.prog 99 [spV (r, c), nV n] h (nV (r * n + c)) h := by
  show CallOk Try.prog _ [spV (r, c), .int .i64 n] h (.int .i64 (r * n + c : Nat)) h
  have ⟨h1, h2⟩ := mul_lt hn hr hc
  have e : ((r * n + c : Nat) : Int) = (r : Int) * n + c := by simp
  have e2 : ((r * n : Nat) : Int) = (r : Int) * n := by simp
  rw [e]
  have h3 : InR ((r : Int) * n) := by rw [← e2]; unfold InR; omega
  have h4 : InR ((r : Int) * n + c) := by rw [← e]; unfold InR; omega
  refine CallOk.run0 Try.func99 rfl rfl rfl rfl rfl (WpR.of_vc ?_)
  (conv => whnf); (repeat' (first | ((with_reducible refine ifb_mk (fun hc => ?_) (fun hc => ?_)) <;> ((try simp only [decide_eq_true_eq, decide_eq_false_iff_not, Bool.not_eq_true', Bool.not_eq_false', Int.not_lt, Int.not_le, ne_eq, Decidable.not_not, beq_iff_eq, List.cons.injEq, and_true] at hc); (first | (exfalso; omega) | conv => whnf))) | ((with_reducible refine And.intro True.intro ?_); conv => whnf) | ((with_reducible refine grd_and ?_); refine And.intro (h3) ?_; conv => whnf) | ((with_reducible refine grd_and ?_); refine And.intro (h4) ?_; conv => whnf) | ((with_reducible refine And.intro ?hh ?_); (case hh => (unfold InR; (try dsimp only); omega)); conv => whnf) | ((with_reducible refine And.intro ?hh ?_); (case hh => ((try dsimp only); omega)); conv => whnf) | ((with_reducible refine And.intro ?hh ?_); (case hh => ((conv => whnf); (repeat' (first | exact True.intro | rfl | refine And.intro ?_ ?_)); done)); conv => whnf) | fail))
  (refine ⟨[], ?_, rfl, rfl, trivial, (by (repeat' (first | exact True.intro | rfl | refine And.intro ?_ ?_)))⟩; simp only [renV, renL]; (first | done | rfl | simp | grind))

/-! ### Circles -/

def sgN (n m i : Nat) : Nat := let p := mvN n m (i / n, i % n); p.1 * n + p.2
def cirN (n m : Nat) : Nat := ((List.range (n * n)).filter fun i => Nat.ble i (sgN n m i) && Nat.ble i (sgN n m (sgN n m i)) && Nat.ble i (sgN n m (sgN n m (sgN n m i)))).length
def spAtG : List V → Option V := n2G (fun i n => Nat.blt i 64 && (Nat.ble 1 n && Nat.ble n 8)) fun i n => spV (i / n, i % n)
def spotG (ok : Nat → Nat → Nat → Nat → Bool) (f : Nat → Nat → Nat → Nat → V) : List V → Option V
  | [.agg [.int .i64 (.ofNat r), .int .i64 (.ofNat c)], .int .i64 (.ofNat n), .int .i64 (.ofNat m)] => (match ok r c n m with | true => some (f r c n m) | false => none)
  | _ => none
theorem spotG_some {ok : Nat → Nat → Nat → Nat → Bool} {f : Nat → Nat → Nat → Nat → V} {a : List V} {v : V} (h : spotG ok f a = some v) : ∃ r c n m, a = [spV (r, c), nV n, nV m] ∧ ok r c n m = true ∧ v = f r c n m := by
  unfold spotG at h
  split at h
  · split at h
    · rename_i hk; cases h; exact ⟨_, _, _, _, rfl, hk, rfl⟩
    · cases h
  · cases h
def indG (ok : Nat → Nat → Nat → Bool) (f : Nat → Nat → Nat → V) : List V → Option V
  | [.agg [.int .i64 (.ofNat r), .int .i64 (.ofNat c)], .int .i64 (.ofNat n)] => (match ok r c n with | true => some (f r c n) | false => none)
  | _ => none
theorem indG_some {ok : Nat → Nat → Nat → Bool} {f : Nat → Nat → Nat → V} {a : List V} {v : V} (h : indG ok f a = some v) : ∃ r c n, a = [spV (r, c), nV n] ∧ ok r c n = true ∧ v = f r c n := by
  unfold indG at h
  split at h
  · split at h
    · rename_i hk; cases h; exact ⟨_, _, _, rfl, hk, rfl⟩
    · cases h
  · cases h
def k1 : Memo := tab 97 spAtG (tab 98 (spotG (fun r c n m => Nat.ble n 8 && Nat.blt m 8 && Nat.blt r n && Nat.blt c n) fun r c n m => spV (mvN n m (r, c)))
  (tab 99 (indG (fun r c n => Nat.ble n 8 && Nat.blt r n && Nat.blt c n) fun r c n => nV (r * n + c)) k0))
theorem k1_ok : MemoOk Try.prog k1 := by
  refine MemoOk.tab (MemoOk.tab (MemoOk.tab k0_ok (fun a v h hh => ?_)) (fun a v h hh => ?_)) (fun a v h hh => ?_)
  · obtain ⟨r, c, n, rfl, hk, rfl⟩ := indG_some h
    simp only [Bool.and_eq_true, Nat.ble_eq, Nat.blt_eq] at hk
    exact index_ok hh r c n hk.1.1 hk.1.2 hk.2
  · obtain ⟨r, c, n, m, rfl, hk, rfl⟩ := spotG_some h
    simp only [Bool.and_eq_true, Nat.ble_eq, Nat.blt_eq] at hk
    exact spotMoved_ok hh n m r c hk.1.1.1 hk.1.1.2 hk.1.2 hk.2
  · obtain ⟨i, n, rfl, hk, rfl⟩ := n2G_some h
    simp only [Bool.and_eq_true, Nat.ble_eq, Nat.blt_eq] at hk
    exact spotAt_ok hh i n hk.2 hk.1

noncomputable def cirOk (n m : Nat) : Bool := chk (evM Try.prog k1 3000 (.call 31 [nV n, nV m] H.empty)) (.tup [nV (cirN n m), nV 0]) H.empty
noncomputable def cirROk (n m : Nat) : Bool := chk (evM Try.prog k1 3000 (.call 76 [nV n, nV m] H.empty)) (nV (cirN n m)) H.empty
theorem cir123 : ([1, 2, 3].all fun n => (List.range 8).all fun m => cirOk n m) = true := by kernel_rfl
theorem cirR123 : ([1, 2, 3].all fun n => (List.range 8).all fun m => cirROk n m) = true := by kernel_rfl
end Go.Proofs.P

