/- What the functions answer that the laws call, one after another (Base). -/
import Derived.Test.YtjkgnkhbbnmgbaaAs6
import Derived.Test.YtjkgnkhbbnmgbaaProg
import Derived.KernelRfl

set_option linter.unusedVariables false
namespace Go.Proofs.P
open Go.As
set_option maxRecDepth 20000
set_option linter.unusedVariables false
set_option linter.unusedSimpArgs false

theorem mixed : Try.prog.follows .mixedOrders = true := by kernel_rfl

/-! ### Lists of numbers -/

def iVs (l : List Int) : List V := l.map (V.int .i64)
theorem iVs_bare {l : List Int} : ∀ v ∈ iVs l, bare0 v = true := fun v h => by obtain ⟨x, _, rfl⟩ := List.mem_map.1 h; rfl
theorem iGet {l : List Int} {i : Nat} {x : Int} (h : l[i]? = some x) : (ofL (iVs l) 0).get (0 + (i : Int).toNat * 1) = some (.int .i64 x) := get_ofL0 (by unfold iVs; rw [List.getElem?_map]; simp [h])
theorem SlC.own {h : H} {L : List V} {b n cap : Nat} {ex w : Bool} {g : Option (Nat × Nat)} (hb : h.get b = some (.cells (ofL L 0) w g)) : SlC h L n (.sl b 0 n cap ex) :=
  SlC.sl hb (fun _ _ h => by rw [Nat.zero_add]; exact get_ofL0 h)
theorem drop_at {α : Type} {l : List α} {i : Nat} {x : α} (h : l[i]? = some x) : l.drop i = x :: l.drop (i + 1) := by
  obtain ⟨hi, rfl⟩ := List.getElem?_eq_some_iff.1 h
  exact List.drop_eq_getElem_cons hi
theorem iNil {h : H} {L : List Int} (h0 : L.length = 0) : SlC h (iVs L) L.length .nils := by
  have : L = [] := List.eq_nil_of_length_eq_zero h0
  subst this
  exact .nil rfl rfl

/-! ### Ranges -/

def wi (a b : Int) (L : List Int) : Bool := L.all fun x => decide (a ≤ x ∧ x ≤ b)
theorem within_ok (h : H) (a b : Int) (L : List Int) (sv : V) (hl : L.length ≤ 9223372036854775807) (hs : SlC h (iVs L) L.length sv) : CallOk Try.prog 69 [.int .i64 a, .int .i64 b, sv] h (.bool (wi a b L)) h := by
  obtain ⟨vo, svC, hsv, hca, hvw⟩ := hs.view 0
  refine CallOk.run Try.func69 rfl rfl (argsC := [.int .i64 a, .int .i64 b, svC]) (Nat.le_of_ble_eq_true rfl) [vo] (.cons (.bare rfl) (.cons (.bare rfl) (.cons (hca _ rfl) .nil))) (viewMc1 iVs_bare hvw) rfl (WpR.of_vc ?_)
  have hBare := @iVs_bare L
  cases hsv with
  | nil h0 =>
    have e : L = [] := List.eq_nil_of_length_eq_zero h0
    subst e
    (conv => whnf); (repeat' (first | ((with_reducible refine ifb_mk (fun hc => ?_) (fun hc => ?_)) <;> ((try simp only [decide_eq_true_eq, decide_eq_false_iff_not, Bool.not_eq_true', Bool.not_eq_false', Int.not_lt, Int.not_le, ne_eq, Decidable.not_not, beq_iff_eq, List.cons.injEq, and_true] at hc); (first | (exfalso; omega) | conv => whnf))) | ((with_reducible refine And.intro True.intro ?_); conv => whnf) | ((with_reducible refine WpR.loopU 2 ?_); conv => whnf) | ((with_reducible refine And.intro ?hh ?_); (case hh => (unfold InR; (try dsimp only); omega)); conv => whnf) | ((with_reducible refine And.intro ?hh ?_); (case hh => ((try dsimp only); omega)); conv => whnf) | ((with_reducible refine And.intro ?hh ?_); (case hh => ((conv => whnf); (repeat' (first | exact True.intro | rfl | refine And.intro ?_ ?_)); done)); conv => whnf) | fail))
    (refine ⟨[], ?_, rfl, rfl, trivial, (by (repeat' (first | exact True.intro | rfl | refine And.intro ?_ ?_)))⟩; simp only [renV, renL]; (first | done | rfl | simp | grind))
  | @sl cap ex =>
  (conv => whnf); (repeat' (first | ((with_reducible refine ifb_mk (fun hc => ?_) (fun hc => ?_)) <;> ((try simp only [decide_eq_true_eq, decide_eq_false_iff_not, Bool.not_eq_true', Bool.not_eq_false', Int.not_lt, Int.not_le, ne_eq, Decidable.not_not, beq_iff_eq, List.cons.injEq, and_true] at hc); (first | (exfalso; omega) | conv => whnf))) | ((with_reducible refine And.intro True.intro ?_); conv => whnf) | ((with_reducible refine And.intro ?hh ?_); (case hh => (unfold InR; (try dsimp only); omega)); conv => whnf) | ((with_reducible refine And.intro ?hh ?_); (case hh => ((try dsimp only); omega)); conv => whnf) | ((with_reducible refine And.intro ?hh ?_); (case hh => ((conv => whnf); (repeat' (first | exact True.intro | rfl | refine And.intro ?_ ?_)); done)); conv => whnf) | fail))
  refine WpR.loopD (ι := Nat) [] [0, 1, 9, 10] [] [] 1 (fun i => [(11, .int .i64 i)]) (fun _ => []) (fun i => L.length - i) (fun i => i ≤ L.length ∧ wi a b L = wi a b (L.drop i)) ?_ (0) (⟨Nat.zero_le _, rfl⟩) [] ⟨rfl, rfl, (by (repeat' (first | exact True.intro | rfl | refine And.intro ?_ ?_))), (by (repeat' (first | exact True.intro | rfl | refine And.intro ?_ ?_))), (by (repeat' (first | exact True.intro | rfl | refine And.intro ?_ ?_))), (by (repeat' (first | exact True.intro | exact Or.inl rfl | refine And.intro ?_ ?_ | refine Or.inr ⟨_, rfl, ?_⟩ | exact SubQ.same (n := 1000) (Y := []) (fun _ _ _ => rfl) (by first | exact True.intro | exact ltB_all rfl | exact ltB_ofLb (by first | exact bare0_ints | assumption | exact bVs_bare | exact iVs_bare | exact mVs_bare | (intro v hv; (repeat (rcases List.mem_cons.1 hv with rfl | hv; exact rfl)); cases hv)) | exact ltB_loop rfl rfl | exact hMap _ | exact hMap2 _ | exact grB_lt (by first | exact bare0_ints | assumption | exact bVs_bare | exact iVs_bare | exact mVs_bare | (intro v hv; (repeat (rcases List.mem_cons.1 hv with rfl | hv; exact rfl)); cases hv)) _ | exact ltB_encL | exact ltB_map0 | assumption) (avB_nil _) rfl | exact SubQ.ofL (by first | rfl | simp) (by first | exact bare0_ints | assumption | exact bVs_bare | exact iVs_bare | exact mVs_bare | (intro v hv; (repeat (rcases List.mem_cons.1 hv with rfl | hv; exact rfl)); cases hv)) (by first | exact Or.inl rfl | exact Or.inr rfl) | exact SubQ.fin (by (conv => whnf); (repeat' (first | exact True.intro | rfl | refine And.intro ?_ ?_)); done) (fun h => h) (by first | exact Or.inl rfl | exact Or.inr rfl)))), rfl, rfl⟩ rfl rfl rfl (fun _ => rfl) (by (repeat' (first | exact True.intro | refine And.intro ?_ ?_ | exact avV_nil _ | rfl))) (by (repeat' (first | exact True.intro | (with_reducible exact avB_nil _) | ((with_reducible refine avB_all ?_); rfl) | ((with_reducible refine avB_ofLb ?_); exact (by first | exact bare0_ints | assumption | exact bVs_bare | exact iVs_bare | exact mVs_bare | (intro v hv; (repeat (rcases List.mem_cons.1 hv with rfl | hv; exact rfl)); cases hv))) | ((with_reducible refine ltB_all ?_); rfl) | ((with_reducible refine ltB_ofLb ?_); exact (by first | exact bare0_ints | assumption | exact bVs_bare | exact iVs_bare | exact mVs_bare | (intro v hv; (repeat (rcases List.mem_cons.1 hv with rfl | hv; exact rfl)); cases hv))) | ((with_reducible refine ltB_loop ?_ ?_) <;> rfl) | (with_reducible exact hMap _) | (with_reducible exact hMap2 _) | (with_reducible exact ltB_encL) | (with_reducible exact ltB_map0) | ((with_reducible refine grB_lt ?_ _); exact (by first | exact bare0_ints | assumption | exact bVs_bare | exact iVs_bare | exact mVs_bare | (intro v hv; (repeat (rcases List.mem_cons.1 hv with rfl | hv; exact rfl)); cases hv))) | (with_reducible assumption) | refine And.intro ?_ ?_ | exact (by first | exact True.intro | exact ltB_all rfl | exact ltB_ofLb (by first | exact bare0_ints | assumption | exact bVs_bare | exact iVs_bare | exact mVs_bare | (intro v hv; (repeat (rcases List.mem_cons.1 hv with rfl | hv; exact rfl)); cases hv)) | exact ltB_loop rfl rfl | exact hMap _ | exact hMap2 _ | exact grB_lt (by first | exact bare0_ints | assumption | exact bVs_bare | exact iVs_bare | exact mVs_bare | (intro v hv; (repeat (rcases List.mem_cons.1 hv with rfl | hv; exact rfl)); cases hv)) _ | exact ltB_encL | exact ltB_map0 | assumption)))) (fun _ _ => (by (repeat' (first | exact True.intro | rfl | refine And.intro ?_ ?_ | exact (by decide) | exact (by first | exact True.intro | exact hMap _ | exact hMap2 _ | exact grB_lt (by first | exact bare0_ints | assumption | exact bVs_bare | exact iVs_bare | exact mVs_bare | (intro v hv; (repeat (rcases List.mem_cons.1 hv with rfl | hv; exact rfl)); cases hv)) _ | exact ltB_all rfl | exact ltB_ofLb (by first | exact bare0_ints | assumption | exact bVs_bare | exact iVs_bare | exact mVs_bare | (intro v hv; (repeat (rcases List.mem_cons.1 hv with rfl | hv; exact rfl)); cases hv)) | exact ltB_loop rfl rfl | exact ltB_encL | exact ltB_map0 | assumption))))) (fun _ _ => (by (repeat' (first | exact True.intro | rfl | refine And.intro ?_ ?_ | exact (by decide) | exact (by first | exact True.intro | exact hMap _ | exact hMap2 _ | exact grB_lt (by first | exact bare0_ints | assumption | exact bVs_bare | exact iVs_bare | exact mVs_bare | (intro v hv; (repeat (rcases List.mem_cons.1 hv with rfl | hv; exact rfl)); cases hv)) _ | exact ltB_all rfl | exact ltB_ofLb (by first | exact bare0_ints | assumption | exact bVs_bare | exact iVs_bare | exact mVs_bare | (intro v hv; (repeat (rcases List.mem_cons.1 hv with rfl | hv; exact rfl)); cases hv)) | exact ltB_loop rfl rfl | exact ltB_encL | exact ltB_map0 | assumption))))) (fun _ _ => (by (repeat' (first | exact True.intro | rfl | refine And.intro ?_ ?_)))) rfl
  rintro i ⟨h1, hP⟩
  refine WpR.of_vc ?_
  cases hx : L[i]? with
  | some x =>
    have hlt := (List.getElem?_eq_some_iff.1 hx).1
    rw [drop_at hx] at hP
    unfold wi at hP
    rw [List.all_cons] at hP
    have hQ : wi a b L = (decide (a ≤ x ∧ x ≤ b) && wi a b (L.drop (i + 1))) := hP
    (conv => whnf); (repeat' (first | ((with_reducible refine ifb_mk (fun hc => ?_) (fun hc => ?_)) <;> ((try simp only [decide_eq_true_eq, decide_eq_false_iff_not, Bool.not_eq_true', Bool.not_eq_false', Int.not_lt, Int.not_le, ne_eq, Decidable.not_not, beq_iff_eq, List.cons.injEq, and_true] at hc); (first | (exfalso; omega) | conv => whnf))) | ((with_reducible refine And.intro True.intro ?_); conv => whnf) | ((with_reducible refine grd_get ?_); refine som_mk (a := ?_) ?hh ?_; (case hh => exact iGet hx); conv => whnf) | ((with_reducible refine And.intro ?hh ?_); (case hh => (unfold InR; (try dsimp only); omega)); conv => whnf) | ((with_reducible refine And.intro ?hh ?_); (case hh => ((try dsimp only); omega)); conv => whnf) | ((with_reducible refine And.intro ?hh ?_); (case hh => ((conv => whnf); (repeat' (first | exact True.intro | rfl | refine And.intro ?_ ?_)); done)); conv => whnf) | fail))
    · (refine ⟨[], ?_, rfl, rfl, trivial, (by (repeat' (first | exact True.intro | rfl | refine And.intro ?_ ?_)))⟩; simp only [renV, renL]; rw [hQ, decide_eq_false (by omega)]; rfl)
    · (refine ⟨[], ?_, rfl, rfl, trivial, (by (repeat' (first | exact True.intro | rfl | refine And.intro ?_ ?_)))⟩; simp only [renV, renL]; rw [hQ, decide_eq_false (by omega)]; rfl)
    · rw [decide_eq_true (by omega), Bool.true_and] at hQ
      exact ⟨i + 1, [], by omega, ⟨by omega, hQ⟩, ⟨rfl, rfl, (by (repeat' (first | exact True.intro | rfl | refine And.intro ?_ ?_))), (by (repeat' (first | exact True.intro | rfl | refine And.intro ?_ ?_))), (by (repeat' (first | exact True.intro | rfl | refine And.intro ?_ ?_))), (by (repeat' (first | exact True.intro | exact Or.inl rfl | refine And.intro ?_ ?_ | refine Or.inr ⟨_, rfl, ?_⟩ | exact SubQ.same (n := 1000) (Y := []) (fun _ _ _ => rfl) (by first | exact True.intro | exact ltB_all rfl | exact ltB_ofLb (by first | exact bare0_ints | assumption | exact bVs_bare | exact iVs_bare | exact mVs_bare | (intro v hv; (repeat (rcases List.mem_cons.1 hv with rfl | hv; exact rfl)); cases hv)) | exact ltB_loop rfl rfl | exact hMap _ | exact hMap2 _ | exact grB_lt (by first | exact bare0_ints | assumption | exact bVs_bare | exact iVs_bare | exact mVs_bare | (intro v hv; (repeat (rcases List.mem_cons.1 hv with rfl | hv; exact rfl)); cases hv)) _ | exact ltB_encL | exact ltB_map0 | assumption) (avB_nil _) rfl | exact SubQ.ofL (by first | rfl | simp) (by first | exact bare0_ints | assumption | exact bVs_bare | exact iVs_bare | exact mVs_bare | (intro v hv; (repeat (rcases List.mem_cons.1 hv with rfl | hv; exact rfl)); cases hv)) (by first | exact Or.inl rfl | exact Or.inr rfl) | exact SubQ.fin (by (conv => whnf); (repeat' (first | exact True.intro | rfl | refine And.intro ?_ ?_)); done) (fun h => h) (by first | exact Or.inl rfl | exact Or.inr rfl)))), rfl, rfl⟩⟩
  | none =>
    have hlen : L.length ≤ i := by simpa using hx
    (conv => whnf); (repeat' (first | ((with_reducible refine ifb_mk (fun hc => ?_) (fun hc => ?_)) <;> ((try simp only [decide_eq_true_eq, decide_eq_false_iff_not, Bool.not_eq_true', Bool.not_eq_false', Int.not_lt, Int.not_le, ne_eq, Decidable.not_not, beq_iff_eq, List.cons.injEq, and_true] at hc); (first | (exfalso; omega) | conv => whnf))) | ((with_reducible refine And.intro True.intro ?_); conv => whnf) | ((with_reducible refine And.intro ?hh ?_); (case hh => (unfold InR; (try dsimp only); omega)); conv => whnf) | ((with_reducible refine And.intro ?hh ?_); (case hh => ((try dsimp only); omega)); conv => whnf) | ((with_reducible refine And.intro ?hh ?_); (case hh => ((conv => whnf); (repeat' (first | exact True.intro | rfl | refine And.intro ?_ ?_)); done)); conv => whnf) | fail))
    have e : wi a b L = true := by rw [hP, List.drop_eq_nil_of_le hlen]; rfl
    (refine ⟨[], ?_, rfl, rfl, trivial, (by (repeat' (first | exact True.intro | rfl | refine And.intro ?_ ?_)))⟩; simp only [renV, renL]; rw [e])

theorem isSize_ok (h : H) (n : Int) : CallOk Try.prog 68 [.int .i64 n] h (.bool (decide (1 ≤ n ∧ n ≤ 8))) h := by
  have e : wi 1 8 [n] = decide (1 ≤ n ∧ n ≤ 8) := by unfold wi; simp
  rw [← e]
  refine CallOk.run0 Try.func68 rfl rfl rfl rfl rfl (WpR.of_vc ?_)
  (conv => whnf); (repeat' (first | ((with_reducible refine ifb_mk (fun hc => ?_) (fun hc => ?_)) <;> ((try simp only [decide_eq_true_eq, decide_eq_false_iff_not, Bool.not_eq_true', Bool.not_eq_false', Int.not_lt, Int.not_le, ne_eq, Decidable.not_not, beq_iff_eq, List.cons.injEq, and_true] at hc); (first | (exfalso; omega) | conv => whnf))) | ((with_reducible refine And.intro True.intro ?_); conv => whnf) | ((with_reducible refine CallX.all ?_); refine CallW.of_ok (within_ok _ 1 8 [n] _ (by simp) (SlC.own rfl)) ?_; conv => whnf) | ((with_reducible refine And.intro ?hh ?_); (case hh => (unfold InR; (try dsimp only); omega)); conv => whnf) | ((with_reducible refine And.intro ?hh ?_); (case hh => ((try dsimp only); omega)); conv => whnf) | ((with_reducible refine And.intro ?hh ?_); (case hh => ((conv => whnf); (repeat' (first | exact True.intro | rfl | refine And.intro ?_ ?_)); done)); conv => whnf) | fail))
  (refine ⟨[], ?_, rfl, rfl, trivial, (by (repeat' (first | exact True.intro | rfl | refine And.intro ?_ ?_)))⟩; simp only [renV, renL]; (first | done | rfl | simp | grind))

theorem areMotions1_ok (h : H) (a : Int) (sv : V) (hs : SlC h (iVs [a]) 1 sv) : CallOk Try.prog 62 [sv] h (.bool (decide (0 ≤ a ∧ a ≤ 7))) h := by
  have e : wi 0 7 [a] = decide (0 ≤ a ∧ a ≤ 7) := by unfold wi; simp
  rw [← e]
  obtain ⟨vo, svC, hsv, hca, hvw⟩ := hs.view 0
  refine CallOk.run Try.func62 rfl rfl (argsC := [svC]) (Nat.le_of_ble_eq_true rfl) [vo] (.cons (hca _ rfl) .nil) (viewMc1 iVs_bare hvw) rfl (WpR.of_vc ?_)
  cases hsv with
  | nil h0 => cases h0
  | @sl cap ex =>
    (conv => whnf); (repeat' (first | ((with_reducible refine ifb_mk (fun hc => ?_) (fun hc => ?_)) <;> ((try simp only [decide_eq_true_eq, decide_eq_false_iff_not, Bool.not_eq_true', Bool.not_eq_false', Int.not_lt, Int.not_le, ne_eq, Decidable.not_not, beq_iff_eq, List.cons.injEq, and_true] at hc); (first | (exfalso; omega) | conv => whnf))) | ((with_reducible refine And.intro True.intro ?_); conv => whnf) | ((with_reducible refine CallX.all ?_); refine CallW.of_ok (within_ok _ 0 7 [a] _ (by simp) (SlC.own rfl)) ?_; conv => whnf) | ((with_reducible refine And.intro ?hh ?_); (case hh => (unfold InR; (try dsimp only); omega)); conv => whnf) | ((with_reducible refine And.intro ?hh ?_); (case hh => ((try dsimp only); omega)); conv => whnf) | ((with_reducible refine And.intro ?hh ?_); (case hh => ((conv => whnf); (repeat' (first | exact True.intro | rfl | refine And.intro ?_ ?_)); done)); conv => whnf) | fail))
    (refine ⟨[], ?_, rfl, rfl, trivial, (by (repeat' (first | exact True.intro | rfl | refine And.intro ?_ ?_)))⟩; simp only [renV, renL]; (first | done | rfl | simp | grind))
theorem areMotions2_ok (h : H) (a b : Int) (sv : V) (hs : SlC h (iVs [a, b]) 2 sv) : CallOk Try.prog 62 [sv] h (.bool (decide (0 ≤ a ∧ a ≤ 7) && decide (0 ≤ b ∧ b ≤ 7))) h := by
  have e : wi 0 7 [a, b] = (decide (0 ≤ a ∧ a ≤ 7) && decide (0 ≤ b ∧ b ≤ 7)) := by unfold wi; simp
  rw [← e]
  obtain ⟨vo, svC, hsv, hca, hvw⟩ := hs.view 0
  refine CallOk.run Try.func62 rfl rfl (argsC := [svC]) (Nat.le_of_ble_eq_true rfl) [vo] (.cons (hca _ rfl) .nil) (viewMc1 iVs_bare hvw) rfl (WpR.of_vc ?_)
  cases hsv with
  | nil h0 => cases h0
  | @sl cap ex =>
    (conv => whnf); (repeat' (first | ((with_reducible refine ifb_mk (fun hc => ?_) (fun hc => ?_)) <;> ((try simp only [decide_eq_true_eq, decide_eq_false_iff_not, Bool.not_eq_true', Bool.not_eq_false', Int.not_lt, Int.not_le, ne_eq, Decidable.not_not, beq_iff_eq, List.cons.injEq, and_true] at hc); (first | (exfalso; omega) | conv => whnf))) | ((with_reducible refine And.intro True.intro ?_); conv => whnf) | ((with_reducible refine CallX.all ?_); refine CallW.of_ok (within_ok _ 0 7 [a, b] _ (by simp) (SlC.own rfl)) ?_; conv => whnf) | ((with_reducible refine And.intro ?hh ?_); (case hh => (unfold InR; (try dsimp only); omega)); conv => whnf) | ((with_reducible refine And.intro ?hh ?_); (case hh => ((try dsimp only); omega)); conv => whnf) | ((with_reducible refine And.intro ?hh ?_); (case hh => ((conv => whnf); (repeat' (first | exact True.intro | rfl | refine And.intro ?_ ?_)); done)); conv => whnf) | fail))
    (refine ⟨[], ?_, rfl, rfl, trivial, (by (repeat' (first | exact True.intro | rfl | refine And.intro ?_ ?_)))⟩; simp only [renV, renL]; (first | done | rfl | simp | grind))

/-! ### Plates -/

def plateV (n : Int) (dv : V) : V := .agg [.int .i64 n, dv]
/-- The error of a plate. -/
def ckP (n : Int) (D : List Int) : Int := if 1 ≤ n ∧ n ≤ 8 then (if (D.length : Int) = n * n then (if wi 0 3 D = true then 0 else 3) else 15) else 6

theorem checkPlate_ok (h : H) (n : Int) (D : List Int) (dv : V) (hl : D.length ≤ 9223372036854775807) (hs : SlC h (iVs D) D.length dv) : CallOk Try.prog 23 [plateV n dv] h (.int .i64 (ckP n D)) h := by
  obtain ⟨vo, svC, hsv, hca, hvw⟩ := hs.view 0
  refine CallOk.run Try.func23 rfl rfl (argsC := [plateV n svC]) (Nat.le_of_ble_eq_true rfl) [vo] (.cons (CaL.agg (.cons (.bare rfl) (.cons (hca _ rfl) .nil))) .nil) (viewMc1 iVs_bare hvw) rfl (WpR.of_vc ?_)
  have kS := fun h' => isSize_ok h' n
  by_cases hn : 1 ≤ n ∧ n ≤ 8
  · have hnn : 1 ≤ n * n ∧ n * n ≤ 64 := by
      obtain ⟨h1, h2⟩ := hn
      have : n = 1 ∨ n = 2 ∨ n = 3 ∨ n = 4 ∨ n = 5 ∨ n = 6 ∨ n = 7 ∨ n = 8 := by omega
      rcases this with rfl | rfl | rfl | rfl | rfl | rfl | rfl | rfl <;> decide
    rw [decide_eq_true hn] at kS
    unfold ckP
    rw [if_pos hn]
    cases hsv with
    | nil h0 =>
      (conv => whnf); (repeat' (first | ((with_reducible refine ifb_mk (fun hc => ?_) (fun hc => ?_)) <;> ((try simp only [decide_eq_true_eq, decide_eq_false_iff_not, Bool.not_eq_true', Bool.not_eq_false', Int.not_lt, Int.not_le, ne_eq, Decidable.not_not, beq_iff_eq, List.cons.injEq, and_true] at hc); (first | (exfalso; omega) | conv => whnf))) | ((with_reducible refine And.intro True.intro ?_); conv => whnf) | ((with_reducible refine CallX.all ?_); refine CallW.of_ok (kS _) ?_; conv => whnf) | ((with_reducible refine And.intro ?hh ?_); (case hh => (unfold InR; (try dsimp only); omega)); conv => whnf) | ((with_reducible refine And.intro ?hh ?_); (case hh => ((try dsimp only); omega)); conv => whnf) | ((with_reducible refine And.intro ?hh ?_); (case hh => ((conv => whnf); (repeat' (first | exact True.intro | rfl | refine And.intro ?_ ?_)); done)); conv => whnf) | fail))
      rw [h0, if_neg (by omega)]
      (refine ⟨[], ?_, rfl, rfl, trivial, (by (repeat' (first | exact True.intro | rfl | refine And.intro ?_ ?_)))⟩; simp only [renV, renL]; (first | done | rfl | simp | grind))
    | @sl cap ex =>
      (conv => whnf); (repeat' (first | ((with_reducible refine ifb_mk (fun hc => ?_) (fun hc => ?_)) <;> ((try simp only [decide_eq_true_eq, decide_eq_false_iff_not, Bool.not_eq_true', Bool.not_eq_false', Int.not_lt, Int.not_le, ne_eq, Decidable.not_not, beq_iff_eq, List.cons.injEq, and_true] at hc); (first | (exfalso; omega) | conv => whnf))) | ((with_reducible refine And.intro True.intro ?_); conv => whnf) | ((with_reducible refine CallX.all ?_); refine CallW.of_ok (kS _) ?_; conv => whnf) | ((with_reducible refine CallX.all ?_); refine CallW.of_ok (within_ok _ 0 3 D _ hl (SlC.own rfl)) ?_; conv => whnf) | ((with_reducible refine And.intro ?hh ?_); (case hh => (unfold InR; (try dsimp only); omega)); conv => whnf) | ((with_reducible refine And.intro ?hh ?_); (case hh => ((try dsimp only); omega)); conv => whnf) | ((with_reducible refine And.intro ?hh ?_); (case hh => ((conv => whnf); (repeat' (first | exact True.intro | rfl | refine And.intro ?_ ?_)); done)); conv => whnf) | fail))
      · rw [if_neg (by omega)]; (refine ⟨[], ?_, rfl, rfl, trivial, (by (repeat' (first | exact True.intro | rfl | refine And.intro ?_ ?_)))⟩; simp only [renV, renL]; (first | done | rfl | simp | grind))
      · rw [if_pos (by omega)]; rw [hc]; (refine ⟨[], ?_, rfl, rfl, trivial, (by (repeat' (first | exact True.intro | rfl | refine And.intro ?_ ?_)))⟩; simp only [renV, renL]; (first | done | rfl | simp | grind))
      · rw [if_pos (by omega)]; rw [hc]; (refine ⟨[], ?_, rfl, rfl, trivial, (by (repeat' (first | exact True.intro | rfl | refine And.intro ?_ ?_)))⟩; simp only [renV, renL]; (first | done | rfl | simp | grind))
  · rw [decide_eq_false hn] at kS
    unfold ckP
    rw [if_neg hn]
    cases hsv with
    | nil h0 => (conv => whnf); (repeat' (first | ((with_reducible refine ifb_mk (fun hc => ?_) (fun hc => ?_)) <;> ((try simp only [decide_eq_true_eq, decide_eq_false_iff_not, Bool.not_eq_true', Bool.not_eq_false', Int.not_lt, Int.not_le, ne_eq, Decidable.not_not, beq_iff_eq, List.cons.injEq, and_true] at hc); (first | (exfalso; omega) | conv => whnf))) | ((with_reducible refine And.intro True.intro ?_); conv => whnf) | ((with_reducible refine CallX.all ?_); refine CallW.of_ok (kS _) ?_; conv => whnf) | ((with_reducible refine And.intro ?hh ?_); (case hh => (unfold InR; (try dsimp only); omega)); conv => whnf) | ((with_reducible refine And.intro ?hh ?_); (case hh => ((try dsimp only); omega)); conv => whnf) | ((with_reducible refine And.intro ?hh ?_); (case hh => ((conv => whnf); (repeat' (first | exact True.intro | rfl | refine And.intro ?_ ?_)); done)); conv => whnf) | fail)); (refine ⟨[], ?_, rfl, rfl, trivial, (by (repeat' (first | exact True.intro | rfl | refine And.intro ?_ ?_)))⟩; simp only [renV, renL]; (first | done | rfl | simp | grind))
    | @sl cap ex => (conv => whnf); (repeat' (first | ((with_reducible refine ifb_mk (fun hc => ?_) (fun hc => ?_)) <;> ((try simp only [decide_eq_true_eq, decide_eq_false_iff_not, Bool.not_eq_true', Bool.not_eq_false', Int.not_lt, Int.not_le, ne_eq, Decidable.not_not, beq_iff_eq, List.cons.injEq, and_true] at hc); (first | (exfalso; omega) | conv => whnf))) | ((with_reducible refine And.intro True.intro ?_); conv => whnf) | ((with_reducible refine CallX.all ?_); refine CallW.of_ok (kS _) ?_; conv => whnf) | ((with_reducible refine And.intro ?hh ?_); (case hh => (unfold InR; (try dsimp only); omega)); conv => whnf) | ((with_reducible refine And.intro ?hh ?_); (case hh => ((try dsimp only); omega)); conv => whnf) | ((with_reducible refine And.intro ?hh ?_); (case hh => ((conv => whnf); (repeat' (first | exact True.intro | rfl | refine And.intro ?_ ?_)); done)); conv => whnf) | fail)); (refine ⟨[], ?_, rfl, rfl, trivial, (by (repeat' (first | exact True.intro | rfl | refine And.intro ?_ ?_)))⟩; simp only [renV, renL]; (first | done | rfl | simp | grind))
end Go.Proofs.P

namespace Go.Proofs.P
open Go.As
set_option maxRecDepth 20000
set_option linter.unusedVariables false
set_option linter.unusedSimpArgs false

/-! ### Places -/

def qtN (n : Nat) (p : Nat × Nat) : Nat × Nat := (p.2, n - 1 - p.1)
/-- Where a motion brings a place. -/
def mvN (n m : Nat) (p : Nat × Nat) : Nat × Nat :=
  match m % 4 with
  | 0 => if 4 ≤ m then (p.1, n - 1 - p.2) else p
  | 1 => qtN n (if 4 ≤ m then (p.1, n - 1 - p.2) else p)
  | 2 => qtN n (qtN n (if 4 ≤ m then (p.1, n - 1 - p.2) else p))
  | _ => qtN n (qtN n (qtN n (if 4 ≤ m then (p.1, n - 1 - p.2) else p)))
def spV (p : Nat × Nat) : V := .agg [.int .i64 p.1, .int .i64 p.2]
theorem mvN_lt {n m : Nat} {p : Nat × Nat} (h1 : p.1 < n) (h2 : p.2 < n) : (mvN n m p).1 < n ∧ (mvN n m p).2 < n := by
  unfold mvN qtN
  split <;> split <;> (constructor <;> (try dsimp only) <;> omega)

theorem mirrors_ok (h : H) (m : Int) : CallOk Try.prog 102 [.int .i64 m] h (.bool (decide (4 ≤ m))) h := by
  refine CallOk.run0 Try.func102 rfl rfl rfl rfl rfl (WpR.of_vc ?_)
  (conv => whnf); (repeat' (first | ((with_reducible refine ifb_mk (fun hc => ?_) (fun hc => ?_)) <;> ((try simp only [decide_eq_true_eq, decide_eq_false_iff_not, Bool.not_eq_true', Bool.not_eq_false', Int.not_lt, Int.not_le, ne_eq, Decidable.not_not, beq_iff_eq, List.cons.injEq, and_true] at hc); (first | (exfalso; omega) | conv => whnf))) | ((with_reducible refine And.intro True.intro ?_); conv => whnf) | ((with_reducible refine And.intro ?hh ?_); (case hh => (unfold InR; (try dsimp only); omega)); conv => whnf) | ((with_reducible refine And.intro ?hh ?_); (case hh => ((try dsimp only); omega)); conv => whnf) | ((with_reducible refine And.intro ?hh ?_); (case hh => ((conv => whnf); (repeat' (first | exact True.intro | rfl | refine And.intro ?_ ?_)); done)); conv => whnf) | fail))
  (refine ⟨[], ?_, rfl, rfl, trivial, (by (repeat' (first | exact True.intro | rfl | refine And.intro ?_ ?_)))⟩; simp only [renV, renL]; (first | done | rfl | simp | grind))

theorem spotMoved_ok (h : H) (n m r c : Nat) (hn : n ≤ 8) (hm : m < 8) (hr : r < n) (hc : c < n) : CallOk Try.prog 98 [spV (r, c), .int .i64 n, .int .i64 m] h (spV (mvN n m (r, c))) h := by
  have km := fun h' => mirrors_ok h' m
  obtain ⟨mi, hmi⟩ : ∃ mi : Int, mi = m := ⟨_, rfl⟩
  rw [← hmi] at km ⊢
  have e : m = 0 ∨ m = 1 ∨ m = 2 ∨ m = 3 ∨ m = 4 ∨ m = 5 ∨ m = 6 ∨ m = 7 := by omega
  rcases e with rfl | rfl | rfl | rfl | rfl | rfl | rfl | rfl
  all_goals
    have hmi' := hmi
    simp only [Int.natCast_zero, Int.natCast_one, Int.cast_ofNat_Int] at hmi'
    subst hmi'
    refine CallOk.run0 Try.func98 rfl rfl rfl rfl rfl (WpR.of_vc ?_)
    (conv => whnf); (repeat' (first | ((with_reducible refine ifb_mk (fun hc => ?_) (fun hc => ?_)) <;> ((try simp only [decide_eq_true_eq, decide_eq_false_iff_not, Bool.not_eq_true', Bool.not_eq_false', Int.not_lt, Int.not_le, ne_eq, Decidable.not_not, beq_iff_eq, List.cons.injEq, and_true] at hc); (first | (exfalso; omega) | conv => whnf))) | ((with_reducible refine And.intro True.intro ?_); conv => whnf) | ((with_reducible refine CallX.all ?_); refine CallW.of_ok (km _) ?_; conv => whnf) | ((with_reducible refine grd_and ?_); refine And.intro ((by unfold InR; decide)) ?_; conv => whnf) | ((with_reducible refine WpR.loopU 4 ?_); conv => whnf) | ((with_reducible refine And.intro ?hh ?_); (case hh => (unfold InR; (try dsimp only); omega)); conv => whnf) | ((with_reducible refine And.intro ?hh ?_); (case hh => ((try dsimp only); omega)); conv => whnf) | ((with_reducible refine And.intro ?hh ?_); (case hh => ((conv => whnf); (repeat' (first | exact True.intro | rfl | refine And.intro ?_ ?_)); done)); conv => whnf) | fail))
    (refine ⟨[], ?_, rfl, rfl, trivial, (by (repeat' (first | exact True.intro | rfl | refine And.intro ?_ ?_)))⟩; simp only [renV, renL]; (simp [spV, renV, renL, mvN, qtN] <;> omega))
end Go.Proofs.P

namespace Go.Proofs.P
open Go.As
set_option maxRecDepth 20000
set_option linter.unusedVariables false
set_option linter.unusedSimpArgs false

/-! ### Tables of calls on numbers -/

theorem CallOk.everyBare {P : Program} {f : FuncId} {args : List V} {v : V} {h' : H} (hc : CallOk P f args H.empty v h') (ha : ltL 0 args = true) (hb : bare v = true) (h : H) : CallOk P f args h v h := by
  intro base m w xs hr hB hvs
  have hx : VRs (fun _ => none) args xs := ⟨hvs.1, fun k v x hv hx => (hvs.2 k v x hv hx).of_lt0 (ltL_get ha k v hv)⟩
  refine ⟨(hc w.heap.size (fun _ => none) w xs (HR.empty w) (Nat.le_refl _) hx).1, CallsIn.mono (hc.calls hx w) ?_⟩
  rintro e w' ⟨m', x, rfl, hv, ho, ht, hp, hsz, hfr⟩
  refine ⟨m, x, rfl, ?_, hv.of_bare hb⟩
  exact {
    ext := .refl m
    new := fun i p h1 h2 => by rw [h1] at h2; cases h2
    hr := {
      blk := fun i b r s hi hm => by rw [hfr r (hr.rng i r s hm)]; exact hr.blk i b r s hi hm
      inj := hr.inj
      own := hr.own
      rng := fun i r s hm => Nat.lt_of_lt_of_le (hr.rng i r s hm) hsz
      lt := hr.lt
      dom := hr.dom }
    n := Nat.le_refl _
    os := ho
    tape := ht
    output := hp
    size := hsz
    frame := fun r hr' _ => hfr r hr'
    fresh := fun i b r s hi hw hm => .inr ⟨i, b, s, hi, hw, hm⟩
    low := fun _ _ _ => rfl
    lowle := Nat.le_refl _
    keep := fun _ _ _ => rfl }

def tab (f0 : FuncId) (g : List V → Option V) (k : Memo) : Memo := fun f a h => match Nat.beq f f0 with
  | true => (match g a with
    | some v => some (v, h)
    | none => k f a h)
  | false => k f a h
theorem MemoOk.tab {P : Program} {k : Memo} (hk : MemoOk P k) {f : FuncId} {g : List V → Option V} (hg : ∀ a v, g a = some v → ∀ h, CallOk P f a h v h) : MemoOk P (tab f g k) := by
  intro f1 a1 h1 v1 h1' he
  unfold Go.Proofs.P.tab at he
  split at he
  · rename_i hf
    split at he
    · rename_i v hv
      cases he
      rw [Nat.eq_of_beq_eq_true hf]
      exact hg a1 v1 hv h1
    · exact hk _ _ _ _ _ he
  · exact hk _ _ _ _ _ he

def nV (n : Nat) : V := .int .i64 (.ofNat n)
def n1G (ok : Nat → Bool) (f : Nat → V) : List V → Option V
  | [.int .i64 (.ofNat a)] => (match ok a with | true => some (f a) | false => none)
  | _ => none
def n2G (ok : Nat → Nat → Bool) (f : Nat → Nat → V) : List V → Option V
  | [.int .i64 (.ofNat a), .int .i64 (.ofNat b)] => (match ok a b with | true => some (f a b) | false => none)
  | _ => none
def n4G (ok : Nat → Nat → Nat → Nat → Bool) (f : Nat → Nat → Nat → Nat → V) : List V → Option V
  | [.int .i64 (.ofNat a), .int .i64 (.ofNat b), .int .i64 (.ofNat c), .int .i64 (.ofNat d)] => (match ok a b c d with | true => some (f a b c d) | false => none)
  | _ => none
theorem n1G_some {ok : Nat → Bool} {f : Nat → V} {a : List V} {v : V} (h : n1G ok f a = some v) : ∃ x, a = [nV x] ∧ ok x = true ∧ v = f x := by
  unfold n1G at h
  split at h
  · split at h
    · rename_i hk; cases h; exact ⟨_, rfl, hk, rfl⟩
    · cases h
  · cases h
theorem n2G_some {ok : Nat → Nat → Bool} {f : Nat → Nat → V} {a : List V} {v : V} (h : n2G ok f a = some v) : ∃ x y, a = [nV x, nV y] ∧ ok x y = true ∧ v = f x y := by
  unfold n2G at h
  split at h
  · split at h
    · rename_i hk; cases h; exact ⟨_, _, rfl, hk, rfl⟩
    · cases h
  · cases h
theorem n4G_some {ok : Nat → Nat → Nat → Nat → Bool} {f : Nat → Nat → Nat → Nat → V} {a : List V} {v : V} (h : n4G ok f a = some v) : ∃ x y z u, a = [nV x, nV y, nV z, nV u] ∧ ok x y z u = true ∧ v = f x y z u := by
  unfold n4G at h
  split at h
  · split at h
    · rename_i hk; cases h; exact ⟨_, _, _, _, rfl, hk, rfl⟩
    · cases h
  · cases h
theorem all_range {n : Nat} {p : Nat → Bool} (h : ((List.range n).all p) = true) {a : Nat} (ha : a < n) : p a = true := List.all_eq_true.1 h a (List.mem_range.2 ha)

/-! ### The reference's places -/

theorem to_ok (h : H) (n m r c : Nat) (hn : n ≤ 8) (hm : m < 8) (hr : r < n) (hc : c < n) : CallOk Try.prog 96 [nV n, nV m, nV r, nV c] h (.tup [nV (mvN n m (r, c)).1, nV (mvN n m (r, c)).2]) h := by
  show CallOk Try.prog _ [.int .i64 n, .int .i64 m, .int .i64 r, .int .i64 c] h (.tup [.int .i64 (mvN n m (r, c)).1, .int .i64 (mvN n m (r, c)).2]) h
  obtain ⟨mi, hmi⟩ : ∃ mi : Int, mi = m := ⟨_, rfl⟩
  rw [← hmi]
  have e : m = 0 ∨ m = 1 ∨ m = 2 ∨ m = 3 ∨ m = 4 ∨ m = 5 ∨ m = 6 ∨ m = 7 := by omega
  rcases e with rfl | rfl | rfl | rfl | rfl | rfl | rfl | rfl
  all_goals
    have hmi' := hmi
    simp only [Int.natCast_zero, Int.natCast_one, Int.cast_ofNat_Int] at hmi'
    subst hmi'
    refine CallOk.run0 Try.func96 rfl rfl rfl rfl rfl (WpR.of_vc ?_)
    (conv => whnf); (repeat' (first | ((with_reducible refine ifb_mk (fun hc => ?_) (fun hc => ?_)) <;> ((try simp only [decide_eq_true_eq, decide_eq_false_iff_not, Bool.not_eq_true', Bool.not_eq_false', Int.not_lt, Int.not_le, ne_eq, Decidable.not_not, beq_iff_eq, List.cons.injEq, and_true] at hc); (first | (exfalso; omega) | conv => whnf))) | ((with_reducible refine And.intro True.intro ?_); conv => whnf) | ((with_reducible refine grd_and ?_); refine And.intro ((by unfold InR; decide)) ?_; conv => whnf) | ((with_reducible refine WpR.loopU 4 ?_); conv => whnf) | ((with_reducible refine And.intro ?hh ?_); (case hh => (unfold InR; (try dsimp only); omega)); conv => whnf) | ((with_reducible refine And.intro ?hh ?_); (case hh => ((try dsimp only); omega)); conv => whnf) | ((with_reducible refine And.intro ?hh ?_); (case hh => ((conv => whnf); (repeat' (first | exact True.intro | rfl | refine And.intro ?_ ?_)); done)); conv => whnf) | fail))
    (refine ⟨[], ?_, rfl, rfl, trivial, (by (repeat' (first | exact True.intro | rfl | refine And.intro ?_ ?_)))⟩; simp only [renV, renL]; (simp [renV, renL, mvN, qtN] <;> omega))
theorem mirrorsN_ok (h : H) (m : Nat) : CallOk Try.prog 102 [nV m] h (.bool (Nat.ble 4 m)) h := by
  have e : Nat.ble 4 m = decide ((4 : Int) ≤ (m : Int)) := by rw [Bool.eq_iff_iff, Nat.ble_eq]; simp; omega
  rw [e]; exact mirrors_ok h m

/-! ### Motions, one after another -/

def aftN (a b : Nat) : Nat :=
  match Nat.ble 4 a, Nat.ble 4 b with
  | false, false => (a + b) % 4
  | true, false => (a % 4 + b) % 4 + 4
  | false, true => (4 - a + b % 4) % 4 + 4
  | true, true => (4 - a % 4 + b % 4) % 4
def invN (m : Nat) : Nat := match Nat.ble 4 m with | true => m | false => (4 - m) % 4
def mirG : List V → Option V := n1G (fun m => Nat.blt m 8) fun m => .bool (Nat.ble 4 m)
def toG : List V → Option V := n4G (fun n m r c => Nat.ble n 8 && Nat.blt m 8 && Nat.blt r n && Nat.blt c n) fun n m r c => .tup [nV (mvN n m (r, c)).1, nV (mvN n m (r, c)).2]
def k0 : Memo := tab 102 mirG (tab 96 toG (Go.As.look []))
theorem k0_ok : MemoOk Try.prog k0 := by
  refine MemoOk.tab (MemoOk.tab (MemoOk.nil _) (fun a v h hh => ?_)) (fun a v h hh => ?_)
  · obtain ⟨n, m, r, c, rfl, hk, rfl⟩ := n4G_some h
    simp only [Bool.and_eq_true, Nat.ble_eq, Nat.blt_eq] at hk
    exact to_ok hh n m r c hk.1.1.1 hk.1.1.2 hk.1.2 hk.2
  · obtain ⟨m, rfl, hk, rfl⟩ := n1G_some h
    exact mirrorsN_ok hh m

set_option maxHeartbeats 2000000 in
theorem after_all : ((List.range 8).all fun a => (List.range 8).all fun b => chk (evM Try.prog k0 200 (.call 71 [nV a, nV b] H.empty)) (nV (aftN a b)) H.empty) = true := by kernel_rfl
theorem afterOf_all : ((List.range 8).all fun a => (List.range 8).all fun b => chk (evM Try.prog k0 200 (.call 72 [nV a, nV b] H.empty)) (nV (aftN a b)) H.empty) = true := by kernel_rfl
theorem inverse_all : ((List.range 8).all fun a => chk (evM Try.prog k0 200 (.call 73 [nV a] H.empty)) (nV (invN a)) H.empty) = true := by kernel_rfl

theorem after_ok (h : H) (a b : Nat) (ha : a < 8) (hb : b < 8) : CallOk Try.prog 71 [nV a, nV b] h (nV (aftN a b)) h :=
  CallOk.everyBare (.of_chk mixed k0_ok 200 (all_range (all_range after_all ha) hb)) rfl rfl h
theorem afterOf_ok (h : H) (a b : Nat) (ha : a < 8) (hb : b < 8) : CallOk Try.prog 72 [nV a, nV b] h (nV (aftN a b)) h :=
  CallOk.everyBare (.of_chk mixed k0_ok 200 (all_range (all_range afterOf_all ha) hb)) rfl rfl h
theorem inverse_ok (h : H) (a : Nat) (ha : a < 8) : CallOk Try.prog 73 [nV a] h (nV (invN a)) h :=
  CallOk.everyBare (.of_chk mixed k0_ok 200 (all_range inverse_all ha)) rfl rfl h
end Go.Proofs.P

namespace Go.Proofs.P
open Go.As
set_option maxRecDepth 20000
set_option linter.unusedVariables false
set_option linter.unusedSimpArgs false

theorem tdiv_nat (a b : Nat) : (a : Int).tdiv b = ((a / b : Nat) : Int) := rfl
theorem tmod_nat (a b : Nat) : (a : Int).tmod b = ((a % b : Nat) : Int) := rfl

theorem spotAt_ok (h : H) (i n : Nat) (hn : 1 ≤ n ∧ n ≤ 8) (hi : i < 64) : CallOk Try.prog 97 [nV i, nV n] h (spV (i / n, i % n)) h := by
  show CallOk Try.prog _ [.int .i64 i, .int .i64 n] h (.agg [.int .i64 (i / n : Nat), .int .i64 (i % n : Nat)]) h
  rw [← tdiv_nat, ← tmod_nat]
  have h1 : InR ((i : Int).tdiv n) := by
    rw [tdiv_nat]
    have := Nat.div_le_self i n
    generalize i / n = q at *
    unfold InR; omega
  have h2 : InR ((i : Int).tmod n) := by
    rw [tmod_nat]
    have := Nat.mod_le i n
    generalize i % n = q at *
    unfold InR; omega
  refine CallOk.run0 Try.func97 rfl rfl rfl rfl rfl (WpR.of_vc ?_)
  (conv => whnf); (repeat' (first | ((with_reducible refine ifb_mk (fun hc => ?_) (fun hc => ?_)) <;> ((try simp only [decide_eq_true_eq, decide_eq_false_iff_not, Bool.not_eq_true', Bool.not_eq_false', Int.not_lt, Int.not_le, ne_eq, Decidable.not_not, beq_iff_eq, List.cons.injEq, and_true] at hc); (first | (exfalso; omega) | conv => whnf))) | ((with_reducible refine And.intro True.intro ?_); conv => whnf) | ((with_reducible refine grd_and ?_); refine And.intro (h1) ?_; conv => whnf) | ((with_reducible refine grd_and ?_); refine And.intro (h2) ?_; conv => whnf) | ((with_reducible refine WpR.draw (id := 1) mixed [0, 1, 2, 3, 4, 5, 6, 7] [0, 0, 3, 0, 0, 24, 63, 127] ?hh ?_); (case hh => kernel_rfl); conv => whnf) | ((with_reducible refine And.intro ?hh ?_); (case hh => (unfold InR; (try dsimp only); omega)); conv => whnf) | ((with_reducible refine And.intro ?hh ?_); (case hh => ((try dsimp only); omega)); conv => whnf) | ((with_reducible refine And.intro ?hh ?_); (case hh => ((conv => whnf); (repeat' (first | exact True.intro | rfl | refine And.intro ?_ ?_)); done)); conv => whnf) | fail))
  (refine ⟨[], ?_, rfl, rfl, trivial, (by (repeat' (first | exact True.intro | rfl | refine And.intro ?_ ?_)))⟩; simp only [renV, renL]; (first | done | rfl | simp | grind))

theorem mul_lt {n r c : Nat} (hn : n ≤ 8) (hr : r < n) (hc : c < n) : r * n + c < n * n ∧ n * n ≤ 64 := by
  have h1 : (r + 1) * n ≤ n * n := Nat.mul_le_mul_right n hr
  have h2 : n * n ≤ 8 * 8 := Nat.mul_le_mul hn hn
  rw [Nat.add_mul] at h1
  omega
theorem index_ok (h : H) (r c n : Nat) (hn : n ≤ 8) (hr : r < n) (hc : c < n) : CallOk Try.prog 99 [spV (r, c), nV n] h (nV (r * n + c)) h := by
  show CallOk Try.prog _ [spV (r, c), .int .i64 n] h (.int .i64 (r * n + c : Nat)) h
  have ⟨h1, h2⟩ := mul_lt hn hr hc
  have e : ((r * n + c : Nat) : Int) = (r : Int) * n + c := by simp
  have e2 : ((r * n : Nat) : Int) = (r : Int) * n := by simp
  rw [e]
  have h3 : InR ((r : Int) * n) := by rw [← e2]; unfold InR; omega
  have h4 : InR ((r : Int) * n + c) := by rw [← e]; unfold InR; omega
  refine CallOk.run0 Try.func99 rfl rfl rfl rfl rfl (WpR.of_vc ?_)
  (conv => whnf); (repeat' (first | ((with_reducible refine ifb_mk (fun hc => ?_) (fun hc => ?_)) <;> ((try simp only [decide_eq_true_eq, decide_eq_false_iff_not, Bool.not_eq_true', Bool.not_eq_false', Int.not_lt, Int.not_le, ne_eq, Decidable.not_not, beq_iff_eq, List.cons.injEq, and_true] at hc); (first | (exfalso; omega) | conv => whnf))) | ((with_reducible refine And.intro True.intro ?_); conv => whnf) | ((with_reducible refine grd_and ?_); refine And.intro (h3) ?_; conv => whnf) | ((with_reducible refine grd_and ?_); refine And.intro (h4) ?_; conv => whnf) | ((with_reducible refine And.intro ?hh ?_); (case hh => (unfold InR; (try dsimp only); omega)); conv => whnf) | ((with_reducible refine And.intro ?hh ?_); (case hh => ((try dsimp only); omega)); conv => whnf) | ((with_reducible refine And.intro ?hh ?_); (case hh => ((conv => whnf); (repeat' (first | exact True.intro | rfl | refine And.intro ?_ ?_)); done)); conv => whnf) | fail))
  (refine ⟨[], ?_, rfl, rfl, trivial, (by (repeat' (first | exact True.intro | rfl | refine And.intro ?_ ?_)))⟩; simp only [renV, renL]; (first | done | rfl | simp | grind))

/-! ### Circles -/

def sgN (n m i : Nat) : Nat := let p := mvN n m (i / n, i % n); p.1 * n + p.2
def cirN (n m : Nat) : Nat := ((List.range (n * n)).filter fun i => Nat.ble i (sgN n m i) && Nat.ble i (sgN n m (sgN n m i)) && Nat.ble i (sgN n m (sgN n m (sgN n m i)))).length
def spAtG : List V → Option V := n2G (fun i n => Nat.blt i 64 && (Nat.ble 1 n && Nat.ble n 8)) fun i n => spV (i / n, i % n)
def spotG (ok : Nat → Nat → Nat → Nat → Bool) (f : Nat → Nat → Nat → Nat → V) : List V → Option V
  | [.agg [.int .i64 (.ofNat r), .int .i64 (.ofNat c)], .int .i64 (.ofNat n), .int .i64 (.ofNat m)] => (match ok r c n m with | true => some (f r c n m) | false => none)
  | _ => none
theorem spotG_some {ok : Nat → Nat → Nat → Nat → Bool} {f : Nat → Nat → Nat → Nat → V} {a : List V} {v : V} (h : spotG ok f a = some v) : ∃ r c n m, a = [spV (r, c), nV n, nV m] ∧ ok r c n m = true ∧ v = f r c n m := by
  unfold spotG at h
  split at h
  · split at h
    · rename_i hk; cases h; exact ⟨_, _, _, _, rfl, hk, rfl⟩
    · cases h
  · cases h
def indG (ok : Nat → Nat → Nat → Bool) (f : Nat → Nat → Nat → V) : List V → Option V
  | [.agg [.int .i64 (.ofNat r), .int .i64 (.ofNat c)], .int .i64 (.ofNat n)] => (match ok r c n with | true => some (f r c n) | false => none)
  | _ => none
theorem indG_some {ok : Nat → Nat → Nat → Bool} {f : Nat → Nat → Nat → V} {a : List V} {v : V} (h : indG ok f a = some v) : ∃ r c n, a = [spV (r, c), nV n] ∧ ok r c n = true ∧ v = f r c n := by
  unfold indG at h
  split at h
  · split at h
    · rename_i hk; cases h; exact ⟨_, _, _, rfl, hk, rfl⟩
    · cases h
  · cases h
def k1 : Memo := tab 97 spAtG (tab 98 (spotG (fun r c n m => Nat.ble n 8 && Nat.blt m 8 && Nat.blt r n && Nat.blt c n) fun r c n m => spV (mvN n m (r, c)))
  (tab 99 (indG (fun r c n => Nat.ble n 8 && Nat.blt r n && Nat.blt c n) fun r c n => nV (r * n + c)) k0))
theorem k1_ok : MemoOk Try.prog k1 := by
  refine MemoOk.tab (MemoOk.tab (MemoOk.tab k0_ok (fun a v h hh => ?_)) (fun a v h hh => ?_)) (fun a v h hh => ?_)
  · obtain ⟨r, c, n, rfl, hk, rfl⟩ := indG_some h
    simp only [Bool.and_eq_true, Nat.ble_eq, Nat.blt_eq] at hk
    exact index_ok hh r c n hk.1.1 hk.1.2 hk.2
  · obtain ⟨r, c, n, m, rfl, hk, rfl⟩ := spotG_some h
    simp only [Bool.and_eq_true, Nat.ble_eq, Nat.blt_eq] at hk
    exact spotMoved_ok hh n m r c hk.1.1.1 hk.1.1.2 hk.1.2 hk.2
  · obtain ⟨i, n, rfl, hk, rfl⟩ := n2G_some h
    simp only [Bool.and_eq_true, Nat.ble_eq, Nat.blt_eq] at hk
    exact spotAt_ok hh i n hk.2 hk.1

noncomputable def cirOk (n m : Nat) : Bool := chk (evM Try.prog k1 3000 (.call 31 [nV n, nV m] H.empty)) (.tup [nV (cirN n m), nV 0]) H.empty
noncomputable def cirROk (n m : Nat) : Bool := chk (evM Try.prog k1 3000 (.call 76 [nV n, nV m] H.empty)) (nV (cirN n m)) H.empty
theorem cir123 : ([1, 2, 3].all fun n => (List.range 8).all fun m => cirOk n m) = true := by kernel_rfl
theorem cirR123 : ([1, 2, 3].all fun n => (List.range 8).all fun m => cirROk n m) = true := by kernel_rfl
end Go.Proofs.P

namespace Go.Proofs.P
open Go.As
set_option maxRecDepth 20000
set_option linter.unusedVariables false
set_option linter.unusedSimpArgs false

/-! ### The table of a plate -/

def kp (n k : Nat) : Int × Int := (((k / n : Nat) : Int), ((k % n : Nat) : Int))
theorem kp_inj {n a b : Nat} (h : kp n a = kp n b) : a = b := by
  unfold kp at h
  simp only [Prod.mk.injEq] at h
  have h1 := Nat.div_add_mod a n
  have h2 := Nat.div_add_mod b n
  have e1 : a / n = b / n := by omega
  have e2 : a % n = b % n := by omega
  rw [e1, e2] at h1
  omega
def enP (n : Nat) (D : List Int) (k : Nat) : Value × V × Nat := (key2 (kp n k), .int .i64 (D.getD k 0), k)
def esP (n : Nat) (D : List Int) (L : List Nat) : List (Value × V × Nat) := L.map (enP n D)
theorem keysSpot : KeysOk Try.prog 115 key2 := keysOk_two (fs := _) rfl (by kernel_rfl) (by kernel_rfl) rfl
theorem esP_keys (n : Nat) (D : List Int) (L : List Nat) : (esP n D L).map (·.1) = (L.map (kp n)).map key2 := by unfold esP enP; simp [List.map_map]
theorem findP (em : Bool) (n : Nat) (D : List Int) (L : List Nat) (p : Int × Int) : findAt Try.prog em 115 (key2 p) (esP n D L) = some ((L.map (kp n)).findIdx? fun a => decide (p = a)) :=
  findAt_ok keysSpot em p (L.map (kp n)) (esP_keys n D L)
theorem ltB_esP {m n clock : Nat} {D : List Int} {L : List Nat} : ltB m (.map (esP n D L) clock) := by
  intro e he
  obtain ⟨x, _, rfl⟩ := List.mem_map.1 he
  rfl
theorem find_no {n : Nat} {D : List Int} {L : List Nat} {k : Nat} (em : Bool) (h : k ∉ L) : findAt Try.prog em 115 (key2 (kp n k)) (esP n D L) = some none := by
  rw [findP, List.findIdx?_eq_none_iff.2]
  intro x hx
  obtain ⟨a, ha, rfl⟩ := List.mem_map.1 hx
  exact decide_eq_false fun hc => h (kp_inj hc ▸ ha)
theorem esP_snoc (n : Nat) (D : List Int) (i : Nat) : esP n D (List.range (i + 1)) = esP n D (List.range i) ++ [enP n D i] := by
  unfold esP; rw [List.range_succ, List.map_append]; rfl
theorem find_idx {n : Nat} {k : Nat} : ∀ {L : List Nat}, k ∈ L → ∃ j, (L.map (kp n)).findIdx? (fun a => decide (kp n k = a)) = some j ∧ L[j]? = some k
  | a :: L, h => by
    rw [List.map_cons, List.findIdx?_cons]
    by_cases ha : kp n k = kp n a
    · exact ⟨0, by rw [decide_eq_true ha]; rfl, by rw [kp_inj ha]; rfl⟩
    · rcases List.mem_cons.1 h with rfl | h
      · exact absurd rfl ha
      · obtain ⟨j, h1, h2⟩ := find_idx (n := n) h
        exact ⟨j + 1, by rw [decide_eq_false ha, h1]; rfl, by simpa using h2⟩
theorem esP_at {n : Nat} {D : List Int} {L : List Nat} {j k : Nat} (h : L[j]? = some k) : (esP n D L)[j]? = some (enP n D k) := by unfold esP; rw [List.getElem?_map, h]; rfl
theorem find_yes {n : Nat} {D : List Int} {L : List Nat} {k : Nat} (h : k ∈ L) : ∃ j, (∀ em, findAt Try.prog em 115 (key2 (kp n k)) (esP n D L) = some (some j)) ∧ (esP n D L)[j]? = some (enP n D k) := by
  obtain ⟨j, h1, h2⟩ := find_idx (n := n) h
  exact ⟨j, fun em => by rw [findP, h1], esP_at h2⟩
theorem del_at {n : Nat} {D : List Int} : ∀ {L : List Nat} {k : Nat}, L.Nodup → k ∈ L → ∃ j, (L.map (kp n)).findIdx? (fun a => decide (kp n k = a)) = some j ∧ (esP n D L).eraseIdx j = esP n D (L.filter fun a => decide (a ≠ k))
  | a :: L, k, hn, hq => by
    rw [List.nodup_cons] at hn
    rw [List.map_cons, List.findIdx?_cons]
    by_cases ha : kp n k = kp n a
    · have hk := kp_inj ha
      subst hk
      refine ⟨0, by simp, ?_⟩
      show esP n D L = _
      rw [List.filter_cons_of_neg (by simp)]
      congr 1
      rw [List.filter_eq_self.2]
      intro b hb
      exact decide_eq_true fun hc => hn.1 (hc ▸ hb)
    · rcases List.mem_cons.1 hq with rfl | hq
      · exact absurd rfl ha
      · obtain ⟨j, h1, h2⟩ := del_at (n := n) (D := D) hn.2 hq
        refine ⟨j + 1, by rw [decide_eq_false ha, h1]; rfl, ?_⟩
        show enP n D a :: (esP n D L).eraseIdx j = _
        have hna : a ≠ k := fun hc => ha (by rw [hc])
        rw [List.filter_cons_of_pos (by simpa using hna), h2]
        rfl

/-! What goes through it. -/

def cur (N : Nat) (bad : Nat → Bool) (seen : List Nat) : List Nat := (List.range N).filter fun k => !(seen.contains k && bad k)
def msr (L : List Nat) (seen : List Nat) : Nat := (L.filter fun k => !seen.contains k).length
theorem left_mem {n : Nat} {D : List Int} {L : List Nat} {seen : List Nat} {e : Value × V × Nat} (h : e ∈ leftL (esP n D L) seen) : ∃ k ∈ L, e = enP n D k ∧ k ∉ seen := by
  unfold leftL esP at h
  obtain ⟨h1, h2⟩ := List.mem_filter.1 h
  obtain ⟨q, hq, rfl⟩ := List.mem_map.1 h1
  exact ⟨q, hq, rfl, by simpa [enP] using h2⟩
theorem left_all {n : Nat} {D : List Int} {L : List Nat} {seen : List Nat} (h : leftL (esP n D L) seen = []) : ∀ k ∈ L, k ∈ seen := by
  intro k hk
  by_cases hs : k ∈ seen
  · exact hs
  · exfalso
    have h2 : enP n D k ∈ leftL (esP n D L) seen := List.mem_filter.2 ⟨List.mem_map.2 ⟨k, hk, rfl⟩, by show (!seen.contains k) = true; simpa using hs⟩
    rw [h] at h2
    cases h2
theorem cur_end {n N : Nat} {D : List Int} {bad : Nat → Bool} {seen : List Nat} (h : leftL (esP n D (cur N bad seen)) seen = []) : cur N bad seen = (List.range N).filter fun k => !bad k := by
  have ha := left_all h
  unfold cur
  refine List.filter_congr fun k hk => ?_
  cases hb : bad k with
  | false => simp
  | true =>
    rw [Bool.and_true]
    cases hs : seen.contains k with
    | true => rfl
    | false =>
      exfalso
      have hm : k ∈ cur N bad seen := List.mem_filter.2 ⟨hk, by rw [hs]; rfl⟩
      have := ha k hm
      simp at hs
      exact hs this
theorem find_stamp {n : Nat} {D : List Int} : ∀ {L : List Nat} {k : Nat}, k ∈ L → (esP n D L).find? (fun e => Nat.beq e.2.2 k) = some (enP n D k)
  | a :: L, k, hq => by
    show List.find? _ (enP n D a :: esP n D L) = _
    rw [List.find?_cons]
    by_cases h : a = k
    · subst h
      have : Nat.beq (enP n D a).2.2 a = true := Nat.beq_refl _
      rw [this]
    · have hb : Nat.beq (enP n D a).2.2 k = false := by rw [Bool.eq_false_iff]; intro hc; exact h (Nat.eq_of_beq_eq_true hc)
      rw [hb]
      rcases List.mem_cons.1 hq with rfl | hq
      · exact absurd rfl h
      · exact find_stamp hq
theorem step_bad {N : Nat} {bad : Nat → Bool} {seen : List Nat} {q : Nat} (hb : bad q = true) : (cur N bad seen).filter (fun a => decide (a ≠ q)) = cur N bad (seen ++ [q]) := by
  unfold cur
  rw [List.filter_filter]
  refine List.filter_congr fun a ha => ?_
  by_cases h : a = q
  · subst h; simp [hb]
  · rw [decide_eq_true h, Bool.true_and]
    congr 2
    simp [h]
theorem step_ok {N : Nat} {bad : Nat → Bool} {seen : List Nat} {q : Nat} (hb : bad q = false) : cur N bad seen = cur N bad (seen ++ [q]) := by
  unfold cur
  refine List.filter_congr fun a ha => ?_
  by_cases h : a = q
  · subst h; simp [hb]
  · congr 2
    simp [h]
theorem filter_lt {α : Type} {p p' : α → Bool} (hpp : ∀ a, p' a = true → p a = true) : ∀ {l : List α} {x : α}, x ∈ l → p x = true → p' x = false → (l.filter p').length < (l.filter p).length
  | a :: l, x, hx, h1, h2 => by
    have hle : ∀ l : List α, (l.filter p').length ≤ (l.filter p).length := fun l => by
      induction l with
      | nil => exact Nat.le_refl _
      | cons b l ih =>
        by_cases hb : p' b = true
        · rw [List.filter_cons_of_pos hb, List.filter_cons_of_pos (hpp b hb)]; simp; exact ih
        · rw [List.filter_cons_of_neg hb]
          by_cases hc : p b = true
          · rw [List.filter_cons_of_pos hc]; simp; omega
          · rw [List.filter_cons_of_neg hc]; exact ih
    rcases List.mem_cons.1 hx with rfl | hx
    · rw [List.filter_cons_of_pos h1, List.filter_cons_of_neg (by rw [h2]; decide)]
      have := hle l
      simp; omega
    · have ih := filter_lt hpp hx h1 h2
      by_cases hb : p' a = true
      · rw [List.filter_cons_of_pos hb, List.filter_cons_of_pos (hpp a hb)]; simp; exact ih
      · rw [List.filter_cons_of_neg hb]
        by_cases hc : p a = true
        · rw [List.filter_cons_of_pos hc]; simp; omega
        · rw [List.filter_cons_of_neg hc]; exact ih
theorem msr_lt {L : List Nat} {seen : List Nat} {q : Nat} (hq : q ∈ L) (hs : q ∉ seen) : msr L (seen ++ [q]) < msr L seen :=
  filter_lt (fun a ha => by
    simp only [Bool.not_eq_true', List.contains_eq_mem, List.mem_append, decide_eq_false_iff_not, not_or] at ha ⊢
    exact ha.1) hq (by simpa using hs) (by simp)
theorem last_snoc {α : Type} (l : List α) (x : α) : (l ++ [x]).getLast? = some x := by simp
end Go.Proofs.P

namespace Go.Proofs.P
open Go.As
set_option maxRecDepth 20000
set_option linter.unusedVariables false
set_option linter.unusedSimpArgs false

theorem last_snoc' {α : Type} (l : List α) (x : α) : (l ++ [x]).getLast? = some x := by simp
def zr (D : List Int) (k : Nat) : Bool := D.getD k 0 == 0
/-- The places that are not empty. -/
def nzL (D : List Int) : List Nat := (List.range D.length).filter fun k => !zr D k
def tabV (n : Int) (dv : V) (j : Nat) : V := .agg [.int .i64 n, dv, .map j]
theorem getD_at {D : List Int} {i : Nat} {x : Int} (h : D[i]? = some x) : D.getD i 0 = x := by rw [List.getD_eq_getElem?_getD, h]; rfl
theorem spV_key (n k : Nat) : spV (k / n, k % n) = .agg [.int .i64 (kp n k).1, .int .i64 (kp n k).2] := rfl
theorem same_key (p : Int × Int) : Instr.sameBits 10000 (key2 p) (key2 p) = true := by
  simp [Instr.sameBits, key2, intsV]
theorem ltB_map0 {n c : Nat} : ltB n (.map [] c) := fun e he => by cases he

set_option maxHeartbeats 2000000 in
theorem tableFor_ok (h : H) (n : Nat) (hn : 1 ≤ n ∧ n ≤ 8) (D : List Int) (hD : D.length = n * n) (hw : wi 0 3 D = true) (b o cap : Nat) (ex : Bool) (hs : SlC h (iVs D) D.length (.sl b o D.length cap ex)) :
    CallOk Try.prog 61 [plateV n (.sl b o D.length cap ex)] h (.tup [tabV n (.sl b o D.length cap ex) h.n, .int .i64 0]) (addBs h [.map (esP n D (nzL D)) D.length]) := by
  obtain ⟨vo, svC, hsv, hca, hvw⟩ := hs.view 0
  have hN : 1 ≤ D.length ∧ D.length ≤ 64 := by
    rw [hD]
    have h1 : 1 * 1 ≤ n * n := Nat.mul_le_mul hn.1 hn.1
    have h2 : n * n ≤ 8 * 8 := Nat.mul_le_mul hn.2 hn.2
    omega
  obtain ⟨cap', ex', rfl⟩ : ∃ cap ex, svC = .sl 0 0 D.length cap ex := by
    cases hsv with
    | nil h0 => omega
    | sl => exact ⟨_, _, rfl⟩
  have hB := @iVs_bare D
  have hck : ckP (n : Int) D = 0 := by unfold ckP; rw [if_pos (by omega), if_pos (by rw [hD]; simp), if_pos hw]
  have kC := fun h' dv hs' => checkPlate_ok h' n D dv (by omega) hs'
  rw [hck] at kC
  refine CallOk.runN Try.func61 rfl rfl (argsC := [plateV n (.sl 0 0 D.length cap' ex')]) (fun N => .tup [tabV n (.sl 0 0 D.length cap' ex') N, .int .i64 0]) (fun _ => [.map (esP n D (nzL D)) D.length]) (Nat.le_of_ble_eq_true rfl) [vo] (.cons (CaL.agg (.cons (.bare rfl) (.cons (hca _ rfl) .nil))) .nil) (viewMc1 hB hvw)
    (ShV.tup (.cons (ShV.agg (.cons (.bare rfl) (.cons (.old (hca _ rfl) rfl) (.cons (.map (i := 0) (Nat.le_of_ble_eq_true rfl) rfl rfl) .nil)))) (.cons (.bare rfl) .nil))) rfl
    (fun i b hi => by
      match i with
      | 0 => simp at hi; subst hi; exact ⟨_, rfl, rfl, .map (fun e he => by obtain ⟨x, _, rfl⟩ := List.mem_map.1 he; rfl)⟩
      | i + 1 => simp at hi)
    (WpR.of_vc ?_)
  (conv => whnf); (repeat' (first | ((with_reducible refine ifb_mk (fun hc => ?_) (fun hc => ?_)) <;> ((try simp only [decide_eq_true_eq, decide_eq_false_iff_not, Bool.not_eq_true', Bool.not_eq_false', Int.not_lt, Int.not_le, ne_eq, Decidable.not_not, beq_iff_eq, List.cons.injEq, and_true] at hc); (first | (exfalso; omega) | conv => whnf))) | ((with_reducible refine And.intro True.intro ?_); conv => whnf) | ((with_reducible refine CallX.all ?_); refine CallW.of_ok (kC _ _ (SlC.own rfl)) ?_; conv => whnf) | ((with_reducible refine And.intro ?hh ?_); (case hh => (unfold InR; (try dsimp only); omega)); conv => whnf) | ((with_reducible refine And.intro ?hh ?_); (case hh => ((try dsimp only); omega)); conv => whnf) | ((with_reducible refine And.intro ?hh ?_); (case hh => ((conv => whnf); (repeat' (first | exact True.intro | rfl | refine And.intro ?_ ?_)); done)); conv => whnf) | fail))
  have hMap : ∀ i : Nat, ltB 5 (.map (esP n D (List.range i)) i) := fun i => ltB_esP
  refine WpR.loopD (ι := Nat) [] [1, 2, 5, 20, 21] [3] [] 5 (fun p => [(22, .int .i64 p)]) (fun p => [(3, .map (esP n D (List.range p)) p)]) (fun p => D.length - p) (fun p => p ≤ D.length) ?_ (0) (Nat.zero_le _) [] ⟨rfl, rfl, (by (repeat' (first | exact True.intro | rfl | refine And.intro ?_ ?_))), (by (repeat' (first | exact True.intro | rfl | refine And.intro ?_ ?_))), (by (repeat' (first | exact True.intro | rfl | refine And.intro ?_ ?_))), (by (repeat' (first | exact True.intro | exact Or.inl rfl | refine And.intro ?_ ?_ | refine Or.inr ⟨_, rfl, ?_⟩ | exact SubQ.same (n := 1000) (Y := []) (fun _ _ _ => rfl) (by first | exact True.intro | exact ltB_all rfl | exact ltB_ofLb (by first | exact bare0_ints | assumption | exact bVs_bare | exact iVs_bare | exact mVs_bare | (intro v hv; (repeat (rcases List.mem_cons.1 hv with rfl | hv; exact rfl)); cases hv)) | exact ltB_loop rfl rfl | exact hMap _ | exact hMap2 _ | exact grB_lt (by first | exact bare0_ints | assumption | exact bVs_bare | exact iVs_bare | exact mVs_bare | (intro v hv; (repeat (rcases List.mem_cons.1 hv with rfl | hv; exact rfl)); cases hv)) _ | exact ltB_encL | exact ltB_map0 | assumption) (avB_nil _) rfl | exact SubQ.ofL (by first | rfl | simp) (by first | exact bare0_ints | assumption | exact bVs_bare | exact iVs_bare | exact mVs_bare | (intro v hv; (repeat (rcases List.mem_cons.1 hv with rfl | hv; exact rfl)); cases hv)) (by first | exact Or.inl rfl | exact Or.inr rfl) | exact SubQ.fin (by (conv => whnf); (repeat' (first | exact True.intro | rfl | refine And.intro ?_ ?_)); done) (fun h => h) (by first | exact Or.inl rfl | exact Or.inr rfl)))), rfl, rfl⟩ rfl rfl rfl (fun _ => rfl) (by (repeat' (first | exact True.intro | refine And.intro ?_ ?_ | exact avV_nil _ | rfl))) (by (repeat' (first | exact True.intro | (with_reducible exact avB_nil _) | ((with_reducible refine avB_all ?_); rfl) | ((with_reducible refine avB_ofLb ?_); exact (by first | exact bare0_ints | assumption | exact bVs_bare | exact iVs_bare | exact mVs_bare | (intro v hv; (repeat (rcases List.mem_cons.1 hv with rfl | hv; exact rfl)); cases hv))) | ((with_reducible refine ltB_all ?_); rfl) | ((with_reducible refine ltB_ofLb ?_); exact (by first | exact bare0_ints | assumption | exact bVs_bare | exact iVs_bare | exact mVs_bare | (intro v hv; (repeat (rcases List.mem_cons.1 hv with rfl | hv; exact rfl)); cases hv))) | ((with_reducible refine ltB_loop ?_ ?_) <;> rfl) | (with_reducible exact hMap _) | (with_reducible exact hMap2 _) | (with_reducible exact ltB_encL) | (with_reducible exact ltB_map0) | ((with_reducible refine grB_lt ?_ _); exact (by first | exact bare0_ints | assumption | exact bVs_bare | exact iVs_bare | exact mVs_bare | (intro v hv; (repeat (rcases List.mem_cons.1 hv with rfl | hv; exact rfl)); cases hv))) | (with_reducible assumption) | refine And.intro ?_ ?_ | exact (by first | exact True.intro | exact ltB_all rfl | exact ltB_ofLb (by first | exact bare0_ints | assumption | exact bVs_bare | exact iVs_bare | exact mVs_bare | (intro v hv; (repeat (rcases List.mem_cons.1 hv with rfl | hv; exact rfl)); cases hv)) | exact ltB_loop rfl rfl | exact hMap _ | exact hMap2 _ | exact grB_lt (by first | exact bare0_ints | assumption | exact bVs_bare | exact iVs_bare | exact mVs_bare | (intro v hv; (repeat (rcases List.mem_cons.1 hv with rfl | hv; exact rfl)); cases hv)) _ | exact ltB_encL | exact ltB_map0 | assumption)))) (fun _ _ => (by (repeat' (first | exact True.intro | rfl | refine And.intro ?_ ?_ | exact (by decide) | exact (by first | exact True.intro | exact hMap _ | exact hMap2 _ | exact grB_lt (by first | exact bare0_ints | assumption | exact bVs_bare | exact iVs_bare | exact mVs_bare | (intro v hv; (repeat (rcases List.mem_cons.1 hv with rfl | hv; exact rfl)); cases hv)) _ | exact ltB_all rfl | exact ltB_ofLb (by first | exact bare0_ints | assumption | exact bVs_bare | exact iVs_bare | exact mVs_bare | (intro v hv; (repeat (rcases List.mem_cons.1 hv with rfl | hv; exact rfl)); cases hv)) | exact ltB_loop rfl rfl | exact ltB_encL | exact ltB_map0 | assumption))))) (fun _ _ => (by (repeat' (first | exact True.intro | rfl | refine And.intro ?_ ?_ | exact (by decide) | exact (by first | exact True.intro | exact hMap _ | exact hMap2 _ | exact grB_lt (by first | exact bare0_ints | assumption | exact bVs_bare | exact iVs_bare | exact mVs_bare | (intro v hv; (repeat (rcases List.mem_cons.1 hv with rfl | hv; exact rfl)); cases hv)) _ | exact ltB_all rfl | exact ltB_ofLb (by first | exact bare0_ints | assumption | exact bVs_bare | exact iVs_bare | exact mVs_bare | (intro v hv; (repeat (rcases List.mem_cons.1 hv with rfl | hv; exact rfl)); cases hv)) | exact ltB_loop rfl rfl | exact ltB_encL | exact ltB_map0 | assumption))))) (fun _ _ => (by (repeat' (first | exact True.intro | rfl | refine And.intro ?_ ?_)))) rfl
  rintro i j1
  refine WpR.of_vc ?_
  cases hx : D[i]? with
  | some e =>
    have hlt := (List.getElem?_eq_some_iff.1 hx).1
    have kS := fun h' => spotAt_ok h' i n hn (by omega)
    rw [spV_key] at kS
    have hnot : i ∉ List.range i := by simp
    (conv => whnf); (repeat' (first | ((with_reducible refine ifb_mk (fun hc => ?_) (fun hc => ?_)) <;> ((try simp only [decide_eq_true_eq, decide_eq_false_iff_not, Bool.not_eq_true', Bool.not_eq_false', Int.not_lt, Int.not_le, ne_eq, Decidable.not_not, beq_iff_eq, List.cons.injEq, and_true] at hc); (first | (exfalso; omega) | conv => whnf))) | ((with_reducible refine And.intro True.intro ?_); conv => whnf) | ((with_reducible refine grd_get ?_); refine som_mk (a := ?_) ?hh ?_; (case hh => exact iGet hx); conv => whnf) | ((with_reducible refine WpR.drawTail (id := 8) mixed 7 [0, 1, 2, 3, 4, 6, 5] [0, 1, 0, 0, 8, 28, 0] ?hh ?hk ?_); (case hh => kernel_rfl); (case hk => kernel_rfl); conv => whnf) | ((with_reducible refine grd_ex ?_); refine ex_ok (kS _) ?_; conv => whnf) | (refine som_mk (find_no false hnot) ?_; conv => whnf) | ((with_reducible refine And.intro ?hh ?_); (case hh => (unfold InR; (try dsimp only); omega)); conv => whnf) | ((with_reducible refine And.intro ?hh ?_); (case hh => ((try dsimp only); omega)); conv => whnf) | ((with_reducible refine And.intro ?hh ?_); (case hh => ((conv => whnf); (repeat' (first | exact True.intro | rfl | refine And.intro ?_ ?_)); done)); conv => whnf) | fail))
    have hsb : SubQ (rho []) (.map (esP n D (List.range (i + 1))) (i + 1)) (.map (esP n D (List.range i) ++ [(key2 (kp n i), .int .i64 e, i)]) (i + 1)) := by
      rw [esP_snoc]
      unfold enP
      rw [getD_at hx]
      exact SubQ.same (n := 1000) (Y := []) (fun _ _ _ => rfl) (by
        intro e he
        rcases List.mem_append.1 he with he | he
        · obtain ⟨x, _, rfl⟩ := List.mem_map.1 he; rfl
        · simp at he; subst he; rfl) (avB_nil _) rfl
    exact ⟨i + 1, [], by omega, by omega, ⟨rfl, rfl, (by (repeat' (first | exact True.intro | rfl | refine And.intro ?_ ?_))), (by (repeat' (first | exact True.intro | rfl | refine And.intro ?_ ?_))), (by (repeat' (first | exact True.intro | rfl | refine And.intro ?_ ?_))), ⟨.inr ⟨_, rfl, hsb⟩, trivial⟩, rfl, rfl⟩⟩
  | none =>
    have hlen : D.length ≤ i := by simpa using hx
    have hi : i = D.length := by omega
    subst hi
    (conv => whnf); (repeat' (first | ((with_reducible refine ifb_mk (fun hc => ?_) (fun hc => ?_)) <;> ((try simp only [decide_eq_true_eq, decide_eq_false_iff_not, Bool.not_eq_true', Bool.not_eq_false', Int.not_lt, Int.not_le, ne_eq, Decidable.not_not, beq_iff_eq, List.cons.injEq, and_true] at hc); (first | (exfalso; omega) | conv => whnf))) | ((with_reducible refine And.intro True.intro ?_); conv => whnf) | ((with_reducible refine And.intro ?hh ?_); (case hh => (unfold InR; (try dsimp only); omega)); conv => whnf) | ((with_reducible refine And.intro ?hh ?_); (case hh => ((try dsimp only); omega)); conv => whnf) | ((with_reducible refine And.intro ?hh ?_); (case hh => ((conv => whnf); (repeat' (first | exact True.intro | rfl | refine And.intro ?_ ?_)); done)); conv => whnf) | fail))
    have e0 : cur D.length (zr D) [] = List.range D.length := by unfold cur; rw [List.filter_eq_self.2]; intro a _; simp
    have hs0 : SubQ (rho []) (.map (esP n D (cur D.length (zr D) [])) D.length) (.map (esP n D (List.range D.length)) D.length) := by rw [e0]; exact SubQ.same (n := 1000) (Y := []) (fun _ _ _ => rfl) ltB_esP (avB_nil _) rfl
    have hs1 : SubQ (rho []) (.iter 3 D.length [] D.length) (.iter 3 D.length [] D.length) := .iter
    have hMap3 : ∀ seen : List Nat, ltB 6 (.map (esP n D (cur D.length (zr D) seen)) D.length) := fun seen => ltB_esP
    have hMap2 : ∀ seen : List Nat, ltB 6 (.iter 3 D.length seen D.length) := fun seen => by show 3 < 6; decide
    clear hMap
    have hMap := hMap3
    refine WpR.loopD (ι := List Nat) [] [2, 5] [3, 5] [] 6 (fun _ => [(37, .ptr 5 0)]) (fun seen => [(3, .map (esP n D (cur D.length (zr D) seen)) D.length), (5, .iter 3 D.length seen D.length)]) (fun seen => msr (List.range D.length) seen) (fun _ => True) ?_ ([]) (trivial) [] ⟨rfl, rfl, (by (repeat' (first | exact True.intro | rfl | refine And.intro ?_ ?_))), (by (repeat' (first | exact True.intro | rfl | refine And.intro ?_ ?_))), (by (repeat' (first | exact True.intro | rfl | refine And.intro ?_ ?_))), ⟨.inr ⟨_, rfl, hs0⟩, ⟨.inr ⟨_, rfl, hs1⟩, trivial⟩⟩, rfl, rfl⟩ rfl rfl rfl (fun _ => rfl) (by (repeat' (first | exact True.intro | refine And.intro ?_ ?_ | exact avV_nil _ | rfl))) (by (repeat' (first | exact True.intro | (with_reducible exact avB_nil _) | ((with_reducible refine avB_all ?_); rfl) | ((with_reducible refine avB_ofLb ?_); exact (by first | exact bare0_ints | assumption | exact bVs_bare | exact iVs_bare | exact mVs_bare | (intro v hv; (repeat (rcases List.mem_cons.1 hv with rfl | hv; exact rfl)); cases hv))) | ((with_reducible refine ltB_all ?_); rfl) | ((with_reducible refine ltB_ofLb ?_); exact (by first | exact bare0_ints | assumption | exact bVs_bare | exact iVs_bare | exact mVs_bare | (intro v hv; (repeat (rcases List.mem_cons.1 hv with rfl | hv; exact rfl)); cases hv))) | ((with_reducible refine ltB_loop ?_ ?_) <;> rfl) | (with_reducible exact hMap _) | (with_reducible exact hMap2 _) | (with_reducible exact ltB_encL) | (with_reducible exact ltB_map0) | ((with_reducible refine grB_lt ?_ _); exact (by first | exact bare0_ints | assumption | exact bVs_bare | exact iVs_bare | exact mVs_bare | (intro v hv; (repeat (rcases List.mem_cons.1 hv with rfl | hv; exact rfl)); cases hv))) | (with_reducible assumption) | refine And.intro ?_ ?_ | exact (by first | exact True.intro | exact ltB_all rfl | exact ltB_ofLb (by first | exact bare0_ints | assumption | exact bVs_bare | exact iVs_bare | exact mVs_bare | (intro v hv; (repeat (rcases List.mem_cons.1 hv with rfl | hv; exact rfl)); cases hv)) | exact ltB_loop rfl rfl | exact hMap _ | exact hMap2 _ | exact grB_lt (by first | exact bare0_ints | assumption | exact bVs_bare | exact iVs_bare | exact mVs_bare | (intro v hv; (repeat (rcases List.mem_cons.1 hv with rfl | hv; exact rfl)); cases hv)) _ | exact ltB_encL | exact ltB_map0 | assumption)))) (fun _ _ => (by (repeat' (first | exact True.intro | rfl | refine And.intro ?_ ?_ | exact (by decide) | exact (by first | exact True.intro | exact hMap _ | exact hMap2 _ | exact grB_lt (by first | exact bare0_ints | assumption | exact bVs_bare | exact iVs_bare | exact mVs_bare | (intro v hv; (repeat (rcases List.mem_cons.1 hv with rfl | hv; exact rfl)); cases hv)) _ | exact ltB_all rfl | exact ltB_ofLb (by first | exact bare0_ints | assumption | exact bVs_bare | exact iVs_bare | exact mVs_bare | (intro v hv; (repeat (rcases List.mem_cons.1 hv with rfl | hv; exact rfl)); cases hv)) | exact ltB_loop rfl rfl | exact ltB_encL | exact ltB_map0 | assumption))))) (fun _ _ => (by (repeat' (first | exact True.intro | rfl | refine And.intro ?_ ?_ | exact (by decide) | exact (by first | exact True.intro | exact hMap _ | exact hMap2 _ | exact grB_lt (by first | exact bare0_ints | assumption | exact bVs_bare | exact iVs_bare | exact mVs_bare | (intro v hv; (repeat (rcases List.mem_cons.1 hv with rfl | hv; exact rfl)); cases hv)) _ | exact ltB_all rfl | exact ltB_ofLb (by first | exact bare0_ints | assumption | exact bVs_bare | exact iVs_bare | exact mVs_bare | (intro v hv; (repeat (rcases List.mem_cons.1 hv with rfl | hv; exact rfl)); cases hv)) | exact ltB_loop rfl rfl | exact ltB_encL | exact ltB_map0 | assumption))))) (fun _ _ => (by (repeat' (first | exact True.intro | rfl | refine And.intro ?_ ?_)))) rfl
    intro seen _
    refine WpR.of_vc ?_
    have hsz : ∀ e ∈ esP n D (cur D.length (zr D) seen), e.2.2 < D.length := fun e he => by
      obtain ⟨q, hq, rfl⟩ := List.mem_map.1 he
      exact List.mem_range.1 (List.mem_filter.1 hq).1
    conv => whnf
    refine ⟨hsz, Nat.le_refl _, fun hl => ?_, fun e he => ?_⟩
    · (conv => whnf); (repeat' (first | ((with_reducible refine ifb_mk (fun hc => ?_) (fun hc => ?_)) <;> ((try simp only [decide_eq_true_eq, decide_eq_false_iff_not, Bool.not_eq_true', Bool.not_eq_false', Int.not_lt, Int.not_le, ne_eq, Decidable.not_not, beq_iff_eq, List.cons.injEq, and_true] at hc); (first | (exfalso; omega) | conv => whnf))) | ((with_reducible refine And.intro True.intro ?_); conv => whnf) | ((with_reducible refine And.intro ?hh ?_); (case hh => (unfold InR; (try dsimp only); omega)); conv => whnf) | ((with_reducible refine And.intro ?hh ?_); (case hh => ((try dsimp only); omega)); conv => whnf) | ((with_reducible refine And.intro ?hh ?_); (case hh => ((conv => whnf); (repeat' (first | exact True.intro | rfl | refine And.intro ?_ ?_)); done)); conv => whnf) | fail))
      rw [cur_end hl]
      exact ⟨[3], rfl, rfl, rfl, ⟨⟨_, rfl, rfl, SubQ.same (n := 0) (Y := []) (fun i hi _ => absurd hi (Nat.not_lt_zero _)) ltB_esP (avB_nil _) rfl⟩, ltB_esP, rfl, trivial⟩, (by (repeat' (first | exact True.intro | rfl | refine And.intro ?_ ?_)))⟩
    · obtain ⟨q, hq, rfl, hsn⟩ := left_mem he
      have hqr := (List.mem_filter.1 hq).1
      have hnd : (cur D.length (zr D) seen).Nodup := List.Nodup.sublist (List.filter_sublist (l := List.range D.length)) List.nodup_range
      obtain ⟨j, d1, d2⟩ := del_at (n := n) (D := D) hnd hq
      have d3 : ∀ em, findAt Try.prog em 115 (key2 (kp n q)) (esP n D (cur D.length (zr D) seen)) = some (some j) := fun em => by rw [findP]; exact congrArg some d1
      have hm := msr_lt hqr hsn
      (conv => whnf); (repeat' (first | ((with_reducible refine ifb_mk (fun hc => ?_) (fun hc => ?_)) <;> ((try simp only [decide_eq_true_eq, decide_eq_false_iff_not, Bool.not_eq_true', Bool.not_eq_false', Int.not_lt, Int.not_le, ne_eq, Decidable.not_not, beq_iff_eq, List.cons.injEq, and_true] at hc); (first | (exfalso; omega) | conv => whnf))) | ((with_reducible refine And.intro True.intro ?_); conv => whnf) | (refine som_mk (last_snoc _ _) ?_; conv => whnf) | ((with_reducible refine grd_and ?_); refine And.intro (rfl) ?_; conv => whnf) | (refine som_mk (find_stamp hq) ?_; conv => whnf) | (refine som_mk (d3 _) ?_; conv => whnf) | ((with_reducible refine And.intro ?hh ?_); (case hh => (unfold InR; (try dsimp only); omega)); conv => whnf) | ((with_reducible refine And.intro ?hh ?_); (case hh => ((try dsimp only); omega)); conv => whnf) | ((with_reducible refine And.intro ?hh ?_); (case hh => ((conv => whnf); (repeat' (first | exact True.intro | rfl | refine And.intro ?_ ?_)); done)); conv => whnf) | fail))
      · have hz : zr D q = true := by unfold zr; rw [beq_iff_eq]; exact hc
        have sb : SubQ (rho []) (.map (esP n D (cur D.length (zr D) (seen ++ [q]))) D.length) (.map ((esP n D (cur D.length (zr D) seen)).eraseIdx j) D.length) := by
          rw [d2.trans (congrArg (esP n D) (step_bad hz))]
          exact SubQ.same (n := 1000) (Y := []) (fun _ _ _ => rfl) ltB_esP (avB_nil _) rfl
        exact ⟨seen ++ [q], [], hm, trivial, ⟨rfl, rfl, (by (repeat' (first | exact True.intro | rfl | refine And.intro ?_ ?_))), (by (repeat' (first | exact True.intro | rfl | refine And.intro ?_ ?_))), (by (repeat' (first | exact True.intro | rfl | refine And.intro ?_ ?_))), ⟨.inr ⟨_, rfl, sb⟩, ⟨.inr ⟨_, rfl, .iter⟩, trivial⟩⟩, rfl, rfl⟩⟩
      · have hz : zr D q = false := by unfold zr; rw [beq_eq_false_iff_ne]; exact hc
        have sb : SubQ (rho []) (.map (esP n D (cur D.length (zr D) (seen ++ [q]))) D.length) (.map (esP n D (cur D.length (zr D) seen)) D.length) := by
          rw [← step_ok hz]
          exact SubQ.same (n := 1000) (Y := []) (fun _ _ _ => rfl) ltB_esP (avB_nil _) rfl
        exact ⟨seen ++ [q], [], hm, trivial, ⟨rfl, rfl, (by (repeat' (first | exact True.intro | rfl | refine And.intro ?_ ?_))), (by (repeat' (first | exact True.intro | rfl | refine And.intro ?_ ?_))), (by (repeat' (first | exact True.intro | rfl | refine And.intro ?_ ?_))), ⟨.inr ⟨_, rfl, sb⟩, ⟨.inr ⟨_, rfl, .iter⟩, trivial⟩⟩, rfl, rfl⟩⟩
end Go.Proofs.P

namespace Go.Proofs.P
open Go.As
set_option maxRecDepth 20000
set_option linter.unusedVariables false
set_option linter.unusedSimpArgs false

/-! ### Moving a plate -/

def sgAll : Bool := (List.range 9).all fun n => (List.range 8).all fun m => (List.range (n * n)).all fun k => Nat.beq (sgN n (invN m) (sgN n m k)) k && (Nat.beq (sgN n m (sgN n (invN m) k)) k && Nat.blt (sgN n m k) (n * n))
theorem sgAll_ok : sgAll = true := by kernel_rfl
theorem inv_lt {m : Nat} (h : m < 8) : invN m < 8 := by unfold invN; split <;> omega
theorem sg_facts {n m k : Nat} (hn : n ≤ 8) (hm : m < 8) (hk : k < n * n) : sgN n (invN m) (sgN n m k) = k ∧ sgN n m (sgN n (invN m) k) = k ∧ sgN n m k < n * n := by
  have h1 := all_range (all_range (all_range sgAll_ok (show n < 9 by omega)) hm) hk
  simp only [Bool.and_eq_true, Nat.blt_eq] at h1
  exact ⟨Nat.eq_of_beq_eq_true h1.1, Nat.eq_of_beq_eq_true h1.2.1, h1.2.2⟩
def movL (n m : Nat) (D : List Int) : List Int := (List.range D.length).map fun j => D.getD (sgN n (invN m) j) 0
def mvS (n m : Nat) (D : List Int) (seen : List Nat) : List Int := (List.range D.length).map fun j => match seen.contains (sgN n (invN m) j) with | true => D.getD (sgN n (invN m) j) 0 | false => 0
theorem movL_len (n m : Nat) (D : List Int) : (movL n m D).length = D.length := by unfold movL; simp
theorem mvS_len (n m : Nat) (D : List Int) (seen : List Nat) : (mvS n m D seen).length = D.length := by unfold mvS; simp
theorem mvS_nil (n m : Nat) (D : List Int) : iVs (mvS n m D []) = rep D.length [V.int .i64 0] := by
  have e : mvS n m D [] = List.replicate D.length 0 := by
    unfold mvS
    rw [List.eq_replicate_iff]
    refine ⟨by simp, fun b hb => ?_⟩
    obtain ⟨j, _, rfl⟩ := List.mem_map.1 hb
    rfl
  rw [e]
  unfold iVs rep
  rw [List.map_replicate]
  generalize D.length = k
  induction k with
  | zero => rfl
  | succ k ih => rw [List.replicate_succ, ih, List.replicate_succ]; rfl
theorem mvS_step {n m q : Nat} {D : List Int} {seen : List Nat} (hn : n ≤ 8) (hm : m < 8) (hD : D.length = n * n) (hq : q < D.length) : mvS n m D (seen ++ [q]) = (mvS n m D seen).set (sgN n m q) (D.getD q 0) := by
  apply List.ext_getElem?
  intro j
  rw [List.getElem?_set]
  unfold mvS
  rw [List.getElem?_map, List.getElem?_map, List.length_map, List.length_range]
  have hqf := sg_facts hn hm (show q < n * n by omega)
  by_cases hj : j < D.length
  · rw [List.getElem?_range hj]
    have hjf := sg_facts hn hm (show j < n * n by omega)
    by_cases he : sgN n m q = j
    · subst he
      rw [if_pos rfl, if_pos hj]
      simp [hqf.1]
    · rw [if_neg he]
      have hne : sgN n (invN m) j ≠ q := fun hc => he (by rw [← hc]; exact hjf.2.1)
      simp [hne]
  · have hr : (List.range D.length)[j]? = none := by simp; omega
    rw [hr]
    by_cases he : sgN n m q = j
    · subst he; rw [if_pos rfl, if_neg hj]; rfl
    · rw [if_neg he]; rfl
theorem mvS_end {n m : Nat} {D : List Int} {seen : List Nat} (hn : n ≤ 8) (hm : m < 8) (hD : D.length = n * n) (h : ∀ k ∈ nzL D, k ∈ seen) : mvS n m D seen = movL n m D := by
  unfold mvS movL
  refine List.map_congr_left fun j hj => ?_
  have hj' := List.mem_range.1 hj
  have hjf := sg_facts hn (inv_lt hm) (show j < n * n by omega)
  cases hs : seen.contains (sgN n (invN m) j) with
  | true => rfl
  | false =>
    by_cases hz : zr D (sgN n (invN m) j) = true
    · unfold zr at hz; rw [beq_iff_eq] at hz; exact hz.symm
    · exfalso
      have := h (sgN n (invN m) j) (List.mem_filter.2 ⟨List.mem_range.2 (by omega), by simpa using hz⟩)
      simp at hs
      exact hs this

theorem viewMl {h : H} {l : List V} {vo} {es : List (Value × V × Nat)} {clock j : Nat} (hb : ∀ v ∈ l, bare0 v = true) (h1 : Vw1 h l vo) (hg : h.get j = some (.map es clock)) (he : ∀ e ∈ es, ltV 0 e.2.1 = true) : ViewM h [vo, some (j, 0)] [.cells (ofL l 0) false none, .map es clock] := viewMcm hb h1 hg he

set_option maxHeartbeats 2000000 in
theorem moved_ok (h : H) (n m : Nat) (hn : 1 ≤ n ∧ n ≤ 8) (hm : m < 8) (D : List Int) (hD : D.length = n * n) (l : List V) (hl : ∀ v ∈ l, bare0 v = true) (b o cap : Nat) (ex : Bool) (hs : SlC h l D.length (.sl b o D.length cap ex)) (j : Nat) (hj : h.get j = some (.map (esP n D (nzL D)) D.length)) :
    CallOk Try.prog 63 [tabV n (.sl b o D.length cap ex) j, nV m] h (plateV n (.sl h.n 0 D.length D.length true)) (addBs h [.cells (ofL (iVs (movL n m D)) 0) true none]) := by
  obtain ⟨vo, svC, hsv, hca, hvw⟩ := hs.view 0
  have hN : 1 ≤ D.length ∧ D.length ≤ 64 := by
    rw [hD]
    have h1 : 1 * 1 ≤ n * n := Nat.mul_le_mul hn.1 hn.1
    have h2 : n * n ≤ 8 * 8 := Nat.mul_le_mul hn.2 hn.2
    omega
  obtain ⟨cap', ex', rfl⟩ : ∃ cap ex, svC = .sl 0 0 D.length cap ex := by
    cases hsv with
    | nil h0 => omega
    | sl => exact ⟨_, _, rfl⟩
  have hB := hl
  have hMap0 : ∀ e ∈ esP n D (nzL D), ltV 0 e.2.1 = true := fun e he => by obtain ⟨x, _, rfl⟩ := List.mem_map.1 he; rfl
  refine CallOk.runN Try.func63 rfl rfl (argsC := [tabV n (.sl 0 0 D.length cap' ex') 1, .int .i64 m]) (fun N => plateV n (.sl N 0 D.length D.length true)) (fun _ => [.cells (ofL (iVs (movL n m D)) 0) true none]) (Nat.le_of_ble_eq_true rfl) [vo, some (j, 0)] (.cons (CaL.agg (.cons (.bare rfl) (.cons (hca _ rfl) (.cons (.map rfl) .nil)))) (.cons (.bare rfl) .nil)) (viewMl hB hvw hj hMap0)
    (ShV.agg (.cons (.bare rfl) (.cons (.sl (i := 0) (Nat.le_of_ble_eq_true rfl) rfl rfl) .nil))) rfl
    (fun i b hi => by
      match i with
      | 0 => simp at hi; subst hi; exact ⟨_, rfl, rfl, .bare (ofL_bare iVs_bare)⟩
      | i + 1 => simp at hi)
    (WpR.of_vc ?_)
  (conv => whnf); (repeat' (first | ((with_reducible refine ifb_mk (fun hc => ?_) (fun hc => ?_)) <;> ((try simp only [decide_eq_true_eq, decide_eq_false_iff_not, Bool.not_eq_true', Bool.not_eq_false', Int.not_lt, Int.not_le, ne_eq, Decidable.not_not, beq_iff_eq, List.cons.injEq, and_true] at hc); (first | (exfalso; omega) | conv => whnf))) | ((with_reducible refine And.intro True.intro ?_); conv => whnf) | ((with_reducible refine And.intro ?hh ?_); (case hh => (unfold InR; (try dsimp only); omega)); conv => whnf) | ((with_reducible refine And.intro ?hh ?_); (case hh => ((try dsimp only); omega)); conv => whnf) | ((with_reducible refine And.intro ?hh ?_); (case hh => ((conv => whnf); (repeat' (first | exact True.intro | rfl | refine And.intro ?_ ?_)); done)); conv => whnf) | fail))
  have hMap : ∀ seen : List Nat, ltB 6 (.cells (ofL (iVs (mvS n m D seen)) 0) true none) := fun seen => ltB_ofLb iVs_bare
  have hMap2 : ∀ seen : List Nat, ltB 6 (.iter 1 D.length seen D.length) := fun seen => by show 1 < 6; decide
  have hMm : ltB 6 (.map (esP n D (nzL D)) D.length) := ltB_esP
  have hs0 : SubQ (rho []) (.cells (ofL (iVs (mvS n m D [])) 0) true none) (.cells (ofL (rep D.length [V.int .i64 0]) 0) true none) := by
    rw [mvS_nil]
    exact SubQ.bare (fun i v hv => ⟨hv, by rw [← mvS_nil n m D] at hv; exact ofL_bare iVs_bare i v hv⟩) (fun h => h) (.inl rfl)
  have hs1 : SubQ (rho []) (.iter 1 D.length [] D.length) (.iter 1 D.length [] D.length) := .iter
  refine WpR.loopD (ι := List Nat) [] [1, 2, 4, 5] [4, 5] [] 6 (fun _ => [(15, .ptr 5 0)]) (fun seen => [(4, .cells (ofL (iVs (mvS n m D seen)) 0) true none), (5, .iter 1 D.length seen D.length)]) (fun seen => msr (nzL D) seen) (fun _ => True) ?_ ([]) (trivial) [] ⟨rfl, rfl, (by (repeat' (first | exact True.intro | rfl | refine And.intro ?_ ?_))), (by (repeat' (first | exact True.intro | rfl | refine And.intro ?_ ?_))), (by (repeat' (first | exact True.intro | rfl | refine And.intro ?_ ?_))), ⟨.inr ⟨_, rfl, hs0⟩, ⟨.inr ⟨_, rfl, hs1⟩, trivial⟩⟩, rfl, rfl⟩ rfl rfl rfl (fun _ => rfl) (by (repeat' (first | exact True.intro | refine And.intro ?_ ?_ | exact avV_nil _ | rfl))) (by (repeat' (first | exact True.intro | (with_reducible exact avB_nil _) | ((with_reducible refine avB_all ?_); rfl) | ((with_reducible refine avB_ofLb ?_); exact (by first | exact bare0_ints | assumption | exact bVs_bare | exact iVs_bare | exact mVs_bare | (intro v hv; (repeat (rcases List.mem_cons.1 hv with rfl | hv; exact rfl)); cases hv))) | ((with_reducible refine ltB_all ?_); rfl) | ((with_reducible refine ltB_ofLb ?_); exact (by first | exact bare0_ints | assumption | exact bVs_bare | exact iVs_bare | exact mVs_bare | (intro v hv; (repeat (rcases List.mem_cons.1 hv with rfl | hv; exact rfl)); cases hv))) | ((with_reducible refine ltB_loop ?_ ?_) <;> rfl) | (with_reducible exact hMap _) | (with_reducible exact hMap2 _) | (with_reducible exact ltB_encL) | (with_reducible exact ltB_map0) | ((with_reducible refine grB_lt ?_ _); exact (by first | exact bare0_ints | assumption | exact bVs_bare | exact iVs_bare | exact mVs_bare | (intro v hv; (repeat (rcases List.mem_cons.1 hv with rfl | hv; exact rfl)); cases hv))) | (with_reducible assumption) | refine And.intro ?_ ?_ | exact (by first | exact True.intro | exact ltB_all rfl | exact ltB_ofLb (by first | exact bare0_ints | assumption | exact bVs_bare | exact iVs_bare | exact mVs_bare | (intro v hv; (repeat (rcases List.mem_cons.1 hv with rfl | hv; exact rfl)); cases hv)) | exact ltB_loop rfl rfl | exact hMap _ | exact hMap2 _ | exact grB_lt (by first | exact bare0_ints | assumption | exact bVs_bare | exact iVs_bare | exact mVs_bare | (intro v hv; (repeat (rcases List.mem_cons.1 hv with rfl | hv; exact rfl)); cases hv)) _ | exact ltB_encL | exact ltB_map0 | assumption)))) (fun _ _ => (by (repeat' (first | exact True.intro | rfl | refine And.intro ?_ ?_ | exact (by decide) | exact (by first | exact True.intro | exact hMap _ | exact hMap2 _ | exact grB_lt (by first | exact bare0_ints | assumption | exact bVs_bare | exact iVs_bare | exact mVs_bare | (intro v hv; (repeat (rcases List.mem_cons.1 hv with rfl | hv; exact rfl)); cases hv)) _ | exact ltB_all rfl | exact ltB_ofLb (by first | exact bare0_ints | assumption | exact bVs_bare | exact iVs_bare | exact mVs_bare | (intro v hv; (repeat (rcases List.mem_cons.1 hv with rfl | hv; exact rfl)); cases hv)) | exact ltB_loop rfl rfl | exact ltB_encL | exact ltB_map0 | assumption))))) (fun _ _ => (by (repeat' (first | exact True.intro | rfl | refine And.intro ?_ ?_ | exact (by decide) | exact (by first | exact True.intro | exact hMap _ | exact hMap2 _ | exact grB_lt (by first | exact bare0_ints | assumption | exact bVs_bare | exact iVs_bare | exact mVs_bare | (intro v hv; (repeat (rcases List.mem_cons.1 hv with rfl | hv; exact rfl)); cases hv)) _ | exact ltB_all rfl | exact ltB_ofLb (by first | exact bare0_ints | assumption | exact bVs_bare | exact iVs_bare | exact mVs_bare | (intro v hv; (repeat (rcases List.mem_cons.1 hv with rfl | hv; exact rfl)); cases hv)) | exact ltB_loop rfl rfl | exact ltB_encL | exact ltB_map0 | assumption))))) (fun _ _ => (by (repeat' (first | exact True.intro | rfl | refine And.intro ?_ ?_)))) rfl
  intro seen _
  refine WpR.of_vc ?_
  have hsz : ∀ e ∈ esP n D (nzL D), e.2.2 < D.length := fun e he => by
    obtain ⟨q, hq, rfl⟩ := List.mem_map.1 he
    exact List.mem_range.1 (List.mem_filter.1 hq).1
  conv => whnf
  refine ⟨hsz, Nat.le_refl _, fun hl => ?_, fun e he => ?_⟩
  · (conv => whnf); (repeat' (first | ((with_reducible refine ifb_mk (fun hc => ?_) (fun hc => ?_)) <;> ((try simp only [decide_eq_true_eq, decide_eq_false_iff_not, Bool.not_eq_true', Bool.not_eq_false', Int.not_lt, Int.not_le, ne_eq, Decidable.not_not, beq_iff_eq, List.cons.injEq, and_true] at hc); (first | (exfalso; omega) | conv => whnf))) | ((with_reducible refine And.intro True.intro ?_); conv => whnf) | ((with_reducible refine And.intro ?hh ?_); (case hh => (unfold InR; (try dsimp only); omega)); conv => whnf) | ((with_reducible refine And.intro ?hh ?_); (case hh => ((try dsimp only); omega)); conv => whnf) | ((with_reducible refine And.intro ?hh ?_); (case hh => ((conv => whnf); (repeat' (first | exact True.intro | rfl | refine And.intro ?_ ?_)); done)); conv => whnf) | fail))
    rw [mvS_end hn.2 hm hD (left_all hl)]
    exact ⟨[4], rfl, rfl, rfl, ⟨⟨_, rfl, rfl, SubQ.ofL rfl iVs_bare (.inl rfl)⟩, ltB_ofLb iVs_bare, rfl, trivial⟩, (by (repeat' (first | exact True.intro | rfl | refine And.intro ?_ ?_)))⟩
  · obtain ⟨q, hq, rfl, hsn⟩ := left_mem he
    have hqr : q < D.length := List.mem_range.1 (List.mem_filter.1 hq).1
    have hn0 : 0 < n := hn.1
    have hr1 : q / n < n := by rw [Nat.div_lt_iff_lt_mul hn0]; omega
    have hr2 : q % n < n := Nat.mod_lt _ hn0
    have kM := fun h' => spotMoved_ok h' n m (q / n) (q % n) hn.2 hm hr1 hr2
    have hml := mvN_lt (n := n) (m := m) (p := (q / n, q % n)) hr1 hr2
    have kI := fun h' => index_ok h' (mvN n m (q / n, q % n)).1 (mvN n m (q / n, q % n)).2 n hn.2 hml.1 hml.2
    have hqf := sg_facts hn.2 hm (show q < n * n by omega)
    obtain ⟨s, hsE⟩ : ∃ s, sgN n m q = s := ⟨_, rfl⟩
    have hsE' : (mvN n m (q / n, q % n)).1 * n + (mvN n m (q / n, q % n)).2 = s := hsE
    rw [hsE'] at kI
    have kJ : ∀ h', CallOk Try.prog 99 [spV ((mvN n m (q / n, q % n)).1, (mvN n m (q / n, q % n)).2), nV n] h' (.int .i64 (s : Int)) h' := kI
    have hsl : s < D.length := by rw [← hsE, hD]; exact hqf.2.2
    have hmm := msr_lt hq hsn
    obtain ⟨u, hu⟩ : ∃ u, (iVs (mvS n m D seen))[s]? = some u := ⟨_, List.getElem?_eq_getElem (by unfold iVs; rw [List.length_map, mvS_len]; exact hsl)⟩
    have hput : ∀ v, putN [v] (ofL (iVs (mvS n m D seen)) 0) (0 + (s : Int).toNat * 1) = some ((ofL (iVs (mvS n m D seen)) 0).set (0 + (s : Int).toNat * 1) v) := fun v => putN_one (get_ofL0 (by rw [← hu]; congr 1; simp))
    (conv => whnf); (repeat' (first | ((with_reducible refine ifb_mk (fun hc => ?_) (fun hc => ?_)) <;> ((try simp only [decide_eq_true_eq, decide_eq_false_iff_not, Bool.not_eq_true', Bool.not_eq_false', Int.not_lt, Int.not_le, ne_eq, Decidable.not_not, beq_iff_eq, List.cons.injEq, and_true] at hc); (first | (exfalso; omega) | conv => whnf))) | ((with_reducible refine And.intro True.intro ?_); conv => whnf) | (refine som_mk (last_snoc _ _) ?_; conv => whnf) | ((with_reducible refine grd_and ?_); refine And.intro (rfl) ?_; conv => whnf) | (refine som_mk (find_stamp hq) ?_; conv => whnf) | ((with_reducible refine WpR.drawTail (id := 5) mixed 12 [0, 1, 2, 3, 4, 5, 7, 8, 9, 11, 6, 10] [0, 0, 0, 4, 12, 0, 62, 0, 128, 384, 1022, 0] ?hh ?hk ?_); (case hh => kernel_rfl); (case hk => kernel_rfl); conv => whnf) | ((with_reducible refine grd_ex ?_); refine ex_ok (kM _) ?_; conv => whnf) | ((with_reducible refine grd_ex ?_); refine ex_ok (kJ _) ?_; conv => whnf) | ((with_reducible refine grd_putN ?_); refine som_mk (a := ?_) ?hh ?_; (case hh => exact hput _); conv => whnf) | ((with_reducible refine And.intro ?hh ?_); (case hh => (unfold InR; (try dsimp only); omega)); conv => whnf) | ((with_reducible refine And.intro ?hh ?_); (case hh => ((try dsimp only); omega)); conv => whnf) | ((with_reducible refine And.intro ?hh ?_); (case hh => ((conv => whnf); (repeat' (first | exact True.intro | rfl | refine And.intro ?_ ?_)); done)); conv => whnf) | fail))
    have hset : SubQ (rho []) (.cells (ofL (iVs (mvS n m D (seen ++ [q]))) 0) true none) (.cells ((ofL (iVs (mvS n m D seen)) 0).set (0 + (s : Int).toNat * 1) (enP n D q).2.1) true none) := by
      have e : iVs (mvS n m D (seen ++ [q])) = (iVs (mvS n m D seen)).set s (.int .i64 (D.getD q 0)) := by
        rw [mvS_step hn.2 hm hD hqr, hsE]; unfold iVs; rw [List.map_set]
      refine SubQ.bare (fun i v hv => ⟨?_, ofL_bare iVs_bare i v hv⟩) (fun h => h) (.inl rfl)
      rw [e] at hv
      rw [show 0 + (s : Int).toNat * 1 = s from by simp, ofL_set_get (by unfold iVs; rw [List.length_map, mvS_len]; exact hsl)]
      exact hv
    exact ⟨seen ++ [q], [], hmm, trivial, ⟨rfl, rfl, (by (repeat' (first | exact True.intro | rfl | refine And.intro ?_ ?_))), (by (repeat' (first | exact True.intro | rfl | refine And.intro ?_ ?_))), (by (repeat' (first | exact True.intro | rfl | refine And.intro ?_ ?_))), ⟨.inr ⟨_, rfl, hset⟩, ⟨.inr ⟨_, rfl, .iter⟩, trivial⟩⟩, rfl, rfl⟩⟩
end Go.Proofs.P

namespace Go.Proofs.P
open Go.As
set_option maxRecDepth 20000
set_option linter.unusedVariables false
set_option linter.unusedSimpArgs false

/-! ### Does a motion bring a plate to another one? -/

def comB (n n2 m : Nat) (D E : List Int) : Bool := decide (n = n2) && (decide ((nzL D).length = (nzL E).length) && (nzL D).all fun k => E.getD (sgN n m k) 0 == D.getD k 0)
theorem kp_sg {n r c : Nat} (hc : c < n) : kp n (r * n + c) = ((r : Int), (c : Int)) := by
  have hn : 0 < n := by omega
  unfold kp
  rw [Nat.mul_comm, Nat.mul_add_div hn, Nat.div_eq_of_lt hc, Nat.mul_add_mod, Nat.mod_eq_of_lt hc]
  rfl
theorem getD_out {E : List Int} {s : Nat} (h : s ∉ nzL E) : E.getD s 0 = 0 := by
  by_cases hs : s < E.length
  · by_cases hz : zr E s = true
    · unfold zr at hz; exact beq_iff_eq.1 hz
    · exact absurd (List.mem_filter.2 ⟨List.mem_range.2 hs, by simpa using hz⟩) h
  · rw [List.getD_eq_getElem?_getD, List.getElem?_eq_none (by omega)]; rfl
theorem esP_len (n : Nat) (D : List Int) (L : List Nat) : (esP n D L).length = L.length := by unfold esP; simp

theorem viewM2m {h : H} {l1 l2 : List V} {o1 o2} {es es2 : List (Value × V × Nat)} {clock clock2 j j2 : Nat} (b1 : ∀ v ∈ l1, bare0 v = true) (h1 : Vw1 h l1 o1) (b2 : ∀ v ∈ l2, bare0 v = true) (h2 : Vw1 h l2 o2) (hg : h.get j = some (.map es clock)) (he : ∀ e ∈ es, ltV 0 e.2.1 = true) (hg2 : h.get j2 = some (.map es2 clock2)) (he2 : ∀ e ∈ es2, ltV 0 e.2.1 = true) (hne : j ≠ j2) :
    ViewM h [o1, o2, some (j, 0), some (j2, 0)] [.cells (ofL l1 0) false none, .cells (ofL l2 0) false none, .map es clock, .map es2 clock2] :=
  viewM_of ⟨viewM1 b1 h1, viewM1 b2 h2, (fun j' o hjo => by cases hjo; exact ⟨rfl, hg, he⟩), (fun j' o hjo => by cases hjo; exact ⟨rfl, hg2, he2⟩), trivial⟩ (fun k k' j' o o' hk hk' ⟨es', c, hg'⟩ => by
    have key : ∀ k, ∀ o, ([o1, o2, some (j, 0), some (j2, 0)] : Vw)[k]? = some (some (j', o)) → k = 2 ∧ j' = j ∨ k = 3 ∧ j' = j2 := by
      intro k o hk
      match k with
      | 0 => simp at hk; exact (h1.noMap hk hg').elim
      | 1 => simp at hk; exact (h2.noMap hk hg').elim
      | 2 => simp at hk; exact .inl ⟨rfl, hk.1.symm⟩
      | 3 => simp at hk; exact .inr ⟨rfl, hk.1.symm⟩
      | k + 4 => simp at hk
    rcases key k o hk with ⟨rfl, e1⟩ | ⟨rfl, e1⟩ <;> rcases key k' o' hk' with ⟨rfl, e2⟩ | ⟨rfl, e2⟩
    · rfl
    · exact absurd (e1.symm.trans e2) hne
    · exact absurd (e2.symm.trans e1) hne
    · rfl)


set_option maxHeartbeats 4000000 in
theorem comesTo_ok (h : H) (n n2 m : Nat) (hn : 1 ≤ n ∧ n ≤ 8) (hn2 : 1 ≤ n2 ∧ n2 ≤ 8) (hm : m < 8) (D E : List Int) (hD : D.length = n * n) (hE : E.length = n2 * n2) (l1 l2 : List V) (hl1 : ∀ v ∈ l1, bare0 v = true) (hl2 : ∀ v ∈ l2, bare0 v = true) (b1 o1 c1 : Nat) (e1 : Bool) (b2 o2 c2 : Nat) (e2 : Bool)
    (hs1 : SlC h l1 D.length (.sl b1 o1 D.length c1 e1)) (hs2 : SlC h l2 E.length (.sl b2 o2 E.length c2 e2)) (j j2 : Nat) (hne : j ≠ j2) (hj : h.get j = some (.map (esP n D (nzL D)) D.length)) (hj2 : h.get j2 = some (.map (esP n2 E (nzL E)) E.length)) :
    CallOk Try.prog 92 [tabV n (.sl b1 o1 D.length c1 e1) j, tabV n2 (.sl b2 o2 E.length c2 e2) j2, nV m] h (.bool (comB n n2 m D E)) h := by
  obtain ⟨v1, s1, q1, ca1, w1⟩ := hs1.view 0
  obtain ⟨v2, s2, q2, ca2, w2⟩ := hs2.view 1
  have hN : 1 ≤ D.length ∧ D.length ≤ 64 := by
    rw [hD]
    have h1 : 1 * 1 ≤ n * n := Nat.mul_le_mul hn.1 hn.1
    have h2 : n * n ≤ 8 * 8 := Nat.mul_le_mul hn.2 hn.2
    omega
  have hN2 : 1 ≤ E.length ∧ E.length ≤ 64 := by
    rw [hE]
    have h1 : 1 * 1 ≤ n2 * n2 := Nat.mul_le_mul hn2.1 hn2.1
    have h2 : n2 * n2 ≤ 8 * 8 := Nat.mul_le_mul hn2.2 hn2.2
    omega
  obtain ⟨cp1, ex1, rfl⟩ : ∃ cap ex, s1 = .sl 0 0 D.length cap ex := by
    cases q1 with
    | nil h0 => omega
    | sl => exact ⟨_, _, rfl⟩
  obtain ⟨cp2, ex2, rfl⟩ : ∃ cap ex, s2 = .sl 1 0 E.length cap ex := by
    cases q2 with
    | nil h0 => omega
    | sl => exact ⟨_, _, rfl⟩
  have hB1 := hl1
  have hB2 := hl2
  have m1 : ∀ e ∈ esP n D (nzL D), ltV 0 e.2.1 = true := fun e he => by obtain ⟨x, _, rfl⟩ := List.mem_map.1 he; rfl
  have m2 : ∀ e ∈ esP n2 E (nzL E), ltV 0 e.2.1 = true := fun e he => by obtain ⟨x, _, rfl⟩ := List.mem_map.1 he; rfl
  refine CallOk.run Try.func92 rfl rfl (argsC := [tabV n (.sl 0 0 D.length cp1 ex1) 2, tabV n2 (.sl 1 0 E.length cp2 ex2) 3, .int .i64 m]) (Nat.le_of_ble_eq_true rfl) [v1, v2, some (j, 0), some (j2, 0)]
    (.cons (CaL.agg (.cons (.bare rfl) (.cons (ca1 _ rfl) (.cons (.map rfl) .nil)))) (.cons (CaL.agg (.cons (.bare rfl) (.cons (ca2 _ rfl) (.cons (.map rfl) .nil)))) (.cons (.bare rfl) .nil))) (viewM2m hl1 w1 hl2 w2 hj m1 hj2 m2 hne) rfl (WpR.of_vc ?_)
  have hM1 : ltB 7 (.map (esP n D (nzL D)) D.length) := ltB_esP
  have hM2 : ltB 7 (.map (esP n2 E (nzL E)) E.length) := ltB_esP
  by_cases hnn : n = n2
  · subst hnn
    by_cases hl : (nzL D).length = (nzL E).length
    · have hcm : comB n n m D E = (nzL D).all fun k => E.getD (sgN n m k) 0 == D.getD k 0 := by unfold comB; rw [decide_eq_true rfl, decide_eq_true hl, Bool.true_and, Bool.true_and]
      rw [hcm]
      (conv => whnf); (repeat' (first | ((with_reducible refine ifb_mk (fun hc => ?_) (fun hc => ?_)) <;> ((try simp only [decide_eq_true_eq, decide_eq_false_iff_not, Bool.not_eq_true', Bool.not_eq_false', Int.not_lt, Int.not_le, ne_eq, Decidable.not_not, beq_iff_eq, List.cons.injEq, and_true] at hc); (first | (exfalso; omega) | conv => whnf))) | ((with_reducible refine And.intro True.intro ?_); conv => whnf) | ((with_reducible refine And.intro ?hh ?_); (case hh => (unfold InR; (try dsimp only); omega)); conv => whnf) | ((with_reducible refine And.intro ?hh ?_); (case hh => ((try dsimp only); omega)); conv => whnf) | ((with_reducible refine And.intro ?hh ?_); (case hh => ((conv => whnf); (repeat' (first | exact True.intro | rfl | refine And.intro ?_ ?_)); done)); conv => whnf) | fail))
      · exact absurd trivial hc
      · exfalso; rw [esP_len, esP_len] at hc; omega
      have hs1 : SubQ (rho []) (.iter 2 D.length [] D.length) (.iter 2 D.length [] D.length) := .iter
      have hMap : ∀ seen : List Nat, ltB 7 (.iter 2 D.length seen D.length) := fun seen => by show 2 < 7; decide
      refine WpR.loopD (ι := List Nat) [] [2, 3, 4] [6] [] 7 (fun _ => [(27, .ptr 6 0)]) (fun seen => [(6, .iter 2 D.length seen D.length)]) (fun seen => msr (nzL D) seen) (fun seen => ∀ k ∈ nzL D, k ∈ seen → (E.getD (sgN n m k) 0 == D.getD k 0) = true) ?_ ([]) (fun k _ hk => by cases hk) [] ⟨rfl, rfl, (by (repeat' (first | exact True.intro | rfl | refine And.intro ?_ ?_))), (by (repeat' (first | exact True.intro | rfl | refine And.intro ?_ ?_))), (by (repeat' (first | exact True.intro | rfl | refine And.intro ?_ ?_))), ⟨.inr ⟨_, rfl, hs1⟩, trivial⟩, rfl, rfl⟩ rfl rfl rfl (fun _ => rfl) (by (repeat' (first | exact True.intro | refine And.intro ?_ ?_ | exact avV_nil _ | rfl))) (by (repeat' (first | exact True.intro | (with_reducible exact avB_nil _) | ((with_reducible refine avB_all ?_); rfl) | ((with_reducible refine avB_ofLb ?_); exact (by first | exact bare0_ints | assumption | exact bVs_bare | exact iVs_bare | exact mVs_bare | (intro v hv; (repeat (rcases List.mem_cons.1 hv with rfl | hv; exact rfl)); cases hv))) | ((with_reducible refine ltB_all ?_); rfl) | ((with_reducible refine ltB_ofLb ?_); exact (by first | exact bare0_ints | assumption | exact bVs_bare | exact iVs_bare | exact mVs_bare | (intro v hv; (repeat (rcases List.mem_cons.1 hv with rfl | hv; exact rfl)); cases hv))) | ((with_reducible refine ltB_loop ?_ ?_) <;> rfl) | (with_reducible exact hMap _) | (with_reducible exact hMap2 _) | (with_reducible exact ltB_encL) | (with_reducible exact ltB_map0) | ((with_reducible refine grB_lt ?_ _); exact (by first | exact bare0_ints | assumption | exact bVs_bare | exact iVs_bare | exact mVs_bare | (intro v hv; (repeat (rcases List.mem_cons.1 hv with rfl | hv; exact rfl)); cases hv))) | (with_reducible assumption) | refine And.intro ?_ ?_ | exact (by first | exact True.intro | exact ltB_all rfl | exact ltB_ofLb (by first | exact bare0_ints | assumption | exact bVs_bare | exact iVs_bare | exact mVs_bare | (intro v hv; (repeat (rcases List.mem_cons.1 hv with rfl | hv; exact rfl)); cases hv)) | exact ltB_loop rfl rfl | exact hMap _ | exact hMap2 _ | exact grB_lt (by first | exact bare0_ints | assumption | exact bVs_bare | exact iVs_bare | exact mVs_bare | (intro v hv; (repeat (rcases List.mem_cons.1 hv with rfl | hv; exact rfl)); cases hv)) _ | exact ltB_encL | exact ltB_map0 | assumption)))) (fun _ _ => (by (repeat' (first | exact True.intro | rfl | refine And.intro ?_ ?_ | exact (by decide) | exact (by first | exact True.intro | exact hMap _ | exact hMap2 _ | exact grB_lt (by first | exact bare0_ints | assumption | exact bVs_bare | exact iVs_bare | exact mVs_bare | (intro v hv; (repeat (rcases List.mem_cons.1 hv with rfl | hv; exact rfl)); cases hv)) _ | exact ltB_all rfl | exact ltB_ofLb (by first | exact bare0_ints | assumption | exact bVs_bare | exact iVs_bare | exact mVs_bare | (intro v hv; (repeat (rcases List.mem_cons.1 hv with rfl | hv; exact rfl)); cases hv)) | exact ltB_loop rfl rfl | exact ltB_encL | exact ltB_map0 | assumption))))) (fun _ _ => (by (repeat' (first | exact True.intro | rfl | refine And.intro ?_ ?_ | exact (by decide) | exact (by first | exact True.intro | exact hMap _ | exact hMap2 _ | exact grB_lt (by first | exact bare0_ints | assumption | exact bVs_bare | exact iVs_bare | exact mVs_bare | (intro v hv; (repeat (rcases List.mem_cons.1 hv with rfl | hv; exact rfl)); cases hv)) _ | exact ltB_all rfl | exact ltB_ofLb (by first | exact bare0_ints | assumption | exact bVs_bare | exact iVs_bare | exact mVs_bare | (intro v hv; (repeat (rcases List.mem_cons.1 hv with rfl | hv; exact rfl)); cases hv)) | exact ltB_loop rfl rfl | exact ltB_encL | exact ltB_map0 | assumption))))) (fun _ _ => (by (repeat' (first | exact True.intro | rfl | refine And.intro ?_ ?_)))) rfl
      intro seen hJ
      refine WpR.of_vc ?_
      have hsz : ∀ e ∈ esP n D (nzL D), e.2.2 < D.length := fun e he => by
        obtain ⟨q, hq, rfl⟩ := List.mem_map.1 he
        exact List.mem_range.1 (List.mem_filter.1 hq).1
      conv => whnf
      refine ⟨hsz, Nat.le_refl _, fun hl => ?_, fun e he => ?_⟩
      · have ha := left_all hl
        have hT : (nzL D).all (fun k => E.getD (sgN n m k) 0 == D.getD k 0) = true := List.all_eq_true.2 fun k hk => hJ k hk (ha k hk)
        rw [hT]
        (conv => whnf); (repeat' (first | ((with_reducible refine ifb_mk (fun hc => ?_) (fun hc => ?_)) <;> ((try simp only [decide_eq_true_eq, decide_eq_false_iff_not, Bool.not_eq_true', Bool.not_eq_false', Int.not_lt, Int.not_le, ne_eq, Decidable.not_not, beq_iff_eq, List.cons.injEq, and_true] at hc); (first | (exfalso; omega) | conv => whnf))) | ((with_reducible refine And.intro True.intro ?_); conv => whnf) | ((with_reducible refine And.intro ?hh ?_); (case hh => (unfold InR; (try dsimp only); omega)); conv => whnf) | ((with_reducible refine And.intro ?hh ?_); (case hh => ((try dsimp only); omega)); conv => whnf) | ((with_reducible refine And.intro ?hh ?_); (case hh => ((conv => whnf); (repeat' (first | exact True.intro | rfl | refine And.intro ?_ ?_)); done)); conv => whnf) | fail))
        (refine ⟨[], ?_, rfl, rfl, trivial, (by (repeat' (first | exact True.intro | rfl | refine And.intro ?_ ?_)))⟩; simp only [renV, renL]; (first | done | rfl | simp | grind))
      · obtain ⟨q, hq, rfl, hsn⟩ := left_mem he
        have hqr : q < D.length := List.mem_range.1 (List.mem_filter.1 hq).1
        have hn0 : 0 < n := hn.1
        have hr1 : q / n < n := by rw [Nat.div_lt_iff_lt_mul hn0]; omega
        have hr2 : q % n < n := Nat.mod_lt _ hn0
        have kM := fun h' => spotMoved_ok h' n m (q / n) (q % n) hn.2 hm hr1 hr2
        have hml := mvN_lt (n := n) (m := m) (p := (q / n, q % n)) hr1 hr2
        have hkp : kp n (sgN n m q) = (((mvN n m (q / n, q % n)).1 : Int), ((mvN n m (q / n, q % n)).2 : Int)) := kp_sg hml.2
        have hmm := msr_lt hq hsn
        have hstep : E.getD (sgN n m q) 0 = D.getD q 0 → ∀ k ∈ nzL D, k ∈ seen ++ [q] → (E.getD (sgN n m k) 0 == D.getD k 0) = true := fun he k hk hks => by
          rcases List.mem_append.1 hks with hks | hks
          · exact hJ k hk hks
          · rw [List.mem_singleton] at hks; subst hks; rw [beq_iff_eq]; exact he
        have hF : E.getD (sgN n m q) 0 ≠ D.getD q 0 → (nzL D).all (fun k => E.getD (sgN n m k) 0 == D.getD k 0) = false := fun hne => by
          rw [Bool.eq_false_iff]; intro hc
          exact hne (beq_iff_eq.1 (List.all_eq_true.1 hc q hq))
        by_cases hE : sgN n m q ∈ nzL E
        · obtain ⟨i, f1, f2⟩ := find_yes (n := n) (D := E) hE
          rw [hkp] at f1
          (conv => whnf); (repeat' (first | ((with_reducible refine ifb_mk (fun hc => ?_) (fun hc => ?_)) <;> ((try simp only [decide_eq_true_eq, decide_eq_false_iff_not, Bool.not_eq_true', Bool.not_eq_false', Int.not_lt, Int.not_le, ne_eq, Decidable.not_not, beq_iff_eq, List.cons.injEq, and_true] at hc); (first | (exfalso; omega) | conv => whnf))) | ((with_reducible refine And.intro True.intro ?_); conv => whnf) | (refine som_mk (last_snoc _ _) ?_; conv => whnf) | ((with_reducible refine grd_and ?_); refine And.intro (rfl) ?_; conv => whnf) | (refine som_mk (find_stamp hq) ?_; conv => whnf) | ((with_reducible refine WpR.draw (id := 6) mixed [0, 1, 2, 3, 4, 5, 6, 9, 7, 8, 10] [0, 1, 0, 0, 8, 24, 0, 124, 255, 0, 1023] ?hh ?_); (case hh => kernel_rfl); conv => whnf) | ((with_reducible refine grd_ex ?_); refine ex_ok (kM _) ?_; conv => whnf) | (refine som_mk (f1 _) ?_; conv => whnf) | (refine som_mk (f2) ?_; conv => whnf) | ((with_reducible refine And.intro ?hh ?_); (case hh => (unfold InR; (try dsimp only); omega)); conv => whnf) | ((with_reducible refine And.intro ?hh ?_); (case hh => ((try dsimp only); omega)); conv => whnf) | ((with_reducible refine And.intro ?hh ?_); (case hh => ((conv => whnf); (repeat' (first | exact True.intro | rfl | refine And.intro ?_ ?_)); done)); conv => whnf) | fail))
          · have hne : E.getD (sgN n m q) 0 ≠ D.getD q 0 := hc
            rw [hF hne]
            (refine ⟨[], ?_, rfl, rfl, trivial, (by (repeat' (first | exact True.intro | rfl | refine And.intro ?_ ?_)))⟩; simp only [renV, renL]; (first | done | rfl | simp | grind))
          · have heq : E.getD (sgN n m q) 0 = D.getD q 0 := hc
            exact ⟨seen ++ [q], [], hmm, hstep heq, ⟨rfl, rfl, (by (repeat' (first | exact True.intro | rfl | refine And.intro ?_ ?_))), (by (repeat' (first | exact True.intro | rfl | refine And.intro ?_ ?_))), (by (repeat' (first | exact True.intro | rfl | refine And.intro ?_ ?_))), ⟨.inr ⟨_, rfl, .iter⟩, trivial⟩, rfl, rfl⟩⟩
        · have f1 := fun em => find_no (n := n) (D := E) em hE
          rw [hkp] at f1
          have h0 := getD_out hE
          (conv => whnf); (repeat' (first | ((with_reducible refine ifb_mk (fun hc => ?_) (fun hc => ?_)) <;> ((try simp only [decide_eq_true_eq, decide_eq_false_iff_not, Bool.not_eq_true', Bool.not_eq_false', Int.not_lt, Int.not_le, ne_eq, Decidable.not_not, beq_iff_eq, List.cons.injEq, and_true] at hc); (first | (exfalso; omega) | conv => whnf))) | ((with_reducible refine And.intro True.intro ?_); conv => whnf) | (refine som_mk (last_snoc _ _) ?_; conv => whnf) | ((with_reducible refine grd_and ?_); refine And.intro (rfl) ?_; conv => whnf) | (refine som_mk (find_stamp hq) ?_; conv => whnf) | ((with_reducible refine WpR.draw (id := 6) mixed [0, 1, 2, 3, 4, 5, 6, 9, 7, 8, 10] [0, 1, 0, 0, 8, 24, 0, 124, 255, 0, 1023] ?hh ?_); (case hh => kernel_rfl); conv => whnf) | ((with_reducible refine grd_ex ?_); refine ex_ok (kM _) ?_; conv => whnf) | (refine som_mk (f1 _) ?_; conv => whnf) | ((with_reducible refine And.intro ?hh ?_); (case hh => (unfold InR; (try dsimp only); omega)); conv => whnf) | ((with_reducible refine And.intro ?hh ?_); (case hh => ((try dsimp only); omega)); conv => whnf) | ((with_reducible refine And.intro ?hh ?_); (case hh => ((conv => whnf); (repeat' (first | exact True.intro | rfl | refine And.intro ?_ ?_)); done)); conv => whnf) | fail))
          · have hne : E.getD (sgN n m q) 0 ≠ D.getD q 0 := by rw [h0]; exact hc
            rw [hF hne]
            (refine ⟨[], ?_, rfl, rfl, trivial, (by (repeat' (first | exact True.intro | rfl | refine And.intro ?_ ?_)))⟩; simp only [renV, renL]; (first | done | rfl | simp | grind))
          · have heq : E.getD (sgN n m q) 0 = D.getD q 0 := by rw [h0]; exact hc
            exact ⟨seen ++ [q], [], hmm, hstep heq, ⟨rfl, rfl, (by (repeat' (first | exact True.intro | rfl | refine And.intro ?_ ?_))), (by (repeat' (first | exact True.intro | rfl | refine And.intro ?_ ?_))), (by (repeat' (first | exact True.intro | rfl | refine And.intro ?_ ?_))), ⟨.inr ⟨_, rfl, .iter⟩, trivial⟩, rfl, rfl⟩⟩
    · have hcm : comB n n m D E = false := by unfold comB; rw [decide_eq_false hl, Bool.false_and, Bool.and_false]
      rw [hcm]
      (conv => whnf); (repeat' (first | ((with_reducible refine ifb_mk (fun hc => ?_) (fun hc => ?_)) <;> ((try simp only [decide_eq_true_eq, decide_eq_false_iff_not, Bool.not_eq_true', Bool.not_eq_false', Int.not_lt, Int.not_le, ne_eq, Decidable.not_not, beq_iff_eq, List.cons.injEq, and_true] at hc); (first | (exfalso; omega) | conv => whnf))) | ((with_reducible refine And.intro True.intro ?_); conv => whnf) | ((with_reducible refine And.intro ?hh ?_); (case hh => (unfold InR; (try dsimp only); omega)); conv => whnf) | ((with_reducible refine And.intro ?hh ?_); (case hh => ((try dsimp only); omega)); conv => whnf) | ((with_reducible refine And.intro ?hh ?_); (case hh => ((conv => whnf); (repeat' (first | exact True.intro | rfl | refine And.intro ?_ ?_)); done)); conv => whnf) | fail))
      · (refine ⟨[], ?_, rfl, rfl, trivial, (by (repeat' (first | exact True.intro | rfl | refine And.intro ?_ ?_)))⟩; simp only [renV, renL]; (first | done | rfl | simp | grind))
      · (refine ⟨[], ?_, rfl, rfl, trivial, (by (repeat' (first | exact True.intro | rfl | refine And.intro ?_ ?_)))⟩; simp only [renV, renL]; (first | done | rfl | simp | grind))
      · exfalso; rw [esP_len, esP_len] at hc; omega
  · have hcm : comB n n2 m D E = false := by unfold comB; rw [decide_eq_false hnn, Bool.false_and]
    rw [hcm]
    (conv => whnf); (repeat' (first | ((with_reducible refine ifb_mk (fun hc => ?_) (fun hc => ?_)) <;> ((try simp only [decide_eq_true_eq, decide_eq_false_iff_not, Bool.not_eq_true', Bool.not_eq_false', Int.not_lt, Int.not_le, ne_eq, Decidable.not_not, beq_iff_eq, List.cons.injEq, and_true] at hc); (first | (exfalso; omega) | conv => whnf))) | ((with_reducible refine And.intro True.intro ?_); conv => whnf) | ((with_reducible refine And.intro ?hh ?_); (case hh => (unfold InR; (try dsimp only); omega)); conv => whnf) | ((with_reducible refine And.intro ?hh ?_); (case hh => ((try dsimp only); omega)); conv => whnf) | ((with_reducible refine And.intro ?hh ?_); (case hh => ((conv => whnf); (repeat' (first | exact True.intro | rfl | refine And.intro ?_ ?_)); done)); conv => whnf) | fail))
    (refine ⟨[], ?_, rfl, rfl, trivial, (by (repeat' (first | exact True.intro | rfl | refine And.intro ?_ ?_)))⟩; simp only [renV, renL]; (first | done | rfl | simp | grind))

set_option maxHeartbeats 4000000 in
theorem comesSelf_ok (h : H) (n m : Nat) (hn : 1 ≤ n ∧ n ≤ 8) (hm : m < 8) (D : List Int) (hD : D.length = n * n) (l1 : List V) (hl1 : ∀ v ∈ l1, bare0 v = true) (b1 o1 c1 : Nat) (e1 : Bool)
    (hs1 : SlC h l1 D.length (.sl b1 o1 D.length c1 e1)) (j : Nat) (hj : h.get j = some (.map (esP n D (nzL D)) D.length)) :
    CallOk Try.prog 92 [tabV n (.sl b1 o1 D.length c1 e1) j, tabV n (.sl b1 o1 D.length c1 e1) j, nV m] h (.bool (comB n n m D D)) h := by
  obtain ⟨v1, s1, q1, ca1, w1⟩ := hs1.view 0
  have hN : 1 ≤ D.length ∧ D.length ≤ 64 := by
    rw [hD]
    have h1 : 1 * 1 ≤ n * n := Nat.mul_le_mul hn.1 hn.1
    have h2 : n * n ≤ 8 * 8 := Nat.mul_le_mul hn.2 hn.2
    omega
  obtain ⟨cp1, ex1, rfl⟩ : ∃ cap ex, s1 = .sl 0 0 D.length cap ex := by
    cases q1 with
    | nil h0 => omega
    | sl => exact ⟨_, _, rfl⟩
  have hB1 := hl1
  have m1 : ∀ e ∈ esP n D (nzL D), ltV 0 e.2.1 = true := fun e he => by obtain ⟨x, _, rfl⟩ := List.mem_map.1 he; rfl
  refine CallOk.run Try.func92 rfl rfl (argsC := [tabV n (.sl 0 0 D.length cp1 ex1) 1, tabV n (.sl 0 0 D.length cp1 ex1) 1, .int .i64 m]) (Nat.le_of_ble_eq_true rfl) [v1, some (j, 0)]
    (.cons (CaL.agg (.cons (.bare rfl) (.cons (ca1 _ rfl) (.cons (.map rfl) .nil)))) (.cons (CaL.agg (.cons (.bare rfl) (.cons (ca1 _ rfl) (.cons (.map rfl) .nil)))) (.cons (.bare rfl) .nil))) (viewMl hl1 w1 hj m1) rfl (WpR.of_vc ?_)
  have hM1 : ltB 5 (.map (esP n D (nzL D)) D.length) := ltB_esP
  have hcm : comB n n m D D = (nzL D).all fun k => D.getD (sgN n m k) 0 == D.getD k 0 := by unfold comB; rw [decide_eq_true rfl, decide_eq_true rfl, Bool.true_and, Bool.true_and]
  rw [hcm]
  (conv => whnf); (repeat' (first | ((with_reducible refine ifb_mk (fun hc => ?_) (fun hc => ?_)) <;> ((try simp only [decide_eq_true_eq, decide_eq_false_iff_not, Bool.not_eq_true', Bool.not_eq_false', Int.not_lt, Int.not_le, ne_eq, Decidable.not_not, beq_iff_eq, List.cons.injEq, and_true] at hc); (first | (exfalso; omega) | conv => whnf))) | ((with_reducible refine And.intro True.intro ?_); conv => whnf) | ((with_reducible refine And.intro ?hh ?_); (case hh => (unfold InR; (try dsimp only); omega)); conv => whnf) | ((with_reducible refine And.intro ?hh ?_); (case hh => ((try dsimp only); omega)); conv => whnf) | ((with_reducible refine And.intro ?hh ?_); (case hh => ((conv => whnf); (repeat' (first | exact True.intro | rfl | refine And.intro ?_ ?_)); done)); conv => whnf) | fail))
  · exact absurd trivial hc
  · exact absurd trivial hc
  have hs1 : SubQ (rho []) (.iter 1 D.length [] D.length) (.iter 1 D.length [] D.length) := .iter
  have hMap : ∀ seen : List Nat, ltB 5 (.iter 1 D.length seen D.length) := fun seen => by show 1 < 5; decide
  refine WpR.loopD (ι := List Nat) [] [2, 3, 4] [4] [] 5 (fun _ => [(27, .ptr 4 0)]) (fun seen => [(4, .iter 1 D.length seen D.length)]) (fun seen => msr (nzL D) seen) (fun seen => ∀ k ∈ nzL D, k ∈ seen → (D.getD (sgN n m k) 0 == D.getD k 0) = true) ?_ ([]) (fun k _ hk => by cases hk) [] ⟨rfl, rfl, (by (repeat' (first | exact True.intro | rfl | refine And.intro ?_ ?_))), (by (repeat' (first | exact True.intro | rfl | refine And.intro ?_ ?_))), (by (repeat' (first | exact True.intro | rfl | refine And.intro ?_ ?_))), ⟨.inr ⟨_, rfl, hs1⟩, trivial⟩, rfl, rfl⟩ rfl rfl rfl (fun _ => rfl) (by (repeat' (first | exact True.intro | refine And.intro ?_ ?_ | exact avV_nil _ | rfl))) (by (repeat' (first | exact True.intro | (with_reducible exact avB_nil _) | ((with_reducible refine avB_all ?_); rfl) | ((with_reducible refine avB_ofLb ?_); exact (by first | exact bare0_ints | assumption | exact bVs_bare | exact iVs_bare | exact mVs_bare | (intro v hv; (repeat (rcases List.mem_cons.1 hv with rfl | hv; exact rfl)); cases hv))) | ((with_reducible refine ltB_all ?_); rfl) | ((with_reducible refine ltB_ofLb ?_); exact (by first | exact bare0_ints | assumption | exact bVs_bare | exact iVs_bare | exact mVs_bare | (intro v hv; (repeat (rcases List.mem_cons.1 hv with rfl | hv; exact rfl)); cases hv))) | ((with_reducible refine ltB_loop ?_ ?_) <;> rfl) | (with_reducible exact hMap _) | (with_reducible exact hMap2 _) | (with_reducible exact ltB_encL) | (with_reducible exact ltB_map0) | ((with_reducible refine grB_lt ?_ _); exact (by first | exact bare0_ints | assumption | exact bVs_bare | exact iVs_bare | exact mVs_bare | (intro v hv; (repeat (rcases List.mem_cons.1 hv with rfl | hv; exact rfl)); cases hv))) | (with_reducible assumption) | refine And.intro ?_ ?_ | exact (by first | exact True.intro | exact ltB_all rfl | exact ltB_ofLb (by first | exact bare0_ints | assumption | exact bVs_bare | exact iVs_bare | exact mVs_bare | (intro v hv; (repeat (rcases List.mem_cons.1 hv with rfl | hv; exact rfl)); cases hv)) | exact ltB_loop rfl rfl | exact hMap _ | exact hMap2 _ | exact grB_lt (by first | exact bare0_ints | assumption | exact bVs_bare | exact iVs_bare | exact mVs_bare | (intro v hv; (repeat (rcases List.mem_cons.1 hv with rfl | hv; exact rfl)); cases hv)) _ | exact ltB_encL | exact ltB_map0 | assumption)))) (fun _ _ => (by (repeat' (first | exact True.intro | rfl | refine And.intro ?_ ?_ | exact (by decide) | exact (by first | exact True.intro | exact hMap _ | exact hMap2 _ | exact grB_lt (by first | exact bare0_ints | assumption | exact bVs_bare | exact iVs_bare | exact mVs_bare | (intro v hv; (repeat (rcases List.mem_cons.1 hv with rfl | hv; exact rfl)); cases hv)) _ | exact ltB_all rfl | exact ltB_ofLb (by first | exact bare0_ints | assumption | exact bVs_bare | exact iVs_bare | exact mVs_bare | (intro v hv; (repeat (rcases List.mem_cons.1 hv with rfl | hv; exact rfl)); cases hv)) | exact ltB_loop rfl rfl | exact ltB_encL | exact ltB_map0 | assumption))))) (fun _ _ => (by (repeat' (first | exact True.intro | rfl | refine And.intro ?_ ?_ | exact (by decide) | exact (by first | exact True.intro | exact hMap _ | exact hMap2 _ | exact grB_lt (by first | exact bare0_ints | assumption | exact bVs_bare | exact iVs_bare | exact mVs_bare | (intro v hv; (repeat (rcases List.mem_cons.1 hv with rfl | hv; exact rfl)); cases hv)) _ | exact ltB_all rfl | exact ltB_ofLb (by first | exact bare0_ints | assumption | exact bVs_bare | exact iVs_bare | exact mVs_bare | (intro v hv; (repeat (rcases List.mem_cons.1 hv with rfl | hv; exact rfl)); cases hv)) | exact ltB_loop rfl rfl | exact ltB_encL | exact ltB_map0 | assumption))))) (fun _ _ => (by (repeat' (first | exact True.intro | rfl | refine And.intro ?_ ?_)))) rfl
  intro seen hJ
  refine WpR.of_vc ?_
  have hsz : ∀ e ∈ esP n D (nzL D), e.2.2 < D.length := fun e he => by
    obtain ⟨q, hq, rfl⟩ := List.mem_map.1 he
    exact List.mem_range.1 (List.mem_filter.1 hq).1
  conv => whnf
  refine ⟨hsz, Nat.le_refl _, fun hl => ?_, fun e he => ?_⟩
  · have ha := left_all hl
    have hT : (nzL D).all (fun k => D.getD (sgN n m k) 0 == D.getD k 0) = true := List.all_eq_true.2 fun k hk => hJ k hk (ha k hk)
    rw [hT]
    (conv => whnf); (repeat' (first | ((with_reducible refine ifb_mk (fun hc => ?_) (fun hc => ?_)) <;> ((try simp only [decide_eq_true_eq, decide_eq_false_iff_not, Bool.not_eq_true', Bool.not_eq_false', Int.not_lt, Int.not_le, ne_eq, Decidable.not_not, beq_iff_eq, List.cons.injEq, and_true] at hc); (first | (exfalso; omega) | conv => whnf))) | ((with_reducible refine And.intro True.intro ?_); conv => whnf) | ((with_reducible refine And.intro ?hh ?_); (case hh => (unfold InR; (try dsimp only); omega)); conv => whnf) | ((with_reducible refine And.intro ?hh ?_); (case hh => ((try dsimp only); omega)); conv => whnf) | ((with_reducible refine And.intro ?hh ?_); (case hh => ((conv => whnf); (repeat' (first | exact True.intro | rfl | refine And.intro ?_ ?_)); done)); conv => whnf) | fail))
    (refine ⟨[], ?_, rfl, rfl, trivial, (by (repeat' (first | exact True.intro | rfl | refine And.intro ?_ ?_)))⟩; simp only [renV, renL]; (first | done | rfl | simp | grind))
  · obtain ⟨q, hq, rfl, hsn⟩ := left_mem he
    have hqr : q < D.length := List.mem_range.1 (List.mem_filter.1 hq).1
    have hn0 : 0 < n := hn.1
    have hr1 : q / n < n := by rw [Nat.div_lt_iff_lt_mul hn0]; omega
    have hr2 : q % n < n := Nat.mod_lt _ hn0
    have kM := fun h' => spotMoved_ok h' n m (q / n) (q % n) hn.2 hm hr1 hr2
    have hml := mvN_lt (n := n) (m := m) (p := (q / n, q % n)) hr1 hr2
    have hkp : kp n (sgN n m q) = (((mvN n m (q / n, q % n)).1 : Int), ((mvN n m (q / n, q % n)).2 : Int)) := kp_sg hml.2
    have hmm := msr_lt hq hsn
    have hstep : D.getD (sgN n m q) 0 = D.getD q 0 → ∀ k ∈ nzL D, k ∈ seen ++ [q] → (D.getD (sgN n m k) 0 == D.getD k 0) = true := fun he k hk hks => by
      rcases List.mem_append.1 hks with hks | hks
      · exact hJ k hk hks
      · rw [List.mem_singleton] at hks; subst hks; rw [beq_iff_eq]; exact he
    have hF : D.getD (sgN n m q) 0 ≠ D.getD q 0 → (nzL D).all (fun k => D.getD (sgN n m k) 0 == D.getD k 0) = false := fun hne => by
      rw [Bool.eq_false_iff]; intro hc
      exact hne (beq_iff_eq.1 (List.all_eq_true.1 hc q hq))
    by_cases hE : sgN n m q ∈ nzL D
    · obtain ⟨i, f1, f2⟩ := find_yes (n := n) (D := D) hE
      rw [hkp] at f1
      (conv => whnf); (repeat' (first | ((with_reducible refine ifb_mk (fun hc => ?_) (fun hc => ?_)) <;> ((try simp only [decide_eq_true_eq, decide_eq_false_iff_not, Bool.not_eq_true', Bool.not_eq_false', Int.not_lt, Int.not_le, ne_eq, Decidable.not_not, beq_iff_eq, List.cons.injEq, and_true] at hc); (first | (exfalso; omega) | conv => whnf))) | ((with_reducible refine And.intro True.intro ?_); conv => whnf) | (refine som_mk (last_snoc _ _) ?_; conv => whnf) | ((with_reducible refine grd_and ?_); refine And.intro (rfl) ?_; conv => whnf) | (refine som_mk (find_stamp hq) ?_; conv => whnf) | ((with_reducible refine WpR.draw (id := 6) mixed [0, 1, 2, 3, 4, 5, 6, 9, 7, 8, 10] [0, 1, 0, 0, 8, 24, 0, 124, 255, 0, 1023] ?hh ?_); (case hh => kernel_rfl); conv => whnf) | ((with_reducible refine grd_ex ?_); refine ex_ok (kM _) ?_; conv => whnf) | (refine som_mk (f1 _) ?_; conv => whnf) | (refine som_mk (f2) ?_; conv => whnf) | ((with_reducible refine And.intro ?hh ?_); (case hh => (unfold InR; (try dsimp only); omega)); conv => whnf) | ((with_reducible refine And.intro ?hh ?_); (case hh => ((try dsimp only); omega)); conv => whnf) | ((with_reducible refine And.intro ?hh ?_); (case hh => ((conv => whnf); (repeat' (first | exact True.intro | rfl | refine And.intro ?_ ?_)); done)); conv => whnf) | fail))
      · have hne : D.getD (sgN n m q) 0 ≠ D.getD q 0 := hc
        rw [hF hne]
        (refine ⟨[], ?_, rfl, rfl, trivial, (by (repeat' (first | exact True.intro | rfl | refine And.intro ?_ ?_)))⟩; simp only [renV, renL]; (first | done | rfl | simp | grind))
      · have heq : D.getD (sgN n m q) 0 = D.getD q 0 := hc
        exact ⟨seen ++ [q], [], hmm, hstep heq, ⟨rfl, rfl, (by (repeat' (first | exact True.intro | rfl | refine And.intro ?_ ?_))), (by (repeat' (first | exact True.intro | rfl | refine And.intro ?_ ?_))), (by (repeat' (first | exact True.intro | rfl | refine And.intro ?_ ?_))), ⟨.inr ⟨_, rfl, .iter⟩, trivial⟩, rfl, rfl⟩⟩
    · have f1 := fun em => find_no (n := n) (D := D) em hE
      rw [hkp] at f1
      have h0 := getD_out hE
      (conv => whnf); (repeat' (first | ((with_reducible refine ifb_mk (fun hc => ?_) (fun hc => ?_)) <;> ((try simp only [decide_eq_true_eq, decide_eq_false_iff_not, Bool.not_eq_true', Bool.not_eq_false', Int.not_lt, Int.not_le, ne_eq, Decidable.not_not, beq_iff_eq, List.cons.injEq, and_true] at hc); (first | (exfalso; omega) | conv => whnf))) | ((with_reducible refine And.intro True.intro ?_); conv => whnf) | (refine som_mk (last_snoc _ _) ?_; conv => whnf) | ((with_reducible refine grd_and ?_); refine And.intro (rfl) ?_; conv => whnf) | (refine som_mk (find_stamp hq) ?_; conv => whnf) | ((with_reducible refine WpR.draw (id := 6) mixed [0, 1, 2, 3, 4, 5, 6, 9, 7, 8, 10] [0, 1, 0, 0, 8, 24, 0, 124, 255, 0, 1023] ?hh ?_); (case hh => kernel_rfl); conv => whnf) | ((with_reducible refine grd_ex ?_); refine ex_ok (kM _) ?_; conv => whnf) | (refine som_mk (f1 _) ?_; conv => whnf) | ((with_reducible refine And.intro ?hh ?_); (case hh => (unfold InR; (try dsimp only); omega)); conv => whnf) | ((with_reducible refine And.intro ?hh ?_); (case hh => ((try dsimp only); omega)); conv => whnf) | ((with_reducible refine And.intro ?hh ?_); (case hh => ((conv => whnf); (repeat' (first | exact True.intro | rfl | refine And.intro ?_ ?_)); done)); conv => whnf) | fail))
      · have hne : D.getD (sgN n m q) 0 ≠ D.getD q 0 := by rw [h0]; exact hc
        rw [hF hne]
        (refine ⟨[], ?_, rfl, rfl, trivial, (by (repeat' (first | exact True.intro | rfl | refine And.intro ?_ ?_)))⟩; simp only [renV, renL]; (first | done | rfl | simp | grind))
      · have heq : D.getD (sgN n m q) 0 = D.getD q 0 := by rw [h0]; exact hc
        exact ⟨seen ++ [q], [], hmm, hstep heq, ⟨rfl, rfl, (by (repeat' (first | exact True.intro | rfl | refine And.intro ?_ ?_))), (by (repeat' (first | exact True.intro | rfl | refine And.intro ?_ ?_))), (by (repeat' (first | exact True.intro | rfl | refine And.intro ?_ ?_))), ⟨.inr ⟨_, rfl, .iter⟩, trivial⟩, rfl, rfl⟩⟩
end Go.Proofs.P

namespace Go.Proofs.P
open Go.As
set_option maxRecDepth 20000
set_option linter.unusedVariables false
set_option linter.unusedSimpArgs false

theorem stays_ok (h : H) (n m : Nat) (hn : 1 ≤ n ∧ n ≤ 8) (hm : m < 8) (D : List Int) (hD : D.length = n * n) (l1 : List V) (hl1 : ∀ v ∈ l1, bare0 v = true) (b1 o1 c1 : Nat) (e1 : Bool)
    (hs1 : SlC h l1 D.length (.sl b1 o1 D.length c1 e1)) (j : Nat) (hj : h.get j = some (.map (esP n D (nzL D)) D.length)) :
    CallOk Try.prog 66 [tabV n (.sl b1 o1 D.length c1 e1) j, nV m] h (.bool (comB n n m D D)) h := by
  obtain ⟨v1, s1, q1, ca1, w1⟩ := hs1.view 0
  have hN : 1 ≤ D.length := by
    rw [hD]
    exact Nat.mul_le_mul hn.1 hn.1
  obtain ⟨cp1, ex1, rfl⟩ : ∃ cap ex, s1 = .sl 0 0 D.length cap ex := by
    cases q1 with
    | nil h0 => omega
    | sl => exact ⟨_, _, rfl⟩
  have m1 : ∀ e ∈ esP n D (nzL D), ltV 0 e.2.1 = true := fun e he => by obtain ⟨x, _, rfl⟩ := List.mem_map.1 he; rfl
  refine CallOk.run Try.func66 rfl rfl (argsC := [tabV n (.sl 0 0 D.length cp1 ex1) 1, nV m]) (Nat.le_of_ble_eq_true rfl) [v1, some (j, 0)]
    (.cons (CaL.agg (.cons (.bare rfl) (.cons (ca1 _ rfl) (.cons (.map rfl) .nil)))) (.cons (.bare rfl) .nil)) (viewMl hl1 w1 hj m1) rfl (WpR.of_vc ?_)
  have kC := fun h' hs' hj' => comesSelf_ok h' n m hn hm D hD l1 hl1 0 0 cp1 ex1 hs' 1 hj'
  (conv => whnf); (repeat' (first | ((with_reducible refine ifb_mk (fun hc => ?_) (fun hc => ?_)) <;> ((try simp only [decide_eq_true_eq, decide_eq_false_iff_not, Bool.not_eq_true', Bool.not_eq_false', Int.not_lt, Int.not_le, ne_eq, Decidable.not_not, beq_iff_eq, List.cons.injEq, and_true] at hc); (first | (exfalso; omega) | conv => whnf))) | ((with_reducible refine And.intro True.intro ?_); conv => whnf) | ((with_reducible refine CallX.all ?_); refine CallW.of_ok (kC _ (SlC.own rfl) rfl) ?_; conv => whnf) | ((with_reducible refine And.intro ?hh ?_); (case hh => (unfold InR; (try dsimp only); omega)); conv => whnf) | ((with_reducible refine And.intro ?hh ?_); (case hh => ((try dsimp only); omega)); conv => whnf) | ((with_reducible refine And.intro ?hh ?_); (case hh => ((conv => whnf); (repeat' (first | exact True.intro | rfl | refine And.intro ?_ ?_)); done)); conv => whnf) | fail))
  (refine ⟨[], ?_, rfl, rfl, trivial, (by (repeat' (first | exact True.intro | rfl | refine And.intro ?_ ?_)))⟩; simp only [renV, renL]; (first | done | rfl | simp | grind))

theorem isMotion_ok (h : H) (a : Int) : CallOk Try.prog 53 [.int .i64 a] h (.bool (decide (0 ≤ a ∧ a ≤ 7))) h := by
  by_cases ha : 0 ≤ a ∧ a ≤ 7
  · rw [decide_eq_true ha]
    refine CallOk.run0 Try.func53 rfl rfl rfl rfl rfl (WpR.of_vc ?_)
    (conv => whnf); (repeat' (first | ((with_reducible refine ifb_mk (fun hc => ?_) (fun hc => ?_)) <;> ((try simp only [decide_eq_true_eq, decide_eq_false_iff_not, Bool.not_eq_true', Bool.not_eq_false', Int.not_lt, Int.not_le, ne_eq, Decidable.not_not, beq_iff_eq, List.cons.injEq, and_true] at hc); (first | (exfalso; omega) | conv => whnf))) | ((with_reducible refine And.intro True.intro ?_); conv => whnf) | ((with_reducible refine And.intro ?hh ?_); (case hh => (unfold InR; (try dsimp only); omega)); conv => whnf) | ((with_reducible refine And.intro ?hh ?_); (case hh => ((try dsimp only); omega)); conv => whnf) | ((with_reducible refine And.intro ?hh ?_); (case hh => ((conv => whnf); (repeat' (first | exact True.intro | rfl | refine And.intro ?_ ?_)); done)); conv => whnf) | fail))
    all_goals (first | (exfalso; omega) | (refine ⟨[], ?_, rfl, rfl, trivial, (by (repeat' (first | exact True.intro | rfl | refine And.intro ?_ ?_)))⟩; simp only [renV, renL]; (first | done | rfl | (simp; omega))))
  · rw [decide_eq_false ha]
    refine CallOk.run0 Try.func53 rfl rfl rfl rfl rfl (WpR.of_vc ?_)
    (conv => whnf); (repeat' (first | ((with_reducible refine ifb_mk (fun hc => ?_) (fun hc => ?_)) <;> ((try simp only [decide_eq_true_eq, decide_eq_false_iff_not, Bool.not_eq_true', Bool.not_eq_false', Int.not_lt, Int.not_le, ne_eq, Decidable.not_not, beq_iff_eq, List.cons.injEq, and_true] at hc); (first | (exfalso; omega) | conv => whnf))) | ((with_reducible refine And.intro True.intro ?_); conv => whnf) | ((with_reducible refine And.intro ?hh ?_); (case hh => (unfold InR; (try dsimp only); omega)); conv => whnf) | ((with_reducible refine And.intro ?hh ?_); (case hh => ((try dsimp only); omega)); conv => whnf) | ((with_reducible refine And.intro ?hh ?_); (case hh => ((conv => whnf); (repeat' (first | exact True.intro | rfl | refine And.intro ?_ ?_)); done)); conv => whnf) | fail))
    all_goals (first | (exfalso; omega) | (refine ⟨[], ?_, rfl, rfl, trivial, (by (repeat' (first | exact True.intro | rfl | refine And.intro ?_ ?_)))⟩; simp only [renV, renL]; (first | done | rfl | (simp; omega))))

/-! ### Contracts that are computed -/

def mem (f0 : FuncId) (g : List V → H → Option (V × H)) (k : Memo) : Memo := fun f a h => match Nat.beq f f0 with
  | true => (match g a h with
    | some r => some r
    | none => k f a h)
  | false => k f a h
theorem MemoOk.mem {P : Program} {k : Memo} (hk : MemoOk P k) {f : FuncId} {g : List V → H → Option (V × H)} (hg : ∀ a h v h', g a h = some (v, h') → CallOk P f a h v h') : MemoOk P (mem f g k) := by
  intro f1 a1 h1 v1 h1' he
  unfold Go.Proofs.P.mem at he
  split at he
  · rename_i hf
    split at he
    · rename_i r hv
      cases he
      rw [Nat.eq_of_beq_eq_true hf]
      exact hg a1 h1 v1 h1' hv
    · exact hk _ _ _ _ _ he
  · exact hk _ _ _ _ _ he
def toI : List V → Option (List Int)
  | [] => some []
  | .int .i64 x :: l => (match toI l with | some r => some (x :: r) | none => none)
  | _ => none
theorem toI_some : ∀ {l : List V} {D : List Int}, toI l = some D → l = iVs D
  | [], D, h => by cases h; rfl
  | v :: l, D, h => by
    unfold toI at h
    split at h
    · rename_i heq; cases heq
    · rename_i x l' heq
      cases heq
      split at h
      · rename_i r hr
        cases h
        rw [toI_some hr]; rfl
      · cases h
    · cases h
/-- What stands in the table. -/
def ofEs (N : Nat) (es : List (Value × V × Nat)) : List Int := (List.range N).map fun k => match es.find? (fun e => Nat.beq e.2.2 k) with
  | some (_, .int _ x, _) => x
  | _ => 0
noncomputable def sliceOf (h : H) (b : Nat) : Bool := match h.get b with | some (.cells _ _ _) => true | _ => false
noncomputable def tabForG : List V → H → Option (V × H)
  | [.agg [.int .i64 (.ofNat n), .sl b o len cap ex]], h => (match Nat.ble 1 n && (Nat.ble n 8 && Nat.beq len (n * n)), h.get b with
    | true, some (.cells c _ _) => (match getN c len o with
      | some vs => (match toI vs with
        | some D => (match wi 0 3 D with
          | true => some (.tup [tabV n (.sl b o len cap ex) h.n, .int .i64 0], addBs h [.map (esP n D (nzL D)) len])
          | false => none)
        | none => none)
      | none => none)
    | _, _ => none)
  | _, _ => none
theorem tabForG_ok (a : List V) (h : H) (v : V) (h' : H) (he : tabForG a h = some (v, h')) : CallOk Try.prog 61 a h v h' := by
  unfold tabForG at he
  split at he
  · rename_i n b o len cap ex
    split at he
    · rename_i c w g hk hb
      split at he
      · rename_i vs hvs
        split at he
        · rename_i D hD
          split at he
          · rename_i hw
            cases he
            simp only [Bool.and_eq_true, Nat.ble_eq] at hk
            have hl := Nat.eq_of_beq_eq_true hk.2.2
            have e := toI_some hD
            subst e
            obtain ⟨g1, g2⟩ := getN_spec hvs
            have hlen : D.length = len := by rw [← g1]; unfold iVs; simp
            subst hlen
            exact tableFor_ok h n ⟨hk.1, hk.2.1⟩ D hl hw b o cap ex (.sl hb g2)
          · cases he
        · cases he
      · cases he
    · cases he
  · cases he
noncomputable def tableAt (n len : Nat) (h : H) (j : Nat) : Option (List Int) := match h.get j with
  | some (.map es clock) => (match Nat.beq clock len && eqEs es (esP n (ofEs len es) (nzL (ofEs len es))) with
    | true => some (ofEs len es)
    | false => none)
  | _ => none
theorem tableAt_some {n len : Nat} {h : H} {j : Nat} {D : List Int} (he : tableAt n len h j = some D) : D.length = len ∧ h.get j = some (.map (esP n D (nzL D)) D.length) := by
  unfold tableAt at he
  split at he
  · rename_i es clock hg
    split at he
    · rename_i hk
      cases he
      rw [Bool.and_eq_true] at hk
      have h1 := Nat.eq_of_beq_eq_true hk.1
      have h2 := eqEs_eq hk.2
      have h3 : (ofEs len es).length = len := by unfold ofEs; simp
      refine ⟨h3, ?_⟩
      rw [hg, ← h2, h3, h1]
    · cases he
  · cases he
noncomputable def movedG : List V → H → Option (V × H)
  | [.agg [.int .i64 (.ofNat n), .sl b o len cap ex, .map j], .int .i64 (.ofNat m)], h => (match Nat.ble 1 n && (Nat.ble n 8 && (Nat.beq len (n * n) && (Nat.blt m 8 && sliceOf h b))), tableAt n len h j with
    | true, some D => some (plateV n (.sl h.n 0 len len true), addBs h [.cells (ofL (iVs (movL n m D)) 0) true none])
    | _, _ => none)
  | _, _ => none
theorem sliceOf_c {h : H} {b : Nat} (hb : sliceOf h b = true) {o n cap : Nat} {ex : Bool} : SlC h [] n (.sl b o n cap ex) := by
  unfold sliceOf at hb
  split at hb
  · rename_i c w g hg
    exact .sl hg (fun i v hv => by cases hv)
  · cases hb
theorem no_bare : ∀ v ∈ ([] : List V), bare0 v = true := fun v h => by cases h
theorem movedG_ok (a : List V) (h : H) (v : V) (h' : H) (he : movedG a h = some (v, h')) : CallOk Try.prog 63 a h v h' := by
  unfold movedG at he
  split at he
  · rename_i n b o len cap ex j m
    split at he
    · rename_i D hk hD
      cases he
      simp only [Bool.and_eq_true, Nat.ble_eq, Nat.blt_eq] at hk
      obtain ⟨k1, k2, k3, k4, k5⟩ := hk
      obtain ⟨h1, h2⟩ := tableAt_some hD
      subst h1
      exact moved_ok h n m ⟨k1, k2⟩ k4 D (Nat.eq_of_beq_eq_true k3) [] no_bare b o cap ex (sliceOf_c k5) j h2
    · cases he
  · cases he
noncomputable def comesG : List V → H → Option (V × H)
  | [.agg [.int .i64 (.ofNat n), .sl b o len cap ex, .map j], .agg [.int .i64 (.ofNat n2), .sl b2 o2 len2 cap2 ex2, .map j2], .int .i64 (.ofNat m)], h =>
    (match (Nat.ble 1 n && (Nat.ble n 8 && (Nat.beq len (n * n) && (Nat.blt m 8 && sliceOf h b)))) && (Nat.ble 1 n2 && (Nat.ble n2 8 && (Nat.beq len2 (n2 * n2) && sliceOf h b2))), tableAt n len h j, tableAt n2 len2 h j2, Nat.beq j j2 with
    | true, some D, some E, false => some (.bool (comB n n2 m D E), h)
    | true, some D, some _, true => (match eqV (.agg [.int .i64 (.ofNat n), .sl b o len cap ex, .map j]) (.agg [.int .i64 (.ofNat n2), .sl b2 o2 len2 cap2 ex2, .map j2]) with
      | true => some (.bool (comB n n m D D), h)
      | false => none)
    | _, _, _, _ => none)
  | _, _ => none
theorem comesG_ok (a : List V) (h : H) (v : V) (h' : H) (he : comesG a h = some (v, h')) : CallOk Try.prog 92 a h v h' := by
  unfold comesG at he
  split at he
  · rename_i n b o len cap ex j n2 b2 o2 len2 cap2 ex2 j2 m
    split at he
    · rename_i D E hk hD hE hne
      cases he
      simp only [Bool.and_eq_true, Nat.ble_eq, Nat.blt_eq] at hk
      obtain ⟨⟨k1, k2, k3, k4, k5⟩, q1, q2, q3, q5⟩ := hk
      obtain ⟨h1, h2⟩ := tableAt_some hD
      obtain ⟨g1, g2⟩ := tableAt_some hE
      subst h1
      subst g1
      have hne' : j ≠ j2 := fun hc => by rw [hc, Nat.beq_refl] at hne; cases hne
      exact comesTo_ok h n n2 m ⟨k1, k2⟩ ⟨q1, q2⟩ k4 D E (Nat.eq_of_beq_eq_true k3) (Nat.eq_of_beq_eq_true q3) [] [] no_bare no_bare b o cap ex b2 o2 cap2 ex2 (sliceOf_c k5) (sliceOf_c q5) j j2 hne' h2 g2
    · rename_i D E hk hD hE hne
      split at he
      · rename_i heq
        cases he
        have := eqV_eq heq
        rw [← this]
        simp only [Bool.and_eq_true, Nat.ble_eq, Nat.blt_eq] at hk
        obtain ⟨⟨k1, k2, k3, k4, k5⟩, q1, q2, q3, q5⟩ := hk
        obtain ⟨h1, h2⟩ := tableAt_some hD
        subst h1
        exact comesSelf_ok h n m ⟨k1, k2⟩ k4 D (Nat.eq_of_beq_eq_true k3) [] no_bare b o cap ex (sliceOf_c k5) j h2
      · cases he
    · cases he
  · cases he
noncomputable def k2 : Memo := mem 61 tabForG (mem 63 movedG (mem 92 comesG
  (tab 71 (n2G (fun a b => Nat.blt a 8 && Nat.blt b 8) fun a b => nV (aftN a b)) (tab 73 (n1G (fun a => Nat.blt a 8) fun a => nV (invN a)) k1))))
theorem k2_ok : MemoOk Try.prog k2 := by
  refine MemoOk.mem (MemoOk.mem (MemoOk.mem (MemoOk.tab (MemoOk.tab k1_ok (fun a v h hh => ?_)) (fun a v h hh => ?_)) comesG_ok) movedG_ok) tabForG_ok
  · obtain ⟨x, rfl, hk, rfl⟩ := n1G_some h
    simp only [Nat.blt_eq] at hk
    exact inverse_ok hh x hk
  · obtain ⟨x, y, rfl, hk, rfl⟩ := n2G_some h
    simp only [Bool.and_eq_true, Nat.blt_eq] at hk
    exact after_ok hh x y hk.1 hk.2
end Go.Proofs.P

namespace Go.Proofs.P
open Go.As
set_option maxRecDepth 20000
set_option linter.unusedVariables false
set_option linter.unusedSimpArgs false
theorem wwhole : CallOk Try.prog 18 [] H.empty (.bool .true) H.empty := .of_chk mixed k2_ok 3000 (by kernel_rfl)
theorem works_any (h : H) : CallOk Try.prog 18 [] h (.bool true) h := wwhole.everywhere rfl h
end Go.Proofs.P
