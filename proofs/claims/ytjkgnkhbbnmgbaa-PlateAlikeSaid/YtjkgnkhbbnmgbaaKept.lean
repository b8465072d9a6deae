/- What the functions answer that the laws call, one after another (Kept). -/
import Derived.Test.YtjkgnkhbbnmgbaaAs6
import Derived.Test.YtjkgnkhbbnmgbaaMv

set_option linter.unusedVariables false
namespace Go.Proofs.P
open Go.As
set_option maxRecDepth 20000
set_option linter.unusedVariables false
set_option linter.unusedSimpArgs false

theorem has_ok (h : H) (L : List Int) (x : Int) (lv : V) (hl : L.length ≤ 9223372036854775807) (hs : SlC h (iVs L) L.length lv) : CallOk Try.prog 54 [lv, .int .i64 x] h (.bool (decide (x ∈ L))) h := by
  obtain ⟨vo, svC, hsv, hca, hvw⟩ := hs.view 0
  have hB := @iVs_bare L
  refine CallOk.run Try.func54 rfl rfl (argsC := [svC, .int .i64 x]) (Nat.le_of_ble_eq_true rfl) [vo] (.cons (hca _ rfl) (.cons (.bare rfl) .nil)) (viewMc1 iVs_bare hvw) rfl (WpR.of_vc ?_)
  cases hsv with
  | nil h0 =>
    have e : L = [] := List.eq_nil_of_length_eq_zero h0
    subst e
    (conv => whnf); (repeat' (first | ((with_reducible refine ifb_mk (fun hc => ?_) (fun hc => ?_)) <;> ((try simp only [decide_eq_true_eq, decide_eq_false_iff_not, Bool.not_eq_true', Bool.not_eq_false', Int.not_lt, Int.not_le, ne_eq, Decidable.not_not, beq_iff_eq, List.cons.injEq, and_true] at hc); (first | (exfalso; omega) | conv => whnf))) | ((with_reducible refine And.intro True.intro ?_); conv => whnf) | ((with_reducible refine WpR.loopU 2 ?_); conv => whnf) | ((with_reducible refine And.intro ?hh ?_); (case hh => (unfold InR; (try dsimp only); omega)); conv => whnf) | ((with_reducible refine And.intro ?hh ?_); (case hh => ((try dsimp only); omega)); conv => whnf) | ((with_reducible refine And.intro ?hh ?_); (case hh => ((conv => whnf); (repeat' (first | exact True.intro | rfl | refine And.intro ?_ ?_)); done)); conv => whnf) | fail))
    (refine ⟨[], ?_, rfl, rfl, trivial, (by (repeat' (first | exact True.intro | rfl | refine And.intro ?_ ?_)))⟩; simp only [renV, renL]; (first | done | rfl | simp | grind))
  | @sl cap ex =>
    (conv => whnf); (repeat' (first | ((with_reducible refine ifb_mk (fun hc => ?_) (fun hc => ?_)) <;> ((try simp only [decide_eq_true_eq, decide_eq_false_iff_not, Bool.not_eq_true', Bool.not_eq_false', Int.not_lt, Int.not_le, ne_eq, Decidable.not_not, beq_iff_eq, List.cons.injEq, and_true] at hc); (first | (exfalso; omega) | conv => whnf))) | ((with_reducible refine And.intro True.intro ?_); conv => whnf) | ((with_reducible refine And.intro ?hh ?_); (case hh => (unfold InR; (try dsimp only); omega)); conv => whnf) | ((with_reducible refine And.intro ?hh ?_); (case hh => ((try dsimp only); omega)); conv => whnf) | ((with_reducible refine And.intro ?hh ?_); (case hh => ((conv => whnf); (repeat' (first | exact True.intro | rfl | refine And.intro ?_ ?_)); done)); conv => whnf) | fail))
    show WpR Try.prog _ _ _ _ ⟨_, _, _, ⟨_, 1, 0⟩⟩ _
    refine WpR.loopD (ι := Nat) [] [0, 1] [] [] 1 (fun i => [(5, .int .i64 i)]) (fun _ => []) (fun i => L.length - i) (fun i => i ≤ L.length ∧ decide (x ∈ L) = decide (x ∈ L.drop i)) ?_ (0) (⟨Nat.zero_le _, rfl⟩) [] ⟨rfl, rfl, (by (repeat' (first | exact True.intro | rfl | refine And.intro ?_ ?_))), (by (repeat' (first | exact True.intro | rfl | refine And.intro ?_ ?_))), (by (repeat' (first | exact True.intro | rfl | refine And.intro ?_ ?_))), (by (repeat' (first | exact True.intro | exact Or.inl rfl | refine And.intro ?_ ?_ | refine Or.inr ⟨_, rfl, ?_⟩ | exact SubQ.same (n := 1000) (Y := []) (fun _ _ _ => rfl) (by first | exact True.intro | exact ltB_all rfl | exact ltB_ofLb (by first | exact bare0_ints | assumption | exact bVs_bare | exact iVs_bare | exact mVs_bare | (intro v hv; (repeat (rcases List.mem_cons.1 hv with rfl | hv; exact rfl)); cases hv)) | exact ltB_loop rfl rfl | exact hMap _ | exact hMap2 _ | exact grB_lt (by first | exact bare0_ints | assumption | exact bVs_bare | exact iVs_bare | exact mVs_bare | (intro v hv; (repeat (rcases List.mem_cons.1 hv with rfl | hv; exact rfl)); cases hv)) _ | exact ltB_encL | exact ltB_map0 | assumption) (avB_nil _) rfl | exact SubQ.ofL (by first | rfl | simp) (by first | exact bare0_ints | assumption | exact bVs_bare | exact iVs_bare | exact mVs_bare | (intro v hv; (repeat (rcases List.mem_cons.1 hv with rfl | hv; exact rfl)); cases hv)) (by first | exact Or.inl rfl | exact Or.inr rfl) | exact SubQ.fin (by (conv => whnf); (repeat' (first | exact True.intro | rfl | refine And.intro ?_ ?_)); done) (fun h => h) (by first | exact Or.inl rfl | exact Or.inr rfl)))), rfl, rfl⟩ rfl rfl rfl (fun _ => rfl) (by (repeat' (first | exact True.intro | refine And.intro ?_ ?_ | exact avV_nil _ | rfl))) (by (repeat' (first | exact True.intro | (with_reducible exact avB_nil _) | ((with_reducible refine avB_all ?_); rfl) | ((with_reducible refine avB_ofLb ?_); exact (by first | exact bare0_ints | assumption | exact bVs_bare | exact iVs_bare | exact mVs_bare | (intro v hv; (repeat (rcases List.mem_cons.1 hv with rfl | hv; exact rfl)); cases hv))) | ((with_reducible refine ltB_all ?_); rfl) | ((with_reducible refine ltB_ofLb ?_); exact (by first | exact bare0_ints | assumption | exact bVs_bare | exact iVs_bare | exact mVs_bare | (intro v hv; (repeat (rcases List.mem_cons.1 hv with rfl | hv; exact rfl)); cases hv))) | ((with_reducible refine ltB_loop ?_ ?_) <;> rfl) | (with_reducible exact hMap _) | (with_reducible exact hMap2 _) | (with_reducible exact ltB_encL) | (with_reducible exact ltB_map0) | ((with_reducible refine grB_lt ?_ _); exact (by first | exact bare0_ints | assumption | exact bVs_bare | exact iVs_bare | exact mVs_bare | (intro v hv; (repeat (rcases List.mem_cons.1 hv with rfl | hv; exact rfl)); cases hv))) | (with_reducible assumption) | refine And.intro ?_ ?_ | exact (by first | exact True.intro | exact ltB_all rfl | exact ltB_ofLb (by first | exact bare0_ints | assumption | exact bVs_bare | exact iVs_bare | exact mVs_bare | (intro v hv; (repeat (rcases List.mem_cons.1 hv with rfl | hv; exact rfl)); cases hv)) | exact ltB_loop rfl rfl | exact hMap _ | exact hMap2 _ | exact grB_lt (by first | exact bare0_ints | assumption | exact bVs_bare | exact iVs_bare | exact mVs_bare | (intro v hv; (repeat (rcases List.mem_cons.1 hv with rfl | hv; exact rfl)); cases hv)) _ | exact ltB_encL | exact ltB_map0 | assumption)))) (fun _ _ => (by (repeat' (first | exact True.intro | rfl | refine And.intro ?_ ?_ | exact (by decide) | exact (by first | exact True.intro | exact hMap _ | exact hMap2 _ | exact grB_lt (by first | exact bare0_ints | assumption | exact bVs_bare | exact iVs_bare | exact mVs_bare | (intro v hv; (repeat (rcases List.mem_cons.1 hv with rfl | hv; exact rfl)); cases hv)) _ | exact ltB_all rfl | exact ltB_ofLb (by first | exact bare0_ints | assumption | exact bVs_bare | exact iVs_bare | exact mVs_bare | (intro v hv; (repeat (rcases List.mem_cons.1 hv with rfl | hv; exact rfl)); cases hv)) | exact ltB_loop rfl rfl | exact ltB_encL | exact ltB_map0 | assumption))))) (fun _ _ => (by (repeat' (first | exact True.intro | rfl | refine And.intro ?_ ?_ | exact (by decide) | exact (by first | exact True.intro | exact hMap _ | exact hMap2 _ | exact grB_lt (by first | exact bare0_ints | assumption | exact bVs_bare | exact iVs_bare | exact mVs_bare | (intro v hv; (repeat (rcases List.mem_cons.1 hv with rfl | hv; exact rfl)); cases hv)) _ | exact ltB_all rfl | exact ltB_ofLb (by first | exact bare0_ints | assumption | exact bVs_bare | exact iVs_bare | exact mVs_bare | (intro v hv; (repeat (rcases List.mem_cons.1 hv with rfl | hv; exact rfl)); cases hv)) | exact ltB_loop rfl rfl | exact ltB_encL | exact ltB_map0 | assumption))))) (fun _ _ => (by (repeat' (first | exact True.intro | rfl | refine And.intro ?_ ?_)))) rfl
    rintro i ⟨h1, hP⟩
    refine WpR.of_vc ?_
    cases hx : L[i]? with
    | some y =>
      have hlt := (List.getElem?_eq_some_iff.1 hx).1
      rw [drop_at hx] at hP
      (conv => whnf); (repeat' (first | ((with_reducible refine ifb_mk (fun hc => ?_) (fun hc => ?_)) <;> ((try simp only [decide_eq_true_eq, decide_eq_false_iff_not, Bool.not_eq_true', Bool.not_eq_false', Int.not_lt, Int.not_le, ne_eq, Decidable.not_not, beq_iff_eq, List.cons.injEq, and_true] at hc); (first | (exfalso; omega) | conv => whnf))) | ((with_reducible refine And.intro True.intro ?_); conv => whnf) | ((with_reducible refine grd_get ?_); refine som_mk (a := ?_) ?hh ?_; (case hh => exact iGet hx); conv => whnf) | ((with_reducible refine And.intro ?hh ?_); (case hh => (unfold InR; (try dsimp only); omega)); conv => whnf) | ((with_reducible refine And.intro ?hh ?_); (case hh => ((try dsimp only); omega)); conv => whnf) | ((with_reducible refine And.intro ?hh ?_); (case hh => ((conv => whnf); (repeat' (first | exact True.intro | rfl | refine And.intro ?_ ?_)); done)); conv => whnf) | fail))
      · have e : decide (x ∈ L) = true := by rw [hP]; exact decide_eq_true (by rw [hc]; exact List.mem_cons_self)
        rw [e]; (refine ⟨[], ?_, rfl, rfl, trivial, (by (repeat' (first | exact True.intro | rfl | refine And.intro ?_ ?_)))⟩; simp only [renV, renL]; (first | done | rfl | simp | grind))
      · exact ⟨i + 1, [], by omega, ⟨by omega, by rw [hP]; exact decide_eq_decide.2 ⟨fun h => (List.mem_cons.1 h).resolve_left (fun h => hc h.symm), List.mem_cons_of_mem _⟩⟩, ⟨rfl, rfl, (by (repeat' (first | exact True.intro | rfl | refine And.intro ?_ ?_))), (by (repeat' (first | exact True.intro | rfl | refine And.intro ?_ ?_))), (by (repeat' (first | exact True.intro | rfl | refine And.intro ?_ ?_))), (by (repeat' (first | exact True.intro | exact Or.inl rfl | refine And.intro ?_ ?_ | refine Or.inr ⟨_, rfl, ?_⟩ | exact SubQ.same (n := 1000) (Y := []) (fun _ _ _ => rfl) (by first | exact True.intro | exact ltB_all rfl | exact ltB_ofLb (by first | exact bare0_ints | assumption | exact bVs_bare | exact iVs_bare | exact mVs_bare | (intro v hv; (repeat (rcases List.mem_cons.1 hv with rfl | hv; exact rfl)); cases hv)) | exact ltB_loop rfl rfl | exact hMap _ | exact hMap2 _ | exact grB_lt (by first | exact bare0_ints | assumption | exact bVs_bare | exact iVs_bare | exact mVs_bare | (intro v hv; (repeat (rcases List.mem_cons.1 hv with rfl | hv; exact rfl)); cases hv)) _ | exact ltB_encL | exact ltB_map0 | assumption) (avB_nil _) rfl | exact SubQ.ofL (by first | rfl | simp) (by first | exact bare0_ints | assumption | exact bVs_bare | exact iVs_bare | exact mVs_bare | (intro v hv; (repeat (rcases List.mem_cons.1 hv with rfl | hv; exact rfl)); cases hv)) (by first | exact Or.inl rfl | exact Or.inr rfl) | exact SubQ.fin (by (conv => whnf); (repeat' (first | exact True.intro | rfl | refine And.intro ?_ ?_)); done) (fun h => h) (by first | exact Or.inl rfl | exact Or.inr rfl)))), rfl, rfl⟩⟩
    | none =>
      have hlen : L.length ≤ i := by simpa using hx
      (conv => whnf); (repeat' (first | ((with_reducible refine ifb_mk (fun hc => ?_) (fun hc => ?_)) <;> ((try simp only [decide_eq_true_eq, decide_eq_false_iff_not, Bool.not_eq_true', Bool.not_eq_false', Int.not_lt, Int.not_le, ne_eq, Decidable.not_not, beq_iff_eq, List.cons.injEq, and_true] at hc); (first | (exfalso; omega) | conv => whnf))) | ((with_reducible refine And.intro True.intro ?_); conv => whnf) | ((with_reducible refine And.intro ?hh ?_); (case hh => (unfold InR; (try dsimp only); omega)); conv => whnf) | ((with_reducible refine And.intro ?hh ?_); (case hh => ((try dsimp only); omega)); conv => whnf) | ((with_reducible refine And.intro ?hh ?_); (case hh => ((conv => whnf); (repeat' (first | exact True.intro | rfl | refine And.intro ?_ ?_)); done)); conv => whnf) | fail))
      have e : decide (x ∈ L) = false := by rw [hP, List.drop_eq_nil_of_le hlen]; rfl
      rw [e]; (refine ⟨[], ?_, rfl, rfl, trivial, (by (repeat' (first | exact True.intro | rfl | refine And.intro ?_ ?_)))⟩; simp only [renV, renL]; (first | done | rfl | simp | grind))

/-! ### How many dots of each class there are -/

def cn (L : List Int) (i c : Nat) : Int := (((L.take i).count (c : Int) : Nat) : Int)
theorem cn_succ {L : List Int} {i : Nat} {x : Nat} (hx : L[i]? = some (x : Int)) (c : Nat) : cn L (i + 1) c = cn L i c + (if c = x then 1 else 0) := by
  unfold cn
  rw [List.take_add_one, hx, List.count_append]
  by_cases h : c = x
  · subst h; simp
  · have : (x : Int) ≠ (c : Int) := by omega
    simp [h, List.count_cons, this]
theorem cn_bd (L : List Int) (i c : Nat) : 0 ≤ cn L i c ∧ cn L i c ≤ i := by
  unfold cn
  have h1 := List.count_le_length (a := (c : Int)) (l := L.take i)
  have h2 : (L.take i).length ≤ i := List.length_take_le _ _
  omega
def df (D Q : List Int) (i c : Nat) : Int := cn D i c - cn Q i c
def dfL (D Q : List Int) (i : Nat) : List Int := [df D Q i 0, df D Q i 1, df D Q i 2, df D Q i 3]
theorem dfL_at (D Q : List Int) (i c : Nat) (hc : c < 4) : (dfL D Q i)[c]? = some (df D Q i c) := by
  match c, hc with
  | 0, _ => rfl
  | 1, _ => rfl
  | 2, _ => rfl
  | 3, _ => rfl
theorem dfL_set (D Q : List Int) (i x y : Nat) (hx : x < 4) (hy : y < 4) (h1 : D[i]? = some (x : Int)) (h2 : Q[i]? = some (y : Int)) :
    dfL D Q (i + 1) = ((dfL D Q i).set x (df D Q i x + 1)).set y ((if x = y then df D Q i y + 1 else df D Q i y) - 1) := by
  have e : ∀ c, df D Q (i + 1) c = df D Q i c + (if c = x then 1 else 0) - (if c = y then 1 else 0) := fun c => by
    unfold df
    rw [cn_succ h1, cn_succ h2]
    omega
  unfold dfL
  rw [e, e, e, e]
  match x, hx, y, hy with
  | 0, _, 0, _ | 0, _, 1, _ | 0, _, 2, _ | 0, _, 3, _ | 1, _, 0, _ | 1, _, 1, _ | 1, _, 2, _ | 1, _, 3, _ | 2, _, 0, _ | 2, _, 1, _ | 2, _, 2, _ | 2, _, 3, _ | 3, _, 0, _ | 3, _, 1, _ | 3, _, 2, _ | 3, _, 3, _ => simp <;> omega
theorem mov_perm {n m : Nat} {D : List Int} (hn : n ≤ 8) (hm : m < 8) (hD : D.length = n * n) : (movL n m D).Perm D := by
  have h1 := (sg_perm (n := n) hn (inv_lt hm)).map (fun k => D.getD k 0)
  rw [← hD, List.map_map] at h1
  have e1 : (List.range D.length).map ((fun k => D.getD k 0) ∘ sgN n (invN m)) = movL n m D := rfl
  have e2 : (List.range D.length).map (fun k => D.getD k 0) = D := by
    refine getD_ext (by simp) fun j hj => ?_
    rw [List.length_map, List.length_range] at hj
    rw [List.getD_eq_getElem?_getD, List.getElem?_map, List.getElem?_range hj]
    rfl
  rw [e1, e2] at h1
  exact h1
theorem dfL_end {n m : Nat} {D : List Int} (hn : n ≤ 8) (hm : m < 8) (hD : D.length = n * n) : dfL D (movL n m D) D.length = [0, 0, 0, 0] := by
  have hp := mov_perm hn hm hD
  have e : ∀ c, df D (movL n m D) D.length c = 0 := fun c => by
    unfold df cn
    rw [List.take_of_length_le (Nat.le_refl _), List.take_of_length_le (by rw [movL_len]; exact Nat.le_refl _), hp.count_eq]
    omega
  unfold dfL
  rw [e, e, e, e]

/-! ### Rows that read alike from both ends -/

def rowAll : Bool := (List.range 9).all fun n => (List.range (n * n)).all fun i => Nat.beq (sgN n 2 (n * n - 1 - i)) i && Nat.blt (sgN n 4 i) (n * n)
theorem rowAll_ok : rowAll = true := by kernel_rfl
theorem row_facts {n i : Nat} (hn : n ≤ 8) (hi : i < n * n) : sgN n 2 (n * n - 1 - i) = i ∧ sgN n 4 i < n * n := by
  have h1 := all_range (all_range rowAll_ok (show n < 9 by omega)) hi
  simp only [Bool.and_eq_true, Nat.blt_eq] at h1
  exact ⟨Nat.eq_of_beq_eq_true h1.1, h1.2⟩
def alB (n : Nat) (D : List Int) (i : Nat) : Bool := (List.range i).all fun j => D.getD j 0 == D.getD (sgN n 4 j) 0
theorem alB_succ (n : Nat) (D : List Int) (i : Nat) : alB n D (i + 1) = (alB n D i && (D.getD i 0 == D.getD (sgN n 4 i) 0)) := by
  unfold alB
  rw [List.range_succ, List.all_append]
  simp
theorem alB_end {n : Nat} {D : List Int} (hn : n ≤ 8) (hD : D.length = n * n) : alB n D D.length = decide ((4 : Int) ∈ stL n D 8) := by
  have h1 : decide ((4 : Int) ∈ stL n D 8) = comB n n 4 D D := by
    cases hc : comB n n 4 D D with
    | true =>
      refine decide_eq_true ?_
      unfold stL
      exact List.mem_map.2 ⟨4, List.mem_filter.2 ⟨by decide, hc⟩, rfl⟩
    | false =>
      refine decide_eq_false fun hm => ?_
      unfold stL at hm
      obtain ⟨j, hj, e⟩ := List.mem_map.1 hm
      have : j = 4 := by injection e
      subst this
      have h2 := (List.mem_filter.1 hj).2
      rw [hc] at h2
      exact Bool.false_ne_true h2
  rw [h1, comB_eq hn (by decide) hD hD, Bool.eq_iff_iff, decide_eq_true_eq]
  unfold alB
  rw [List.all_eq_true]
  constructor
  · intro h
    refine getD_ext (by rw [movL_len]) fun j hj => ?_
    rw [movL_len] at hj
    rw [movL_at hj]
    exact (beq_iff_eq.1 (h j (List.mem_range.2 hj))).symm
  · intro h j hj
    rw [beq_iff_eq]
    have e := movL_at (m := 4) (n := n) (List.mem_range.1 hj)
    rw [h] at e
    exact e
end Go.Proofs.P

namespace Go.Proofs.P
open Go.As
set_option maxRecDepth 20000
set_option linter.unusedVariables false
set_option linter.unusedSimpArgs false

theorem setget {M : List Int} {x y : Nat} {v w : Int} (hx : x < M.length) (hy : (M.set x v)[y]? = some w) : ((ofL (iVs M) 0).set (0 + (x : Int).toNat * 1) (.int .i64 v)).get (0 + (y : Int).toNat * 1) = some (.int .i64 w) := by
  rw [show 0 + (x : Int).toNat * 1 = x from by simp, show 0 + (y : Int).toNat * 1 = y from by simp, ofL_set_get (by unfold iVs; rw [List.length_map]; exact hx)]
  refine get_ofL0 ?_
  have : (iVs M).set x (.int .i64 v) = iVs (M.set x v) := by unfold iVs; rw [List.map_set]
  rw [this]
  unfold iVs
  rw [List.getElem?_map, hy]; rfl
theorem setput {M : List Int} {x y : Nat} {v w : Int} (hx : x < M.length) (hy : y < M.length) : putN [.int .i64 w] ((ofL (iVs M) 0).set (0 + (x : Int).toNat * 1) (.int .i64 v)) (0 + (y : Int).toNat * 1) = some (((ofL (iVs M) 0).set (0 + (x : Int).toNat * 1) (.int .i64 v)).set (0 + (y : Int).toNat * 1) (.int .i64 w)) :=
  putN_one (setget hx (List.getElem?_eq_getElem (by rw [List.length_set]; exact hy)))
theorem setsub {M : List Int} {x y : Nat} {v w : Int} (hx : x < M.length) (hy : y < M.length) : SubQ (rho []) (.cells (ofL (iVs ((M.set x v).set y w)) 0) true none) (.cells (((ofL (iVs M) 0).set (0 + (x : Int).toNat * 1) (.int .i64 v)).set (0 + (y : Int).toNat * 1) (.int .i64 w)) true none) := by
  refine SubQ.bare (fun i u hv => ⟨?_, ofL_bare iVs_bare i u hv⟩) (fun h => h) (.inl rfl)
  rw [show 0 + (x : Int).toNat * 1 = x from by simp, show 0 + (y : Int).toNat * 1 = y from by simp]
  rw [Tr.get_set]
  by_cases hi : i = y
  · subst hi
    rw [if_pos rfl]
    rw [get_ofL, if_pos (Nat.zero_le _), Nat.sub_zero] at hv
    unfold iVs at hv
    rw [List.getElem?_map, List.getElem?_set_self (by rw [List.length_set]; exact hy)] at hv
    exact hv
  · rw [if_neg hi, ofL_set_get (by unfold iVs; rw [List.length_map]; exact hx)]
    have : (iVs M).set x (.int .i64 v) = iVs (M.set x v) := by unfold iVs; rw [List.map_set]
    rw [this]
    rw [get_ofL, if_pos (Nat.zero_le _), Nat.sub_zero] at hv ⊢
    unfold iVs at hv ⊢
    rw [List.getElem?_map] at hv ⊢
    rw [List.getElem?_set_ne (fun h => hi h.symm)] at hv
    exact hv

theorem eq4 {x y : Operand} {a b c d : Int} (h : [a, b, c, d] = [0, 0, 0, 0]) : slow Try.prog .eql 68 x y (.agg [.int .i64 a, .int .i64 b, .int .i64 c, .int .i64 d]) (.agg [.int .i64 0, .int .i64 0, .int .i64 0, .int .i64 0]) = some (.bool true) := by
  have := slow_eql (P := Try.prog) (t := 68) (k := 4) (by kernel_rfl) (x := x) (y := y) [a, b, c, d] [0, 0, 0, 0]
  rw [decide_eq_true h] at this
  exact this
set_option maxHeartbeats 8000000 in
theorem plateKept_ok (h : H) (n : Int) (D : List Int) (hl : D.length ≤ 9223372036854775807) (dv : V) (hs : SlC h (iVs D) D.length dv) (a : Int) (ha : 0 ≤ a ∧ a ≤ 255) :
    CallOk Try.prog 14 [plateV n dv, .int .u8 a] h (.bool true) h := by
  obtain ⟨vo, svC, hsv, hca, hvw⟩ := hs.view 0
  refine CallOk.run Try.func14 rfl rfl (argsC := [plateV n svC, .int .u8 a]) (Nat.le_of_ble_eq_true rfl) [vo] (.cons (CaL.agg (.cons (.bare rfl) (.cons (hca _ rfl) .nil))) (.cons (.bare rfl) .nil)) (viewMc1 iVs_bare hvw) rfl (WpR.of_vc ?_)
  have kF := fun h' dv hs => fine_ok h' n D hl dv hs
  cases hf : fineB n D with
  | false =>
    rw [hf] at kF
    cases hsv
    all_goals
      (conv => whnf); (repeat' (first | ((with_reducible refine ifb_mk (fun hc => ?_) (fun hc => ?_)) <;> ((try simp only [decide_eq_true_eq, decide_eq_false_iff_not, Bool.not_eq_true', Bool.not_eq_false', Int.not_lt, Int.not_le, ne_eq, Decidable.not_not, beq_iff_eq, List.cons.injEq, and_true] at hc); (first | (exfalso; omega) | conv => whnf))) | ((with_reducible refine And.intro True.intro ?_); conv => whnf) | ((with_reducible refine CallX.all ?_); refine CallW.of_ok (kF _ _ (by first | exact SlC.own rfl | exact iNil (by omega))) ?_; conv => whnf) | ((with_reducible refine CallX.all ?_); refine CallW.of_ok (works_any _) ?_; conv => whnf) | ((with_reducible refine And.intro ?hh ?_); (case hh => (unfold InR; (try dsimp only); omega)); conv => whnf) | ((with_reducible refine And.intro ?hh ?_); (case hh => ((try dsimp only); omega)); conv => whnf) | ((with_reducible refine And.intro ?hh ?_); (case hh => ((conv => whnf); (repeat' (first | exact True.intro | rfl | refine And.intro ?_ ?_)); done)); conv => whnf) | fail))
      (refine ⟨[], ?_, rfl, rfl, trivial, (by (repeat' (first | exact True.intro | rfl | refine And.intro ?_ ?_)))⟩; simp only [renV, renL]; (first | done | rfl | simp | grind))
  | true =>
    rw [hf] at kF
    obtain ⟨k, rfl, hk, hD, hw⟩ := ck_valid (fine_ck hf)
    cases hsv with
    | nil h0 => exfalso; rw [hD] at h0; have := Nat.mul_le_mul hk.1 hk.1; omega
    | @sl cap ex =>
      have hB := @iVs_bare D
      (conv => whnf); (repeat' (first | ((with_reducible refine ifb_mk (fun hc => ?_) (fun hc => ?_)) <;> ((try simp only [decide_eq_true_eq, decide_eq_false_iff_not, Bool.not_eq_true', Bool.not_eq_false', Int.not_lt, Int.not_le, ne_eq, Decidable.not_not, beq_iff_eq, List.cons.injEq, and_true] at hc); (first | (exfalso; omega) | conv => whnf))) | ((with_reducible refine And.intro True.intro ?_); conv => whnf) | ((with_reducible refine CallX.all ?_); refine CallW.of_ok (kF _ _ (SlC.own rfl)) ?_; conv => whnf) | ((with_reducible refine And.intro ?hh ?_); (case hh => (unfold InR; (try dsimp only); omega)); conv => whnf) | ((with_reducible refine And.intro ?hh ?_); (case hh => ((try dsimp only); omega)); conv => whnf) | ((with_reducible refine And.intro ?hh ?_); (case hh => ((conv => whnf); (repeat' (first | exact True.intro | rfl | refine And.intro ?_ ?_)); done)); conv => whnf) | fail))
      obtain ⟨x, hx, ex1⟩ := x8 ha
      rw [ex1]
      have hlt : D.length ≤ 64 := by rw [hD]; exact Nat.mul_le_mul hk.2 hk.2
      have a1 := fun h' hs' => moveP_ok h' k x hk hx D hD hw 0 0 cap ex hs'
      have a2 := fun h' hs' => moveP_ok h' k 2 hk (by decide) D hD hw 0 0 cap ex hs'
      have kS := fun h' hs' => staysP_ok h' k hk D hD hw 0 0 cap ex hs'
      have hfq : ∀ m, fineB k (movL k m D) = true := fun m => by
        unfold fineB ckP
        rw [movL_len, if_pos (by omega), if_pos (by rw [hD]; simp), if_pos (wi_mov hw), decide_eq_true (show D.length ≤ 80 by omega)]; rfl
      have kQ := fun h' dv hs' => fine_ok h' k (movL k x D) (by rw [movL_len]; omega) dv hs'
      have kT := fun h' dv hs' => fine_ok h' k (movL k 2 D) (by rw [movL_len]; omega) dv hs'
      rw [hfq, movL_len] at kQ kT
      obtain ⟨t, ht⟩ := stL_zero (D := D) hk 7
      have hH := alB_end hk.2 hD
      have hend := dfL_end (m := x) hk.2 hx hD
      have hQw : ∀ j, 0 ≤ (movL k x D).getD j 0 ∧ (movL k x D).getD j 0 ≤ 3 := wi_mem (wi_mov hw)
      have hDw : ∀ j, 0 ≤ D.getD j 0 ∧ D.getD j 0 ≤ 3 := wi_mem hw
      have hTat : ∀ j, j < D.length → (movL k 2 D)[D.length - 1 - j]? = some (D.getD j 0) := fun j hj => by
        have e := movL_at (n := k) (m := 2) (D := D) (show D.length - 1 - j < D.length by omega)
        have hr := (row_facts hk.2 (show j < k * k by omega)).1
        rw [← hD] at hr
        have e2 : sgN k (invN 2) (D.length - 1 - j) = j := hr
        rw [e2] at e
        rw [List.getElem?_eq_getElem (by rw [movL_len]; omega), ← e, List.getD_eq_getElem?_getD, List.getElem?_eq_getElem (by rw [movL_len]; omega)]
        rfl
      have hQl : (movL k x D).length = D.length := movL_len _ _ _
      have hTl : (movL k 2 D).length = D.length := movL_len _ _ _
      have hlS := stL_len k D 8
      rw [ht] at kS hH hlS
      rw [List.length_cons] at hlS
      have kH := fun h' lv hs' => has_ok h' (0 :: t) 4 lv (by rw [List.length_cons]; omega) hs'
      generalize movL k x D = Q at *
      generalize movL k 2 D = T at *
      have wQ : ∀ {K : V → H → Prop} (h' : H) (hs' : SlC h' (iVs D) D.length (.sl 0 0 D.length cap ex)), (addNP h' (fun _ => [.cells (ofL (iVs Q) 0) true none]) fun N h' => K (.tup [plateV k (.sl N 0 D.length D.length true), .int .i64 0]) h') → CallW Try.prog [] 19 [plateV k (.sl 0 0 D.length cap ex), nV x] h' K := fun h' hs' hK => CallW.of_new (a1 h' hs') hK
      have wT : ∀ {K : V → H → Prop} (h' : H) (hs' : SlC h' (iVs D) D.length (.sl 0 0 D.length cap ex)), (addNP h' (fun _ => [.cells (ofL (iVs T) 0) true none]) fun N h' => K (.tup [plateV k (.sl N 0 D.length D.length true), .int .i64 0]) h') → CallW Try.prog [] 19 [plateV k (.sl 0 0 D.length cap ex), .int .i64 2] h' K := fun h' hs' hK => CallW.of_new (show CallOk Try.prog 19 [plateV k (.sl 0 0 D.length cap ex), .int .i64 2] h' (.tup [plateV k (.sl h'.n 0 D.length D.length true), .int .i64 0]) (addBs h' [.cells (ofL (iVs T) 0) true none]) from a2 h' hs') hK
      have wS : ∀ {K : V → H → Prop} (h' : H) (hs' : SlC h' (iVs D) D.length (.sl 0 0 D.length cap ex)), (addNP h' (fun _ => growB (0 :: t)) fun N h' => K (.tup [grV N (0 :: t).length, .int .i64 0]) h') → CallW Try.prog [] 21 [plateV k (.sl 0 0 D.length cap ex)] h' K := fun h' hs' hK => CallW.of_new (kS h' hs') hK
      (conv => whnf); (repeat' (first | ((with_reducible refine ifb_mk (fun hc => ?_) (fun hc => ?_)) <;> ((try simp only [decide_eq_true_eq, decide_eq_false_iff_not, Bool.not_eq_true', Bool.not_eq_false', Int.not_lt, Int.not_le, ne_eq, Decidable.not_not, beq_iff_eq, List.cons.injEq, and_true] at hc); (first | (exfalso; omega) | conv => whnf))) | ((with_reducible refine And.intro True.intro ?_); conv => whnf) | ((with_reducible refine CallX.all ?_); refine wQ _ (SlC.own rfl) ?_; conv => whnf) | ((with_reducible refine CallX.all ?_); refine wT _ (SlC.own rfl) ?_; conv => whnf) | ((with_reducible refine CallX.all ?_); refine wS _ (SlC.own rfl) ?_; conv => whnf) | ((with_reducible refine CallX.all ?_); refine CallW.of_ok (kQ _ _ (SlC.own rfl)) ?_; conv => whnf) | ((with_reducible refine CallX.all ?_); refine CallW.of_ok (kT _ _ (SlC.own rfl)) ?_; conv => whnf) | ((with_reducible refine And.intro ?hh ?_); (case hh => (unfold InR; (try dsimp only); omega)); conv => whnf) | ((with_reducible refine And.intro ?hh ?_); (case hh => ((try dsimp only); omega)); conv => whnf) | ((with_reducible refine And.intro ?hh ?_); (case hh => ((conv => whnf); (repeat' (first | exact True.intro | rfl | refine And.intro ?_ ?_)); done)); conv => whnf) | fail))
      · exact (hc trivial).elim
      · exact (hc trivial).elim
      have hs0 : dfL D Q 0 = [0, 0, 0, 0] := by unfold dfL df cn; simp
      have hMap : ∀ i : Nat, ltB 8 (.cells (ofL (iVs (dfL D Q i)) 0) true none) := fun i => ltB_ofLb iVs_bare
      have hq0 : SubQ (rho []) (.cells (ofL (iVs (dfL D Q 0)) 0) true none) (.cells (ofL [.int .i64 0, .int .i64 0, .int .i64 0, .int .i64 0] 0) true none) := by
        rw [hs0]; exact SubQ.ofL rfl iVs_bare (.inl rfl)
      refine WpR.loopD (ι := Nat × Bool) [] [2, 5, 7, 9, 11] [7] [] 8 (fun p => [(12, .bool p.2), (13, .int .i64 p.1)]) (fun p => [(7, .cells (ofL (iVs (dfL D Q p.1)) 0) true none)]) (fun p => D.length - p.1) (fun p => p.1 ≤ D.length ∧ p.2 = alB k D p.1) ?_ ((0, true)) (⟨Nat.zero_le _, rfl⟩) [] ⟨rfl, rfl, (by (repeat' (first | exact True.intro | rfl | refine And.intro ?_ ?_))), (by (repeat' (first | exact True.intro | rfl | refine And.intro ?_ ?_))), (by (repeat' (first | exact True.intro | rfl | refine And.intro ?_ ?_))), ⟨.inr ⟨_, rfl, hq0⟩, trivial⟩, rfl, rfl⟩ rfl rfl rfl (fun _ => rfl) (by (repeat' (first | exact True.intro | refine And.intro ?_ ?_ | exact avV_nil _ | rfl))) (by (repeat' (first | exact True.intro | (with_reducible exact avB_nil _) | ((with_reducible refine avB_all ?_); rfl) | ((with_reducible refine avB_ofLb ?_); exact (by first | exact bare0_ints | assumption | exact bVs_bare | exact iVs_bare | exact mVs_bare | (intro v hv; (repeat (rcases List.mem_cons.1 hv with rfl | hv; exact rfl)); cases hv))) | ((with_reducible refine ltB_all ?_); rfl) | ((with_reducible refine ltB_ofLb ?_); exact (by first | exact bare0_ints | assumption | exact bVs_bare | exact iVs_bare | exact mVs_bare | (intro v hv; (repeat (rcases List.mem_cons.1 hv with rfl | hv; exact rfl)); cases hv))) | ((with_reducible refine ltB_loop ?_ ?_) <;> rfl) | (with_reducible exact hMap _) | (with_reducible exact hMap2 _) | (with_reducible exact ltB_encL) | (with_reducible exact ltB_map0) | ((with_reducible refine grB_lt ?_ _); exact (by first | exact bare0_ints | assumption | exact bVs_bare | exact iVs_bare | exact mVs_bare | (intro v hv; (repeat (rcases List.mem_cons.1 hv with rfl | hv; exact rfl)); cases hv))) | (with_reducible assumption) | refine And.intro ?_ ?_ | exact (by first | exact True.intro | exact ltB_all rfl | exact ltB_ofLb (by first | exact bare0_ints | assumption | exact bVs_bare | exact iVs_bare | exact mVs_bare | (intro v hv; (repeat (rcases List.mem_cons.1 hv with rfl | hv; exact rfl)); cases hv)) | exact ltB_loop rfl rfl | exact hMap _ | exact hMap2 _ | exact grB_lt (by first | exact bare0_ints | assumption | exact bVs_bare | exact iVs_bare | exact mVs_bare | (intro v hv; (repeat (rcases List.mem_cons.1 hv with rfl | hv; exact rfl)); cases hv)) _ | exact ltB_encL | exact ltB_map0 | assumption)))) (fun _ _ => (by (repeat' (first | exact True.intro | rfl | refine And.intro ?_ ?_ | exact (by decide) | exact (by first | exact True.intro | exact hMap _ | exact hMap2 _ | exact grB_lt (by first | exact bare0_ints | assumption | exact bVs_bare | exact iVs_bare | exact mVs_bare | (intro v hv; (repeat (rcases List.mem_cons.1 hv with rfl | hv; exact rfl)); cases hv)) _ | exact ltB_all rfl | exact ltB_ofLb (by first | exact bare0_ints | assumption | exact bVs_bare | exact iVs_bare | exact mVs_bare | (intro v hv; (repeat (rcases List.mem_cons.1 hv with rfl | hv; exact rfl)); cases hv)) | exact ltB_loop rfl rfl | exact ltB_encL | exact ltB_map0 | assumption))))) (fun _ _ => (by (repeat' (first | exact True.intro | rfl | refine And.intro ?_ ?_ | exact (by decide) | exact (by first | exact True.intro | exact hMap _ | exact hMap2 _ | exact grB_lt (by first | exact bare0_ints | assumption | exact bVs_bare | exact iVs_bare | exact mVs_bare | (intro v hv; (repeat (rcases List.mem_cons.1 hv with rfl | hv; exact rfl)); cases hv)) _ | exact ltB_all rfl | exact ltB_ofLb (by first | exact bare0_ints | assumption | exact bVs_bare | exact iVs_bare | exact mVs_bare | (intro v hv; (repeat (rcases List.mem_cons.1 hv with rfl | hv; exact rfl)); cases hv)) | exact ltB_loop rfl rfl | exact ltB_encL | exact ltB_map0 | assumption))))) (fun _ _ => (by (repeat' (first | exact True.intro | rfl | refine And.intro ?_ ?_)))) rfl
      rintro ⟨i, al⟩ ⟨j1, j2⟩
      dsimp only at j1 j2
      refine WpR.of_vc ?_
      by_cases hi : i < D.length
      · obtain ⟨u, hu⟩ : ∃ u : Nat, D.getD i 0 = u := ⟨(D.getD i 0).toNat, by have := hDw i; omega⟩
        obtain ⟨w, hwq⟩ : ∃ w : Nat, Q.getD i 0 = w := ⟨(Q.getD i 0).toNat, by have := hQw i; omega⟩
        have hu4 : u < 4 := by have := hDw i; omega
        have hw4 : w < 4 := by have := hQw i; omega
        have hDi : D[i]? = some (u : Int) := by rw [← hu, List.getD_eq_getElem?_getD, List.getElem?_eq_getElem hi]; rfl
        have hQi : Q[i]? = some (w : Int) := by rw [← hwq, List.getD_eq_getElem?_getD, List.getElem?_eq_getElem (by omega)]; rfl
        have hTi : T[D.length - 1 - i]? = some (u : Int) := by rw [hTat i hi, hu]
        have g1 : (ofL (iVs (dfL D Q i)) 0).get (0 + (u : Int).toNat * 1) = some (.int .i64 (df D Q i u)) := iGet (dfL_at D Q i u hu4)
        have p1 : ∀ v, putN [v] (ofL (iVs (dfL D Q i)) 0) (0 + (u : Int).toNat * 1) = some ((ofL (iVs (dfL D Q i)) 0).set (0 + (u : Int).toNat * 1) v) := fun v => putN_one g1
        have hML : (dfL D Q i).length = 4 := rfl
        have hg2 : ((dfL D Q i).set u (df D Q i u + 1))[w]? = some (if u = w then df D Q i w + 1 else df D Q i w) := by
          rw [List.getElem?_set]
          by_cases he : u = w
          · subst he; rw [if_pos rfl, if_pos (by rw [hML]; exact hu4), if_pos rfl]
          · rw [if_neg he, if_neg he]; exact dfL_at D Q i w hw4
        have g2 := setget (M := dfL D Q i) (v := df D Q i u + 1) (show u < (dfL D Q i).length from hu4) hg2
        have p2 := fun z => setput (M := dfL D Q i) (v := df D Q i u + 1) (w := z) (show u < (dfL D Q i).length from hu4) (show w < (dfL D Q i).length from hw4)
        have sb := setsub (M := dfL D Q i) (v := df D Q i u + 1) (w := (if u = w then df D Q i w + 1 else df D Q i w) - 1) (show u < (dfL D Q i).length from hu4) (show w < (dfL D Q i).length from hw4)
        rw [← dfL_set D Q i u w hu4 hw4 hDi hQi] at sb
        have b1 := cn_bd D i u
        have b2 := cn_bd Q i u
        have b3 := cn_bd D i w
        have b4 := cn_bd Q i w
        have f1 : -64 ≤ df D Q i u ∧ df D Q i u ≤ 64 := by unfold df; omega
        have f2 : -64 ≤ (if u = w then df D Q i w + 1 else df D Q i w) ∧ (if u = w then df D Q i w + 1 else df D Q i w) ≤ 65 := by split <;> (unfold df; omega)
        generalize (if u = w then df D Q i w + 1 else df D Q i w) = z2 at *
        generalize df D Q i u = z1 at *
        have hal := alB_succ k D i
        rw [← j2, hu] at hal
        have gT : (ofL (iVs T) 0).get (0 + ((D.length : Int) - 1 - (i : Int)).toNat * 1) = some (.int .i64 (u : Int)) := by
          rw [show ((D.length : Int) - 1 - (i : Int)) = ((D.length - 1 - i : Nat) : Int) by omega]
          exact iGet hTi
        cases al with
        | false =>
          rw [Bool.false_and] at hal
          (conv => whnf); (repeat' (first | ((with_reducible refine ifb_mk (fun hc => ?_) (fun hc => ?_)) <;> ((try simp only [decide_eq_true_eq, decide_eq_false_iff_not, Bool.not_eq_true', Bool.not_eq_false', Int.not_lt, Int.not_le, ne_eq, Decidable.not_not, beq_iff_eq, List.cons.injEq, and_true] at hc); (first | (exfalso; omega) | conv => whnf))) | ((with_reducible refine And.intro True.intro ?_); conv => whnf) | ((with_reducible refine grd_get ?_); refine som_mk (a := ?_) ?hh ?_; (case hh => exact iGet hDi); conv => whnf) | ((with_reducible refine grd_get ?_); refine som_mk (a := ?_) ?hh ?_; (case hh => exact g1); conv => whnf) | ((with_reducible refine grd_putN ?_); refine som_mk (a := ?_) ?hh ?_; (case hh => exact p1 _); conv => whnf) | ((with_reducible refine grd_get ?_); refine som_mk (a := ?_) ?hh ?_; (case hh => exact iGet hQi); conv => whnf) | ((with_reducible refine grd_get ?_); refine som_mk (a := ?_) ?hh ?_; (case hh => exact g2); conv => whnf) | ((with_reducible refine grd_putN ?_); refine som_mk (a := ?_) ?hh ?_; (case hh => exact p2 _); conv => whnf) | ((with_reducible refine WpR.draw (id := 15) mixed [0, 1, 2, 3, 4, 5, 6, 7, 8, 9, 10, 11, 12, 13, 14, 15, 16, 17, 18, 19, 20, 21, 22, 23, 24, 25, 26, 27, 28] [0, 1, 3, 7, 3, 31, 63, 3, 131, 3, 3, 3, 2051, 7171, 15875, 3, 32771, 130563, 261635, 3, 3, 1048579, 3670019, 8388099, 16777091, 33554307, 67108863, 134217727, 268435455] ?hh ?_); (case hh => kernel_rfl); conv => whnf) | ((with_reducible refine WpR.draw (id := 16) mixed [0, 1, 2, 3, 4, 5, 6, 7, 8, 9, 10, 11, 12, 13, 14, 15] [0, 1, 0, 4, 12, 28, 0, 124, 255, 511, 0, 1024, 0, 7168, 15360, 32767] ?hh ?_); (case hh => kernel_rfl); conv => whnf) | ((with_reducible refine grd_get ?_); refine som_mk (a := ?_) ?hh ?_; (case hh => exact gT); conv => whnf) | ((with_reducible refine And.intro ?hh ?_); (case hh => (unfold InR; (try dsimp only); omega)); conv => whnf) | ((with_reducible refine And.intro ?hh ?_); (case hh => ((try dsimp only); omega)); conv => whnf) | ((with_reducible refine And.intro ?hh ?_); (case hh => ((conv => whnf); (repeat' (first | exact True.intro | rfl | refine And.intro ?_ ?_)); done)); conv => whnf) | fail))
          all_goals first | exact absurd trivial (by assumption) | exact ⟨(i + 1, false), [], by dsimp only; omega, ⟨by dsimp only; omega, hal.symm⟩, ⟨rfl, rfl, (by (repeat' (first | exact True.intro | rfl | refine And.intro ?_ ?_))), (by (repeat' (first | exact True.intro | rfl | refine And.intro ?_ ?_))), (by (repeat' (first | exact True.intro | rfl | refine And.intro ?_ ?_))), ⟨.inr ⟨_, rfl, sb⟩, trivial⟩, rfl, rfl⟩⟩
        | true =>
          rw [Bool.true_and] at hal
          have hrf := (row_facts hk.2 (show i < k * k by omega)).2
          rw [← hD] at hrf
          obtain ⟨r, hr⟩ : ∃ r : Nat, i % k = r := ⟨_, rfl⟩
          have hrk : r < k := by rw [← hr]; exact Nat.mod_lt _ hk.1
          have er : (i : Int).tmod (k : Int) = (r : Int) := by rw [tmod_nat, hr]
          have hri : r ≤ i := by rw [← hr]; exact Nat.mod_le _ _
          have em : sgN k 4 i = i - r + (k - 1 - r) := by
            show (i / k) * k + (k - 1 - i % k) = _
            have := Nat.div_add_mod i k
            rw [hr] at this ⊢
            rw [Nat.mul_comm]
            omega
          obtain ⟨y, hy⟩ : ∃ y, D.getD (sgN k 4 i) 0 = y := ⟨_, rfl⟩
          have hDm : D[sgN k 4 i]? = some y := by rw [← hy, List.getD_eq_getElem?_getD, List.getElem?_eq_getElem hrf]; rfl
          rw [hy] at hal
          have gM : (ofL (iVs D) 0).get (0 + ((i : Int) - (i : Int).tmod (k : Int) + (k : Int) - 1 - (i : Int).tmod (k : Int)).toNat * 1) = some (.int .i64 y) := by
            rw [er, show ((i : Int) - (r : Int) + (k : Int) - 1 - (r : Int)) = ((sgN k 4 i : Nat) : Int) by rw [em]; omega]
            exact iGet hDm
          have i1 : InR ((i : Int).tmod (k : Int)) := by rw [er]; unfold InR; omega
          rw [em] at hrf
          (conv => whnf); (repeat' (first | ((with_reducible refine ifb_mk (fun hc => ?_) (fun hc => ?_)) <;> ((try simp only [decide_eq_true_eq, decide_eq_false_iff_not, Bool.not_eq_true', Bool.not_eq_false', Int.not_lt, Int.not_le, ne_eq, Decidable.not_not, beq_iff_eq, List.cons.injEq, and_true] at hc); (first | (exfalso; omega) | conv => whnf))) | ((with_reducible refine And.intro True.intro ?_); conv => whnf) | ((with_reducible refine grd_and ?_); refine And.intro (i1) ?_; conv => whnf) | ((with_reducible refine grd_get ?_); refine som_mk (a := ?_) ?hh ?_; (case hh => exact iGet hDi); conv => whnf) | ((with_reducible refine grd_get ?_); refine som_mk (a := ?_) ?hh ?_; (case hh => exact g1); conv => whnf) | ((with_reducible refine grd_putN ?_); refine som_mk (a := ?_) ?hh ?_; (case hh => exact p1 _); conv => whnf) | ((with_reducible refine grd_get ?_); refine som_mk (a := ?_) ?hh ?_; (case hh => exact iGet hQi); conv => whnf) | ((with_reducible refine grd_get ?_); refine som_mk (a := ?_) ?hh ?_; (case hh => exact g2); conv => whnf) | ((with_reducible refine grd_putN ?_); refine som_mk (a := ?_) ?hh ?_; (case hh => exact p2 _); conv => whnf) | ((with_reducible refine WpR.draw (id := 15) mixed [0, 1, 2, 3, 4, 5, 6, 7, 8, 9, 10, 11, 12, 13, 14, 15, 16, 17, 18, 19, 20, 21, 22, 23, 24, 25, 26, 27, 28] [0, 1, 3, 7, 3, 31, 63, 3, 131, 3, 3, 3, 2051, 7171, 15875, 3, 32771, 130563, 261635, 3, 3, 1048579, 3670019, 8388099, 16777091, 33554307, 67108863, 134217727, 268435455] ?hh ?_); (case hh => kernel_rfl); conv => whnf) | ((with_reducible refine WpR.draw (id := 16) mixed [0, 1, 2, 3, 4, 5, 6, 7, 8, 9, 10, 11, 12, 13, 14, 15] [0, 1, 0, 4, 12, 28, 0, 124, 255, 511, 0, 1024, 0, 7168, 15360, 32767] ?hh ?_); (case hh => kernel_rfl); conv => whnf) | ((with_reducible refine grd_get ?_); refine som_mk (a := ?_) ?hh ?_; (case hh => exact gT); conv => whnf) | ((with_reducible refine grd_get ?_); refine som_mk (a := ?_) ?hh ?_; (case hh => exact gM); conv => whnf) | ((with_reducible refine And.intro ?hh ?_); (case hh => (unfold InR; (try dsimp only); omega)); conv => whnf) | ((with_reducible refine And.intro ?hh ?_); (case hh => ((try dsimp only); omega)); conv => whnf) | ((with_reducible refine And.intro ?hh ?_); (case hh => ((conv => whnf); (repeat' (first | exact True.intro | rfl | refine And.intro ?_ ?_)); done)); conv => whnf) | fail))
          · exact (hc trivial).elim
          · exact ⟨(i + 1, decide ((u : Int) = y)), [], by dsimp only; omega, ⟨by dsimp only; omega, by rw [hal]; rfl⟩, ⟨rfl, rfl, (by (repeat' (first | exact True.intro | rfl | refine And.intro ?_ ?_))), (by (repeat' (first | exact True.intro | rfl | refine And.intro ?_ ?_))), (by (repeat' (first | exact True.intro | rfl | refine And.intro ?_ ?_))), ⟨.inr ⟨_, rfl, sb⟩, trivial⟩, rfl, rfl⟩⟩
      · have e : i = D.length := by omega
        subst e
        rw [hH] at j2
        obtain ⟨z0, z1, z2, z3, hz, hz0⟩ : ∃ z0 z1 z2 z3, dfL D Q D.length = [z0, z1, z2, z3] ∧ [z0, z1, z2, z3] = [0, 0, 0, 0] := ⟨_, _, _, _, rfl, hend⟩
        rw [hz]
        subst j2
        (conv => whnf); (repeat' (first | ((with_reducible refine ifb_mk (fun hc => ?_) (fun hc => ?_)) <;> ((try simp only [decide_eq_true_eq, decide_eq_false_iff_not, Bool.not_eq_true', Bool.not_eq_false', Int.not_lt, Int.not_le, ne_eq, Decidable.not_not, beq_iff_eq, List.cons.injEq, and_true] at hc); (first | (exfalso; omega) | conv => whnf))) | ((with_reducible refine And.intro True.intro ?_); conv => whnf) | ((with_reducible refine grd_slow ?_); refine som_mk (a := ?_) ?hh ?_; (case hh => exact eq4 hz0); conv => whnf) | ((with_reducible refine CallX.all ?_); refine CallW.of_ok (kH _ _ (SlC.own rfl)) ?_; conv => whnf) | ((with_reducible refine CallX.all ?_); refine CallW.of_ok (works_any _) ?_; conv => whnf) | ((with_reducible refine And.intro ?hh ?_); (case hh => (unfold InR; (try dsimp only); omega)); conv => whnf) | ((with_reducible refine And.intro ?hh ?_); (case hh => ((try dsimp only); omega)); conv => whnf) | ((with_reducible refine And.intro ?hh ?_); (case hh => ((conv => whnf); (repeat' (first | exact True.intro | rfl | refine And.intro ?_ ?_)); done)); conv => whnf) | fail))
        all_goals first | (rename_i hc; exact (hc trivial).elim) | (exfalso; rename_i hc; rw [beq_self_eq_true] at hc; exact Bool.noConfusion hc) | skip
        all_goals (refine ⟨[], ?_, rfl, rfl, trivial, (by (repeat' (first | exact True.intro | rfl | refine And.intro ?_ ?_)))⟩; simp only [renV, renL]; (first | done | rfl))
end Go.Proofs.P
