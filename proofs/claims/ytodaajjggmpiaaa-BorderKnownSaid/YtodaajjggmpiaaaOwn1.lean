/- What the functions answer that the laws call, one after another, part 1. -/
import Derived.Test.YtodaajjggmpiaaaAs6
import Derived.Test.YtodaajjggmpiaaaProg
import Derived.KernelRfl

set_option linter.unusedVariables false
namespace Go.Proofs.B
open Go.As
set_option maxRecDepth 20000
set_option linter.unusedVariables false
set_option linter.unusedSimpArgs false

theorem mixed : Try.prog.follows .mixedOrders = true := by kernel_rfl

/-! ### Areas -/

def iVs (l : List Int) : List V := l.map (V.int .i64)
def bVs (l : List Bool) : List V := l.map V.bool
theorem iVs_bare {l : List Int} : ∀ v ∈ iVs l, bare0 v = true := fun v h => by obtain ⟨x, _, rfl⟩ := List.mem_map.1 h; rfl
theorem bVs_bare {l : List Bool} : ∀ v ∈ bVs l, bare0 v = true := fun v h => by obtain ⟨x, _, rfl⟩ := List.mem_map.1 h; rfl
theorem bGet {l : List Bool} {k i : Nat} {x : Bool} (hn : k = i) (h : l[i]? = some x) : (ofL (bVs l) 0).get k = some (.bool x) := by subst hn; exact get_ofL0 (by unfold bVs; rw [List.getElem?_map]; simp [h])

/-- An address of an area: the area's truths stand there. -/
structure AtA (h : H) (A : List Bool) (b o : Nat) : Prop where
  at_ : ∃ c wr g, h.get b = some (.cells c wr g) ∧ ∀ i v, (bVs A)[i]? = some v → c.get (o + i) = some v

set_option maxHeartbeats 1000000 in
theorem areaHas_ok (h : H) (A : List Bool) (b o : Nat) (hA : AtA h A b o) (hr z : Nat) (hh : hr < 48) (hz : z < 24) (v : Bool) (hv : A[z * 48 + hr]? = some v) :
    CallOk Try.prog 87 [.ptr b o, .agg [.int .i64 hr, .int .i64 z]] h (.bool v) h := by
  have hB := @bVs_bare A
  refine CallOk.run Try.func87 rfl rfl (argsC := [.ptr 0 0, .agg [.int .i64 hr, .int .i64 z]]) (Nat.le_of_ble_eq_true rfl) [some (b, o)] (.cons (Ca.ptr (i := 0) rfl) (.cons (CaL.agg (.cons (.bare rfl) (.cons (.bare rfl) .nil))) .nil)) (viewMc1 bVs_bare (fun j o' he => by cases he; exact hA.at_)) rfl (WpR.of_vc ?_)
  have hg : (ofL (bVs A) 0).get (0 + (z : Int).toNat * 48 + (hr : Int).toNat * 1) = some (.bool v) := bGet (by omega) hv
  (conv => whnf); (repeat' (first | ((with_reducible refine ifb_mk (fun hc => ?_) (fun hc => ?_)) <;> ((try simp only [decide_eq_true_eq, decide_eq_false_iff_not, Bool.not_eq_true', Bool.not_eq_false', Int.not_lt, Int.not_le, ne_eq, Decidable.not_not, beq_iff_eq, List.cons.injEq, and_true] at hc); (first | (exfalso; omega) | conv => whnf))) | ((with_reducible refine And.intro True.intro ?_); conv => whnf) | ((with_reducible refine WpR.draw (id := 1) mixed [0, 1, 2, 3, 4, 5, 6, 7, 8, 9] [0, 0, 2, 0, 8, 1, 39, 127, 255, 511] ?hh ?_); (case hh => kernel_rfl); conv => whnf) | ((with_reducible refine grd_get ?_); refine som_mk (a := ?_) ?hh ?_; (case hh => exact hg); conv => whnf) | ((with_reducible refine And.intro ?hh ?_); (case hh => (unfold InR; (try dsimp only); omega)); conv => whnf) | ((with_reducible refine And.intro ?hh ?_); (case hh => ((try dsimp only); omega)); conv => whnf) | ((with_reducible refine And.intro ?hh ?_); (case hh => ((conv => whnf); (repeat' (first | exact True.intro | rfl | refine And.intro ?_ ?_)); done)); conv => whnf) | fail))
  (refine ⟨[], ?_, rfl, rfl, trivial, (by (repeat' (first | exact True.intro | rfl | refine And.intro ?_ ?_)))⟩; simp only [renV, renL]; (first | done | rfl | simp | grind))

/-! ### The constellations of a place -/

/-- The constellations, from k on, in whose areas a place is. -/
def atL (AA : List Bool) (hr z : Nat) : Nat → Nat → List Int
  | 0, _ => []
  | m + 1, k => (if AA[k * 1152 + z * 48 + hr]? = some true then [(k : Int)] else []) ++ atL AA hr z m (k + 1)
def landsL (AA : List Bool) (n hr z : Nat) : List Int := atL AA hr z n 0
theorem atL_len (AA : List Bool) (hr z : Nat) : ∀ (m k : Nat), (atL AA hr z m k).length ≤ m
  | 0, k => Nat.le_refl _
  | m + 1, k => by
    have := atL_len AA hr z m (k + 1)
    unfold atL
    rw [List.length_append]
    split <;> simp <;> omega
theorem bVs_drop (AA : List Bool) (k : Nat) : bVs (AA.drop k) = (bVs AA).drop k := by unfold bVs; rw [List.map_drop]
noncomputable def landsNew : List Int → List Blk
  | [] => []
  | x :: l => [.cells (ofL (iVs (x :: l)) 0) true (some (1, (l.length + 1) * 1))]
def chartV (hours zones : Int) (lands areas : V) : V := .agg [.int .i64 hours, .int .i64 zones, lands, areas]
end Go.Proofs.B

namespace Go.Proofs.B
open Go.As
set_option maxRecDepth 20000
set_option linter.unusedVariables false
set_option linter.unusedSimpArgs false

theorem iVs_length (l : List Int) : (iVs l).length = l.length * 1 := by unfold iVs; simp
theorem iVs_one (l : List Int) : (iVs l).all one = true := by
  rw [List.all_eq_true]
  intro v hv
  obtain ⟨x, _, rfl⟩ := List.mem_map.1 hv
  rfl
theorem atL_succ (AA : List Bool) (hr z : Nat) {n k : Nat} (h : k < n) : atL AA hr z (n - k) k = (if AA[k * 1152 + z * 48 + hr]? = some true then [(k : Int)] else []) ++ atL AA hr z (n - (k + 1)) (k + 1) := by
  rw [show n - k = (n - (k + 1)) + 1 from by omega]
  rfl
theorem grB_snoc (x : Int) (t : List Int) (k : Int) : grB 1 (iVs ((x :: t) ++ [k])) ((x :: t) ++ [k]).length = .cells (ofL (iVs (x :: t) ++ [.int .i64 k]) 0) true (some (1, (t.length + 1 + 1) * 1)) := by
  have e : iVs ((x :: t) ++ [k]) = iVs (x :: t) ++ [.int .i64 k] := by unfold iVs; rw [List.map_append]; rfl
  have e2 : ((x :: t) ++ [k]).length = t.length + 1 + 1 := by simp
  rw [e2, e]
  rfl
theorem grV_snoc (b : Nat) (x : Int) (t : List Int) (k : Int) : grV b ((x :: t) ++ [k]).length = .sl b 0 (t.length + 1 + 1) (t.length + 1 + 1) false := by
  have e2 : ((x :: t) ++ [k]).length = t.length + 1 + 1 := by simp
  rw [e2]; rfl
theorem laSh (vs : Vw) (n k : Nat) (l : List Int) : ShV vs n k (landsNew l).length (grV n l.length) (grV k l.length) := by
  cases l with
  | nil => exact .bare rfl
  | cons x l => exact .sl (i := 0) (Nat.lt_succ_self 0) rfl rfl
theorem laB (vs : Vw) (n k : Nat) (l : List Int) (i : Nat) (b : Blk) (h : (landsNew l)[i]? = some b) : ∃ b', (landsNew l)[i]? = some b' ∧ b'.wr = true ∧ ShB vs n k (landsNew l).length b b' := by
  cases l with
  | nil => simp [landsNew] at h
  | cons x l =>
    cases i with
    | zero => have e : Blk.cells (ofL (iVs (x :: l)) 0) true (some (1, (l.length + 1) * 1)) = b := Option.some.inj h; subst e; exact ⟨_, rfl, rfl, .bare (ofL_bare iVs_bare)⟩
    | succ i => simp [landsNew] at h

set_option maxHeartbeats 2000000 in
theorem landsAt_ok (h : H) (H0 Z0 : Int) (AA : List Bool) (n m : Nat) (hA : AA.length = n * 1152) (hn : n ≤ 1000) (lv av : V) (h1 : SlC h [] m lv) (h2 : SlC h (bVs AA) n av) (hr z : Nat) (hh : hr < 48) (hz : z < 24) :
    CallOk Try.prog 63 [chartV H0 Z0 lv av, .agg [.int .i64 hr, .int .i64 z]] h (grV h.n (landsL AA n hr z).length) (addBs h (landsNew (landsL AA n hr z))) := by
  obtain ⟨o1, s1, q1, c1, w1⟩ := h1.view 0
  obtain ⟨o2, s2, q2, c2, w2⟩ := h2.view 1
  have hB := @bVs_bare AA
  have hB0 : ∀ v ∈ ([] : List V), bare0 v = true := fun v h => by cases h
  refine CallOk.runN Try.func63 rfl rfl (argsC := [.agg [.int .i64 H0, .int .i64 Z0, s1, s2], .agg [.int .i64 hr, .int .i64 z]]) (fun N => grV N (landsL AA n hr z).length) (fun _ => landsNew (landsL AA n hr z)) (Nat.le_of_ble_eq_true rfl) [o1, o2] (.cons (CaL.agg (.cons (.bare rfl) (.cons (.bare rfl) (.cons (c1 _ rfl) (.cons (c2 _ rfl) .nil))))) (.cons (CaL.agg (.cons (.bare rfl) (.cons (.bare rfl) .nil))) .nil)) (viewMc2 hB0 w1 bVs_bare w2)
    (laSh _ _ _ _) rfl (laB _ _ _ _) (WpR.of_vc ?_)
  cases q2 with
  | nil h0 =>
    subst h0
    cases q1 with
    | nil h3 =>
      (conv => whnf); (repeat' (first | ((with_reducible refine ifb_mk (fun hc => ?_) (fun hc => ?_)) <;> ((try simp only [decide_eq_true_eq, decide_eq_false_iff_not, Bool.not_eq_true', Bool.not_eq_false', Int.not_lt, Int.not_le, ne_eq, Decidable.not_not, beq_iff_eq, List.cons.injEq, and_true] at hc); (first | (exfalso; omega) | conv => whnf))) | ((with_reducible refine And.intro True.intro ?_); conv => whnf) | ((with_reducible refine And.intro ?hh ?_); (case hh => (unfold InR; (try dsimp only); omega)); conv => whnf) | ((with_reducible refine And.intro ?hh ?_); (case hh => ((try dsimp only); omega)); conv => whnf) | ((with_reducible refine And.intro ?hh ?_); (case hh => ((conv => whnf); (repeat' (first | exact True.intro | rfl | refine And.intro ?_ ?_)); done)); conv => whnf) | fail))
      refine WpR.loopU 1 ?_
      (conv => whnf); (repeat' (first | ((with_reducible refine ifb_mk (fun hc => ?_) (fun hc => ?_)) <;> ((try simp only [decide_eq_true_eq, decide_eq_false_iff_not, Bool.not_eq_true', Bool.not_eq_false', Int.not_lt, Int.not_le, ne_eq, Decidable.not_not, beq_iff_eq, List.cons.injEq, and_true] at hc); (first | (exfalso; omega) | conv => whnf))) | ((with_reducible refine And.intro True.intro ?_); conv => whnf) | ((with_reducible refine And.intro ?hh ?_); (case hh => (unfold InR; (try dsimp only); omega)); conv => whnf) | ((with_reducible refine And.intro ?hh ?_); (case hh => ((try dsimp only); omega)); conv => whnf) | ((with_reducible refine And.intro ?hh ?_); (case hh => ((conv => whnf); (repeat' (first | exact True.intro | rfl | refine And.intro ?_ ?_)); done)); conv => whnf) | fail))
      all_goals first | (exfalso; omega) | exact ⟨[], rfl, rfl, rfl, trivial, (by (repeat' (first | exact True.intro | rfl | refine And.intro ?_ ?_)))⟩
    | @sl cap1 ex1 =>
      (conv => whnf); (repeat' (first | ((with_reducible refine ifb_mk (fun hc => ?_) (fun hc => ?_)) <;> ((try simp only [decide_eq_true_eq, decide_eq_false_iff_not, Bool.not_eq_true', Bool.not_eq_false', Int.not_lt, Int.not_le, ne_eq, Decidable.not_not, beq_iff_eq, List.cons.injEq, and_true] at hc); (first | (exfalso; omega) | conv => whnf))) | ((with_reducible refine And.intro True.intro ?_); conv => whnf) | ((with_reducible refine And.intro ?hh ?_); (case hh => (unfold InR; (try dsimp only); omega)); conv => whnf) | ((with_reducible refine And.intro ?hh ?_); (case hh => ((try dsimp only); omega)); conv => whnf) | ((with_reducible refine And.intro ?hh ?_); (case hh => ((conv => whnf); (repeat' (first | exact True.intro | rfl | refine And.intro ?_ ?_)); done)); conv => whnf) | fail))
      refine WpR.loopU 1 ?_
      (conv => whnf); (repeat' (first | ((with_reducible refine ifb_mk (fun hc => ?_) (fun hc => ?_)) <;> ((try simp only [decide_eq_true_eq, decide_eq_false_iff_not, Bool.not_eq_true', Bool.not_eq_false', Int.not_lt, Int.not_le, ne_eq, Decidable.not_not, beq_iff_eq, List.cons.injEq, and_true] at hc); (first | (exfalso; omega) | conv => whnf))) | ((with_reducible refine And.intro True.intro ?_); conv => whnf) | ((with_reducible refine And.intro ?hh ?_); (case hh => (unfold InR; (try dsimp only); omega)); conv => whnf) | ((with_reducible refine And.intro ?hh ?_); (case hh => ((try dsimp only); omega)); conv => whnf) | ((with_reducible refine And.intro ?hh ?_); (case hh => ((conv => whnf); (repeat' (first | exact True.intro | rfl | refine And.intro ?_ ?_)); done)); conv => whnf) | fail))
      all_goals first | (exfalso; omega) | exact ⟨[], rfl, rfl, rfl, trivial, (by (repeat' (first | exact True.intro | rfl | refine And.intro ?_ ?_)))⟩
  | @sl cap2 ex2 =>
    cases q1 with
    | nil h3 =>
      (conv => whnf); (repeat' (first | ((with_reducible refine ifb_mk (fun hc => ?_) (fun hc => ?_)) <;> ((try simp only [decide_eq_true_eq, decide_eq_false_iff_not, Bool.not_eq_true', Bool.not_eq_false', Int.not_lt, Int.not_le, ne_eq, Decidable.not_not, beq_iff_eq, List.cons.injEq, and_true] at hc); (first | (exfalso; omega) | conv => whnf))) | ((with_reducible refine And.intro True.intro ?_); conv => whnf) | ((with_reducible refine And.intro ?hh ?_); (case hh => (unfold InR; (try dsimp only); omega)); conv => whnf) | ((with_reducible refine And.intro ?hh ?_); (case hh => ((try dsimp only); omega)); conv => whnf) | ((with_reducible refine And.intro ?hh ?_); (case hh => ((conv => whnf); (repeat' (first | exact True.intro | rfl | refine And.intro ?_ ?_)); done)); conv => whnf) | fail))
      have hMap : ∀ i, ltV 5 (grV 4 i) = true := grV_lt rfl
      have hMap2 : ∀ l : List Int, ltB 5 (grB 1 (iVs l) l.length) := fun l => grB_lt iVs_bare _
      refine WpR.loopD (ι := Nat × List Int) [4] [2, 3, 9] [4] [] 5 (fun p => [(5, grV 4 p.2.length), (10, .int .i64 p.1)]) (fun p => [(4, grB 1 (iVs p.2) p.2.length)]) (fun p => n - p.1) (fun p => p.1 ≤ n ∧ p.2.length ≤ p.1 ∧ landsL AA n hr z = p.2 ++ atL AA hr z (n - p.1) p.1) ?_ ((0, [])) (⟨Nat.zero_le _, Nat.zero_le _, rfl⟩) [] ⟨rfl, rfl, (by (repeat' (first | exact True.intro | rfl | refine And.intro ?_ ?_))), (by (repeat' (first | exact True.intro | rfl | refine And.intro ?_ ?_))), (by (repeat' (first | exact True.intro | rfl | refine And.intro ?_ ?_))), (by (repeat' (first | exact True.intro | exact Or.inl rfl | refine And.intro ?_ ?_ | refine Or.inr ⟨_, rfl, ?_⟩ | exact SubQ.same (n := 1000) (Y := []) (fun _ _ _ => rfl) (by first | exact True.intro | exact ltB_all rfl | exact ltB_ofLb (by first | exact bare0_ints | assumption | exact bVs_bare | exact iVs_bare | exact mVs_bare | (intro v hv; (repeat (rcases List.mem_cons.1 hv with rfl | hv; exact rfl)); cases hv)) | exact ltB_loop rfl rfl | exact hMap _ | exact hMap2 _ | exact grB_lt (by first | exact bare0_ints | assumption | exact bVs_bare | exact iVs_bare | exact mVs_bare | (intro v hv; (repeat (rcases List.mem_cons.1 hv with rfl | hv; exact rfl)); cases hv)) _ | exact ltB_encL | exact ltB_map0 | assumption) (avB_nil _) rfl | exact SubQ.ofL (by first | rfl | simp) (by first | exact bare0_ints | assumption | exact bVs_bare | exact iVs_bare | exact mVs_bare | (intro v hv; (repeat (rcases List.mem_cons.1 hv with rfl | hv; exact rfl)); cases hv)) (by first | exact Or.inl rfl | exact Or.inr rfl) | exact SubQ.fin (by (conv => whnf); (repeat' (first | exact True.intro | rfl | refine And.intro ?_ ?_)); done) (fun h => h) (by first | exact Or.inl rfl | exact Or.inr rfl)))), rfl, rfl⟩ rfl rfl rfl (fun _ => rfl) (by (repeat' (first | exact True.intro | refine And.intro ?_ ?_ | exact avV_nil _ | rfl))) (by (repeat' (first | exact True.intro | (with_reducible exact avB_nil _) | ((with_reducible refine avB_all ?_); rfl) | ((with_reducible refine avB_ofLb ?_); exact (by first | exact bare0_ints | assumption | exact bVs_bare | exact iVs_bare | exact mVs_bare | (intro v hv; (repeat (rcases List.mem_cons.1 hv with rfl | hv; exact rfl)); cases hv))) | ((with_reducible refine ltB_all ?_); rfl) | ((with_reducible refine ltB_ofLb ?_); exact (by first | exact bare0_ints | assumption | exact bVs_bare | exact iVs_bare | exact mVs_bare | (intro v hv; (repeat (rcases List.mem_cons.1 hv with rfl | hv; exact rfl)); cases hv))) | ((with_reducible refine ltB_loop ?_ ?_) <;> rfl) | (with_reducible exact hMap _) | (with_reducible exact hMap2 _) | (with_reducible exact ltB_encL) | (with_reducible exact ltB_map0) | ((with_reducible refine grB_lt ?_ _); exact (by first | exact bare0_ints | assumption | exact bVs_bare | exact iVs_bare | exact mVs_bare | (intro v hv; (repeat (rcases List.mem_cons.1 hv with rfl | hv; exact rfl)); cases hv))) | (with_reducible assumption) | refine And.intro ?_ ?_ | exact (by first | exact True.intro | exact ltB_all rfl | exact ltB_ofLb (by first | exact bare0_ints | assumption | exact bVs_bare | exact iVs_bare | exact mVs_bare | (intro v hv; (repeat (rcases List.mem_cons.1 hv with rfl | hv; exact rfl)); cases hv)) | exact ltB_loop rfl rfl | exact hMap _ | exact hMap2 _ | exact grB_lt (by first | exact bare0_ints | assumption | exact bVs_bare | exact iVs_bare | exact mVs_bare | (intro v hv; (repeat (rcases List.mem_cons.1 hv with rfl | hv; exact rfl)); cases hv)) _ | exact ltB_encL | exact ltB_map0 | assumption)))) (fun _ _ => (by (repeat' (first | exact True.intro | rfl | refine And.intro ?_ ?_ | exact (by decide) | exact (by first | exact True.intro | exact hMap _ | exact hMap2 _ | exact grB_lt (by first | exact bare0_ints | assumption | exact bVs_bare | exact iVs_bare | exact mVs_bare | (intro v hv; (repeat (rcases List.mem_cons.1 hv with rfl | hv; exact rfl)); cases hv)) _ | exact ltB_all rfl | exact ltB_ofLb (by first | exact bare0_ints | assumption | exact bVs_bare | exact iVs_bare | exact mVs_bare | (intro v hv; (repeat (rcases List.mem_cons.1 hv with rfl | hv; exact rfl)); cases hv)) | exact ltB_loop rfl rfl | exact ltB_encL | exact ltB_map0 | assumption))))) (fun _ _ => (by (repeat' (first | exact True.intro | rfl | refine And.intro ?_ ?_ | exact (by decide) | exact (by first | exact True.intro | exact hMap _ | exact hMap2 _ | exact grB_lt (by first | exact bare0_ints | assumption | exact bVs_bare | exact iVs_bare | exact mVs_bare | (intro v hv; (repeat (rcases List.mem_cons.1 hv with rfl | hv; exact rfl)); cases hv)) _ | exact ltB_all rfl | exact ltB_ofLb (by first | exact bare0_ints | assumption | exact bVs_bare | exact iVs_bare | exact mVs_bare | (intro v hv; (repeat (rcases List.mem_cons.1 hv with rfl | hv; exact rfl)); cases hv)) | exact ltB_loop rfl rfl | exact ltB_encL | exact ltB_map0 | assumption))))) (fun _ _ => (by (repeat' (first | exact True.intro | rfl | refine And.intro ?_ ?_)))) rfl
      rintro ⟨k, l⟩ ⟨j1, j2, j3⟩
      dsimp only at j1 j2 j3
      refine WpR.of_vc ?_
      by_cases hk : k < n
      · rw [atL_succ AA hr z hk] at j3
        obtain ⟨v, hv⟩ : ∃ v, AA[k * 1152 + z * 48 + hr]? = some v := ⟨_, List.getElem?_eq_getElem (by omega)⟩
        have hvd : (AA.drop (k * 1152))[z * 48 + hr]? = some v := by rw [List.getElem?_drop, ← hv]; congr 1; omega
        have hcell : ∀ o, o = k * 1152 → ∀ i u, (bVs (AA.drop (k * 1152)))[i]? = some u → (ofL (bVs AA) 0).get (o + i) = some u := fun o ho i u hu => by
          subst ho
          rw [bVs_drop, List.getElem?_drop] at hu
          exact get_ofL0 hu
        have kh := fun h' hg => areaHas_ok h' (AA.drop (k * 1152)) 1 (0 + (k : Int).toNat * 1152) ⟨⟨_, false, none, hg, hcell _ (by omega)⟩⟩ hr z hh hz v hvd
        cases v with
        | false =>
          rw [hv, if_neg (by decide), List.nil_append] at j3
          cases l with
          | nil =>
            (conv => whnf); (repeat' (first | ((with_reducible refine ifb_mk (fun hc => ?_) (fun hc => ?_)) <;> ((try simp only [decide_eq_true_eq, decide_eq_false_iff_not, Bool.not_eq_true', Bool.not_eq_false', Int.not_lt, Int.not_le, ne_eq, Decidable.not_not, beq_iff_eq, List.cons.injEq, and_true] at hc); (first | (exfalso; omega) | conv => whnf))) | ((with_reducible refine And.intro True.intro ?_); conv => whnf) | ((with_reducible refine WpR.draw (id := 5) mixed [0, 1, 2, 3, 4, 5] [0, 1, 0, 7, 0, 31] ?hh ?_); (case hh => kernel_rfl); conv => whnf) | ((with_reducible refine grd_ex ?_); refine ex_ok (kh _ rfl) ?_; conv => whnf) | ((with_reducible refine And.intro ?hh ?_); (case hh => (unfold InR; (try dsimp only); omega)); conv => whnf) | ((with_reducible refine And.intro ?hh ?_); (case hh => ((try dsimp only); omega)); conv => whnf) | ((with_reducible refine And.intro ?hh ?_); (case hh => ((conv => whnf); (repeat' (first | exact True.intro | rfl | refine And.intro ?_ ?_)); done)); conv => whnf) | fail))
            exact ⟨(k + 1, []), [], by dsimp only; omega, ⟨by dsimp only; omega, by simp, j3⟩, ⟨rfl, rfl, (by (repeat' (first | exact True.intro | rfl | refine And.intro ?_ ?_))), (by (repeat' (first | exact True.intro | rfl | refine And.intro ?_ ?_))), (by (repeat' (first | exact True.intro | rfl | refine And.intro ?_ ?_))), (by (repeat' (first | exact True.intro | exact Or.inl rfl | refine And.intro ?_ ?_ | refine Or.inr ⟨_, rfl, ?_⟩ | exact SubQ.same (n := 1000) (Y := []) (fun _ _ _ => rfl) (by first | exact True.intro | exact ltB_all rfl | exact ltB_ofLb (by first | exact bare0_ints | assumption | exact bVs_bare | exact iVs_bare | exact mVs_bare | (intro v hv; (repeat (rcases List.mem_cons.1 hv with rfl | hv; exact rfl)); cases hv)) | exact ltB_loop rfl rfl | exact hMap _ | exact hMap2 _ | exact grB_lt (by first | exact bare0_ints | assumption | exact bVs_bare | exact iVs_bare | exact mVs_bare | (intro v hv; (repeat (rcases List.mem_cons.1 hv with rfl | hv; exact rfl)); cases hv)) _ | exact ltB_encL | exact ltB_map0 | assumption) (avB_nil _) rfl | exact SubQ.ofL (by first | rfl | simp) (by first | exact bare0_ints | assumption | exact bVs_bare | exact iVs_bare | exact mVs_bare | (intro v hv; (repeat (rcases List.mem_cons.1 hv with rfl | hv; exact rfl)); cases hv)) (by first | exact Or.inl rfl | exact Or.inr rfl) | exact SubQ.fin (by (conv => whnf); (repeat' (first | exact True.intro | rfl | refine And.intro ?_ ?_)); done) (fun h => h) (by first | exact Or.inl rfl | exact Or.inr rfl)))), rfl, rfl⟩⟩
          | cons x t =>
            rw [List.length_cons] at j2
            (conv => whnf); (repeat' (first | ((with_reducible refine ifb_mk (fun hc => ?_) (fun hc => ?_)) <;> ((try simp only [decide_eq_true_eq, decide_eq_false_iff_not, Bool.not_eq_true', Bool.not_eq_false', Int.not_lt, Int.not_le, ne_eq, Decidable.not_not, beq_iff_eq, List.cons.injEq, and_true] at hc); (first | (exfalso; omega) | conv => whnf))) | ((with_reducible refine And.intro True.intro ?_); conv => whnf) | ((with_reducible refine WpR.draw (id := 5) mixed [0, 1, 2, 3, 4, 5] [0, 1, 0, 7, 0, 31] ?hh ?_); (case hh => kernel_rfl); conv => whnf) | ((with_reducible refine grd_ex ?_); refine ex_ok (kh _ rfl) ?_; conv => whnf) | ((with_reducible refine And.intro ?hh ?_); (case hh => (unfold InR; (try dsimp only); omega)); conv => whnf) | ((with_reducible refine And.intro ?hh ?_); (case hh => ((try dsimp only); omega)); conv => whnf) | ((with_reducible refine And.intro ?hh ?_); (case hh => ((conv => whnf); (repeat' (first | exact True.intro | rfl | refine And.intro ?_ ?_)); done)); conv => whnf) | fail))
            exact ⟨(k + 1, x :: t), [], by dsimp only; omega, ⟨by dsimp only; omega, by dsimp only; rw [List.length_cons]; omega, j3⟩, ⟨rfl, rfl, (by (repeat' (first | exact True.intro | rfl | refine And.intro ?_ ?_))), (by (repeat' (first | exact True.intro | rfl | refine And.intro ?_ ?_))), (by (repeat' (first | exact True.intro | rfl | refine And.intro ?_ ?_))), (by (repeat' (first | exact True.intro | exact Or.inl rfl | refine And.intro ?_ ?_ | refine Or.inr ⟨_, rfl, ?_⟩ | exact SubQ.same (n := 1000) (Y := []) (fun _ _ _ => rfl) (by first | exact True.intro | exact ltB_all rfl | exact ltB_ofLb (by first | exact bare0_ints | assumption | exact bVs_bare | exact iVs_bare | exact mVs_bare | (intro v hv; (repeat (rcases List.mem_cons.1 hv with rfl | hv; exact rfl)); cases hv)) | exact ltB_loop rfl rfl | exact hMap _ | exact hMap2 _ | exact grB_lt (by first | exact bare0_ints | assumption | exact bVs_bare | exact iVs_bare | exact mVs_bare | (intro v hv; (repeat (rcases List.mem_cons.1 hv with rfl | hv; exact rfl)); cases hv)) _ | exact ltB_encL | exact ltB_map0 | assumption) (avB_nil _) rfl | exact SubQ.ofL (by first | rfl | simp) (by first | exact bare0_ints | assumption | exact bVs_bare | exact iVs_bare | exact mVs_bare | (intro v hv; (repeat (rcases List.mem_cons.1 hv with rfl | hv; exact rfl)); cases hv)) (by first | exact Or.inl rfl | exact Or.inr rfl) | exact SubQ.fin (by (conv => whnf); (repeat' (first | exact True.intro | rfl | refine And.intro ?_ ?_)); done) (fun h => h) (by first | exact Or.inl rfl | exact Or.inr rfl)))), rfl, rfl⟩⟩
        | true =>
          rw [hv, if_pos rfl, ← List.append_assoc] at j3
          cases l with
          | nil =>
            rw [List.nil_append] at j3
            (conv => whnf); (repeat' (first | ((with_reducible refine ifb_mk (fun hc => ?_) (fun hc => ?_)) <;> ((try simp only [decide_eq_true_eq, decide_eq_false_iff_not, Bool.not_eq_true', Bool.not_eq_false', Int.not_lt, Int.not_le, ne_eq, Decidable.not_not, beq_iff_eq, List.cons.injEq, and_true] at hc); (first | (exfalso; omega) | conv => whnf))) | ((with_reducible refine And.intro True.intro ?_); conv => whnf) | ((with_reducible refine WpR.draw (id := 5) mixed [0, 1, 2, 3, 4, 5] [0, 1, 0, 7, 0, 31] ?hh ?_); (case hh => kernel_rfl); conv => whnf) | ((with_reducible refine grd_ex ?_); refine ex_ok (kh _ rfl) ?_; conv => whnf) | (refine AppX.nil (n := 1) Nat.zero_lt_one (Nat.le_of_ble_eq_true rfl) ?_; conv => whnf) | ((with_reducible refine And.intro ?hh ?_); (case hh => (unfold InR; (try dsimp only); omega)); conv => whnf) | ((with_reducible refine And.intro ?hh ?_); (case hh => ((try dsimp only); omega)); conv => whnf) | ((with_reducible refine And.intro ?hh ?_); (case hh => ((conv => whnf); (repeat' (first | exact True.intro | rfl | refine And.intro ?_ ?_)); done)); conv => whnf) | fail))
            exact ⟨(k + 1, [(k : Int)]), [(4, 6)], by dsimp only; omega, ⟨by dsimp only; omega, by simp, j3⟩, ⟨rfl, rfl, (by (repeat' (first | exact True.intro | rfl | refine And.intro ?_ ?_))), (by (repeat' (first | exact True.intro | rfl | refine And.intro ?_ ?_))), (by (repeat' (first | exact True.intro | rfl | refine And.intro ?_ ?_))), (by (repeat' (first | exact True.intro | exact Or.inl rfl | refine And.intro ?_ ?_ | refine Or.inr ⟨_, rfl, ?_⟩ | exact SubQ.same (n := 1000) (Y := []) (fun _ _ _ => rfl) (by first | exact True.intro | exact ltB_all rfl | exact ltB_ofLb (by first | exact bare0_ints | assumption | exact bVs_bare | exact iVs_bare | exact mVs_bare | (intro v hv; (repeat (rcases List.mem_cons.1 hv with rfl | hv; exact rfl)); cases hv)) | exact ltB_loop rfl rfl | exact hMap _ | exact hMap2 _ | exact grB_lt (by first | exact bare0_ints | assumption | exact bVs_bare | exact iVs_bare | exact mVs_bare | (intro v hv; (repeat (rcases List.mem_cons.1 hv with rfl | hv; exact rfl)); cases hv)) _ | exact ltB_encL | exact ltB_map0 | assumption) (avB_nil _) rfl | exact SubQ.ofL (by first | rfl | simp) (by first | exact bare0_ints | assumption | exact bVs_bare | exact iVs_bare | exact mVs_bare | (intro v hv; (repeat (rcases List.mem_cons.1 hv with rfl | hv; exact rfl)); cases hv)) (by first | exact Or.inl rfl | exact Or.inr rfl) | exact SubQ.fin (by (conv => whnf); (repeat' (first | exact True.intro | rfl | refine And.intro ?_ ?_)); done) (fun h => h) (by first | exact Or.inl rfl | exact Or.inr rfl)))), rfl, rfl⟩⟩
          | cons x t =>
            rw [List.length_cons] at j2
            (conv => whnf); (repeat' (first | ((with_reducible refine ifb_mk (fun hc => ?_) (fun hc => ?_)) <;> ((try simp only [decide_eq_true_eq, decide_eq_false_iff_not, Bool.not_eq_true', Bool.not_eq_false', Int.not_lt, Int.not_le, ne_eq, Decidable.not_not, beq_iff_eq, List.cons.injEq, and_true] at hc); (first | (exfalso; omega) | conv => whnf))) | ((with_reducible refine And.intro True.intro ?_); conv => whnf) | ((with_reducible refine WpR.draw (id := 5) mixed [0, 1, 2, 3, 4, 5] [0, 1, 0, 7, 0, 31] ?hh ?_); (case hh => kernel_rfl); conv => whnf) | ((with_reducible refine grd_ex ?_); refine ex_ok (kh _ rfl) ?_; conv => whnf) | (refine AppX.own (n := 1) (L := iVs (x :: t)) (len := t.length + 1) rfl (iVs_length (x :: t)) (iVs_one _) Nat.zero_lt_one (by omega) ?_; conv => whnf) | ((with_reducible refine And.intro ?hh ?_); (case hh => (unfold InR; (try dsimp only); omega)); conv => whnf) | ((with_reducible refine And.intro ?hh ?_); (case hh => ((try dsimp only); omega)); conv => whnf) | ((with_reducible refine And.intro ?hh ?_); (case hh => ((conv => whnf); (repeat' (first | exact True.intro | rfl | refine And.intro ?_ ?_)); done)); conv => whnf) | fail))
            have hB4 : ∀ v ∈ iVs (x :: t) ++ [.int .i64 (k : Int)], bare0 v = true := fun v hv => by
              have e : iVs ((x :: t) ++ [(k : Int)]) = iVs (x :: t) ++ [.int .i64 (k : Int)] := by unfold iVs; rw [List.map_append]; rfl
              rw [← e] at hv; exact iVs_bare v hv
            refine ⟨(k + 1, (x :: t) ++ [(k : Int)]), [(4, 6)], by dsimp only; omega, ⟨by dsimp only; omega, by simp; omega, j3⟩, ?_⟩
            dsimp only
            rw [grB_snoc, grV_snoc]
            exact ⟨rfl, rfl, (by (repeat' (first | exact True.intro | rfl | refine And.intro ?_ ?_))), (by (repeat' (first | exact True.intro | rfl | refine And.intro ?_ ?_))), (by (repeat' (first | exact True.intro | rfl | refine And.intro ?_ ?_))), (by (repeat' (first | exact True.intro | exact Or.inl rfl | refine And.intro ?_ ?_ | refine Or.inr ⟨_, rfl, ?_⟩ | exact SubQ.same (n := 1000) (Y := []) (fun _ _ _ => rfl) (by first | exact True.intro | exact ltB_all rfl | exact ltB_ofLb (by first | exact bare0_ints | assumption | exact bVs_bare | exact iVs_bare | exact mVs_bare | (intro v hv; (repeat (rcases List.mem_cons.1 hv with rfl | hv; exact rfl)); cases hv)) | exact ltB_loop rfl rfl | exact hMap _ | exact hMap2 _ | exact grB_lt (by first | exact bare0_ints | assumption | exact bVs_bare | exact iVs_bare | exact mVs_bare | (intro v hv; (repeat (rcases List.mem_cons.1 hv with rfl | hv; exact rfl)); cases hv)) _ | exact ltB_encL | exact ltB_map0 | assumption) (avB_nil _) rfl | exact SubQ.ofL (by first | rfl | simp) (by first | exact bare0_ints | assumption | exact bVs_bare | exact iVs_bare | exact mVs_bare | (intro v hv; (repeat (rcases List.mem_cons.1 hv with rfl | hv; exact rfl)); cases hv)) (by first | exact Or.inl rfl | exact Or.inr rfl) | exact SubQ.fin (by (conv => whnf); (repeat' (first | exact True.intro | rfl | refine And.intro ?_ ?_)); done) (fun h => h) (by first | exact Or.inl rfl | exact Or.inr rfl)))), rfl, rfl⟩
      · have ek : n - k = 0 := by omega
        have hf : landsL AA n hr z = l := by rw [j3, ek]; exact List.append_nil l
        rw [hf]
        cases l with
        | nil =>
          (conv => whnf); (repeat' (first | ((with_reducible refine ifb_mk (fun hc => ?_) (fun hc => ?_)) <;> ((try simp only [decide_eq_true_eq, decide_eq_false_iff_not, Bool.not_eq_true', Bool.not_eq_false', Int.not_lt, Int.not_le, ne_eq, Decidable.not_not, beq_iff_eq, List.cons.injEq, and_true] at hc); (first | (exfalso; omega) | conv => whnf))) | ((with_reducible refine And.intro True.intro ?_); conv => whnf) | ((with_reducible refine And.intro ?hh ?_); (case hh => (unfold InR; (try dsimp only); omega)); conv => whnf) | ((with_reducible refine And.intro ?hh ?_); (case hh => ((try dsimp only); omega)); conv => whnf) | ((with_reducible refine And.intro ?hh ?_); (case hh => ((conv => whnf); (repeat' (first | exact True.intro | rfl | refine And.intro ?_ ?_)); done)); conv => whnf) | fail))
          all_goals exact ⟨[], rfl, rfl, rfl, trivial, (by (repeat' (first | exact True.intro | rfl | refine And.intro ?_ ?_)))⟩
        | cons x t =>
          (conv => whnf); (repeat' (first | ((with_reducible refine ifb_mk (fun hc => ?_) (fun hc => ?_)) <;> ((try simp only [decide_eq_true_eq, decide_eq_false_iff_not, Bool.not_eq_true', Bool.not_eq_false', Int.not_lt, Int.not_le, ne_eq, Decidable.not_not, beq_iff_eq, List.cons.injEq, and_true] at hc); (first | (exfalso; omega) | conv => whnf))) | ((with_reducible refine And.intro True.intro ?_); conv => whnf) | ((with_reducible refine And.intro ?hh ?_); (case hh => (unfold InR; (try dsimp only); omega)); conv => whnf) | ((with_reducible refine And.intro ?hh ?_); (case hh => ((try dsimp only); omega)); conv => whnf) | ((with_reducible refine And.intro ?hh ?_); (case hh => ((conv => whnf); (repeat' (first | exact True.intro | rfl | refine And.intro ?_ ?_)); done)); conv => whnf) | fail))
          all_goals exact ⟨[4], rfl, rfl, rfl, ⟨⟨_, rfl, rfl, SubQ.ofL rfl iVs_bare (.inr rfl)⟩, ltB_ofLb iVs_bare, rfl, trivial⟩, (by (repeat' (first | exact True.intro | rfl | refine And.intro ?_ ?_)))⟩
    | @sl cap1 ex1 =>
      (conv => whnf); (repeat' (first | ((with_reducible refine ifb_mk (fun hc => ?_) (fun hc => ?_)) <;> ((try simp only [decide_eq_true_eq, decide_eq_false_iff_not, Bool.not_eq_true', Bool.not_eq_false', Int.not_lt, Int.not_le, ne_eq, Decidable.not_not, beq_iff_eq, List.cons.injEq, and_true] at hc); (first | (exfalso; omega) | conv => whnf))) | ((with_reducible refine And.intro True.intro ?_); conv => whnf) | ((with_reducible refine And.intro ?hh ?_); (case hh => (unfold InR; (try dsimp only); omega)); conv => whnf) | ((with_reducible refine And.intro ?hh ?_); (case hh => ((try dsimp only); omega)); conv => whnf) | ((with_reducible refine And.intro ?hh ?_); (case hh => ((conv => whnf); (repeat' (first | exact True.intro | rfl | refine And.intro ?_ ?_)); done)); conv => whnf) | fail))
      have hMap : ∀ i, ltV 5 (grV 4 i) = true := grV_lt rfl
      have hMap2 : ∀ l : List Int, ltB 5 (grB 1 (iVs l) l.length) := fun l => grB_lt iVs_bare _
      refine WpR.loopD (ι := Nat × List Int) [4] [2, 3, 9] [4] [] 5 (fun p => [(5, grV 4 p.2.length), (10, .int .i64 p.1)]) (fun p => [(4, grB 1 (iVs p.2) p.2.length)]) (fun p => n - p.1) (fun p => p.1 ≤ n ∧ p.2.length ≤ p.1 ∧ landsL AA n hr z = p.2 ++ atL AA hr z (n - p.1) p.1) ?_ ((0, [])) (⟨Nat.zero_le _, Nat.zero_le _, rfl⟩) [] ⟨rfl, rfl, (by (repeat' (first | exact True.intro | rfl | refine And.intro ?_ ?_))), (by (repeat' (first | exact True.intro | rfl | refine And.intro ?_ ?_))), (by (repeat' (first | exact True.intro | rfl | refine And.intro ?_ ?_))), (by (repeat' (first | exact True.intro | exact Or.inl rfl | refine And.intro ?_ ?_ | refine Or.inr ⟨_, rfl, ?_⟩ | exact SubQ.same (n := 1000) (Y := []) (fun _ _ _ => rfl) (by first | exact True.intro | exact ltB_all rfl | exact ltB_ofLb (by first | exact bare0_ints | assumption | exact bVs_bare | exact iVs_bare | exact mVs_bare | (intro v hv; (repeat (rcases List.mem_cons.1 hv with rfl | hv; exact rfl)); cases hv)) | exact ltB_loop rfl rfl | exact hMap _ | exact hMap2 _ | exact grB_lt (by first | exact bare0_ints | assumption | exact bVs_bare | exact iVs_bare | exact mVs_bare | (intro v hv; (repeat (rcases List.mem_cons.1 hv with rfl | hv; exact rfl)); cases hv)) _ | exact ltB_encL | exact ltB_map0 | assumption) (avB_nil _) rfl | exact SubQ.ofL (by first | rfl | simp) (by first | exact bare0_ints | assumption | exact bVs_bare | exact iVs_bare | exact mVs_bare | (intro v hv; (repeat (rcases List.mem_cons.1 hv with rfl | hv; exact rfl)); cases hv)) (by first | exact Or.inl rfl | exact Or.inr rfl) | exact SubQ.fin (by (conv => whnf); (repeat' (first | exact True.intro | rfl | refine And.intro ?_ ?_)); done) (fun h => h) (by first | exact Or.inl rfl | exact Or.inr rfl)))), rfl, rfl⟩ rfl rfl rfl (fun _ => rfl) (by (repeat' (first | exact True.intro | refine And.intro ?_ ?_ | exact avV_nil _ | rfl))) (by (repeat' (first | exact True.intro | (with_reducible exact avB_nil _) | ((with_reducible refine avB_all ?_); rfl) | ((with_reducible refine avB_ofLb ?_); exact (by first | exact bare0_ints | assumption | exact bVs_bare | exact iVs_bare | exact mVs_bare | (intro v hv; (repeat (rcases List.mem_cons.1 hv with rfl | hv; exact rfl)); cases hv))) | ((with_reducible refine ltB_all ?_); rfl) | ((with_reducible refine ltB_ofLb ?_); exact (by first | exact bare0_ints | assumption | exact bVs_bare | exact iVs_bare | exact mVs_bare | (intro v hv; (repeat (rcases List.mem_cons.1 hv with rfl | hv; exact rfl)); cases hv))) | ((with_reducible refine ltB_loop ?_ ?_) <;> rfl) | (with_reducible exact hMap _) | (with_reducible exact hMap2 _) | (with_reducible exact ltB_encL) | (with_reducible exact ltB_map0) | ((with_reducible refine grB_lt ?_ _); exact (by first | exact bare0_ints | assumption | exact bVs_bare | exact iVs_bare | exact mVs_bare | (intro v hv; (repeat (rcases List.mem_cons.1 hv with rfl | hv; exact rfl)); cases hv))) | (with_reducible assumption) | refine And.intro ?_ ?_ | exact (by first | exact True.intro | exact ltB_all rfl | exact ltB_ofLb (by first | exact bare0_ints | assumption | exact bVs_bare | exact iVs_bare | exact mVs_bare | (intro v hv; (repeat (rcases List.mem_cons.1 hv with rfl | hv; exact rfl)); cases hv)) | exact ltB_loop rfl rfl | exact hMap _ | exact hMap2 _ | exact grB_lt (by first | exact bare0_ints | assumption | exact bVs_bare | exact iVs_bare | exact mVs_bare | (intro v hv; (repeat (rcases List.mem_cons.1 hv with rfl | hv; exact rfl)); cases hv)) _ | exact ltB_encL | exact ltB_map0 | assumption)))) (fun _ _ => (by (repeat' (first | exact True.intro | rfl | refine And.intro ?_ ?_ | exact (by decide) | exact (by first | exact True.intro | exact hMap _ | exact hMap2 _ | exact grB_lt (by first | exact bare0_ints | assumption | exact bVs_bare | exact iVs_bare | exact mVs_bare | (intro v hv; (repeat (rcases List.mem_cons.1 hv with rfl | hv; exact rfl)); cases hv)) _ | exact ltB_all rfl | exact ltB_ofLb (by first | exact bare0_ints | assumption | exact bVs_bare | exact iVs_bare | exact mVs_bare | (intro v hv; (repeat (rcases List.mem_cons.1 hv with rfl | hv; exact rfl)); cases hv)) | exact ltB_loop rfl rfl | exact ltB_encL | exact ltB_map0 | assumption))))) (fun _ _ => (by (repeat' (first | exact True.intro | rfl | refine And.intro ?_ ?_ | exact (by decide) | exact (by first | exact True.intro | exact hMap _ | exact hMap2 _ | exact grB_lt (by first | exact bare0_ints | assumption | exact bVs_bare | exact iVs_bare | exact mVs_bare | (intro v hv; (repeat (rcases List.mem_cons.1 hv with rfl | hv; exact rfl)); cases hv)) _ | exact ltB_all rfl | exact ltB_ofLb (by first | exact bare0_ints | assumption | exact bVs_bare | exact iVs_bare | exact mVs_bare | (intro v hv; (repeat (rcases List.mem_cons.1 hv with rfl | hv; exact rfl)); cases hv)) | exact ltB_loop rfl rfl | exact ltB_encL | exact ltB_map0 | assumption))))) (fun _ _ => (by (repeat' (first | exact True.intro | rfl | refine And.intro ?_ ?_)))) rfl
      rintro ⟨k, l⟩ ⟨j1, j2, j3⟩
      dsimp only at j1 j2 j3
      refine WpR.of_vc ?_
      by_cases hk : k < n
      · rw [atL_succ AA hr z hk] at j3
        obtain ⟨v, hv⟩ : ∃ v, AA[k * 1152 + z * 48 + hr]? = some v := ⟨_, List.getElem?_eq_getElem (by omega)⟩
        have hvd : (AA.drop (k * 1152))[z * 48 + hr]? = some v := by rw [List.getElem?_drop, ← hv]; congr 1; omega
        have hcell : ∀ o, o = k * 1152 → ∀ i u, (bVs (AA.drop (k * 1152)))[i]? = some u → (ofL (bVs AA) 0).get (o + i) = some u := fun o ho i u hu => by
          subst ho
          rw [bVs_drop, List.getElem?_drop] at hu
          exact get_ofL0 hu
        have kh := fun h' hg => areaHas_ok h' (AA.drop (k * 1152)) 1 (0 + (k : Int).toNat * 1152) ⟨⟨_, false, none, hg, hcell _ (by omega)⟩⟩ hr z hh hz v hvd
        cases v with
        | false =>
          rw [hv, if_neg (by decide), List.nil_append] at j3
          cases l with
          | nil =>
            (conv => whnf); (repeat' (first | ((with_reducible refine ifb_mk (fun hc => ?_) (fun hc => ?_)) <;> ((try simp only [decide_eq_true_eq, decide_eq_false_iff_not, Bool.not_eq_true', Bool.not_eq_false', Int.not_lt, Int.not_le, ne_eq, Decidable.not_not, beq_iff_eq, List.cons.injEq, and_true] at hc); (first | (exfalso; omega) | conv => whnf))) | ((with_reducible refine And.intro True.intro ?_); conv => whnf) | ((with_reducible refine WpR.draw (id := 5) mixed [0, 1, 2, 3, 4, 5] [0, 1, 0, 7, 0, 31] ?hh ?_); (case hh => kernel_rfl); conv => whnf) | ((with_reducible refine grd_ex ?_); refine ex_ok (kh _ rfl) ?_; conv => whnf) | ((with_reducible refine And.intro ?hh ?_); (case hh => (unfold InR; (try dsimp only); omega)); conv => whnf) | ((with_reducible refine And.intro ?hh ?_); (case hh => ((try dsimp only); omega)); conv => whnf) | ((with_reducible refine And.intro ?hh ?_); (case hh => ((conv => whnf); (repeat' (first | exact True.intro | rfl | refine And.intro ?_ ?_)); done)); conv => whnf) | fail))
            exact ⟨(k + 1, []), [], by dsimp only; omega, ⟨by dsimp only; omega, by simp, j3⟩, ⟨rfl, rfl, (by (repeat' (first | exact True.intro | rfl | refine And.intro ?_ ?_))), (by (repeat' (first | exact True.intro | rfl | refine And.intro ?_ ?_))), (by (repeat' (first | exact True.intro | rfl | refine And.intro ?_ ?_))), (by (repeat' (first | exact True.intro | exact Or.inl rfl | refine And.intro ?_ ?_ | refine Or.inr ⟨_, rfl, ?_⟩ | exact SubQ.same (n := 1000) (Y := []) (fun _ _ _ => rfl) (by first | exact True.intro | exact ltB_all rfl | exact ltB_ofLb (by first | exact bare0_ints | assumption | exact bVs_bare | exact iVs_bare | exact mVs_bare | (intro v hv; (repeat (rcases List.mem_cons.1 hv with rfl | hv; exact rfl)); cases hv)) | exact ltB_loop rfl rfl | exact hMap _ | exact hMap2 _ | exact grB_lt (by first | exact bare0_ints | assumption | exact bVs_bare | exact iVs_bare | exact mVs_bare | (intro v hv; (repeat (rcases List.mem_cons.1 hv with rfl | hv; exact rfl)); cases hv)) _ | exact ltB_encL | exact ltB_map0 | assumption) (avB_nil _) rfl | exact SubQ.ofL (by first | rfl | simp) (by first | exact bare0_ints | assumption | exact bVs_bare | exact iVs_bare | exact mVs_bare | (intro v hv; (repeat (rcases List.mem_cons.1 hv with rfl | hv; exact rfl)); cases hv)) (by first | exact Or.inl rfl | exact Or.inr rfl) | exact SubQ.fin (by (conv => whnf); (repeat' (first | exact True.intro | rfl | refine And.intro ?_ ?_)); done) (fun h => h) (by first | exact Or.inl rfl | exact Or.inr rfl)))), rfl, rfl⟩⟩
          | cons x t =>
            rw [List.length_cons] at j2
            (conv => whnf); (repeat' (first | ((with_reducible refine ifb_mk (fun hc => ?_) (fun hc => ?_)) <;> ((try simp only [decide_eq_true_eq, decide_eq_false_iff_not, Bool.not_eq_true', Bool.not_eq_false', Int.not_lt, Int.not_le, ne_eq, Decidable.not_not, beq_iff_eq, List.cons.injEq, and_true] at hc); (first | (exfalso; omega) | conv => whnf))) | ((with_reducible refine And.intro True.intro ?_); conv => whnf) | ((with_reducible refine WpR.draw (id := 5) mixed [0, 1, 2, 3, 4, 5] [0, 1, 0, 7, 0, 31] ?hh ?_); (case hh => kernel_rfl); conv => whnf) | ((with_reducible refine grd_ex ?_); refine ex_ok (kh _ rfl) ?_; conv => whnf) | ((with_reducible refine And.intro ?hh ?_); (case hh => (unfold InR; (try dsimp only); omega)); conv => whnf) | ((with_reducible refine And.intro ?hh ?_); (case hh => ((try dsimp only); omega)); conv => whnf) | ((with_reducible refine And.intro ?hh ?_); (case hh => ((conv => whnf); (repeat' (first | exact True.intro | rfl | refine And.intro ?_ ?_)); done)); conv => whnf) | fail))
            exact ⟨(k + 1, x :: t), [], by dsimp only; omega, ⟨by dsimp only; omega, by dsimp only; rw [List.length_cons]; omega, j3⟩, ⟨rfl, rfl, (by (repeat' (first | exact True.intro | rfl | refine And.intro ?_ ?_))), (by (repeat' (first | exact True.intro | rfl | refine And.intro ?_ ?_))), (by (repeat' (first | exact True.intro | rfl | refine And.intro ?_ ?_))), (by (repeat' (first | exact True.intro | exact Or.inl rfl | refine And.intro ?_ ?_ | refine Or.inr ⟨_, rfl, ?_⟩ | exact SubQ.same (n := 1000) (Y := []) (fun _ _ _ => rfl) (by first | exact True.intro | exact ltB_all rfl | exact ltB_ofLb (by first | exact bare0_ints | assumption | exact bVs_bare | exact iVs_bare | exact mVs_bare | (intro v hv; (repeat (rcases List.mem_cons.1 hv with rfl | hv; exact rfl)); cases hv)) | exact ltB_loop rfl rfl | exact hMap _ | exact hMap2 _ | exact grB_lt (by first | exact bare0_ints | assumption | exact bVs_bare | exact iVs_bare | exact mVs_bare | (intro v hv; (repeat (rcases List.mem_cons.1 hv with rfl | hv; exact rfl)); cases hv)) _ | exact ltB_encL | exact ltB_map0 | assumption) (avB_nil _) rfl | exact SubQ.ofL (by first | rfl | simp) (by first | exact bare0_ints | assumption | exact bVs_bare | exact iVs_bare | exact mVs_bare | (intro v hv; (repeat (rcases List.mem_cons.1 hv with rfl | hv; exact rfl)); cases hv)) (by first | exact Or.inl rfl | exact Or.inr rfl) | exact SubQ.fin (by (conv => whnf); (repeat' (first | exact True.intro | rfl | refine And.intro ?_ ?_)); done) (fun h => h) (by first | exact Or.inl rfl | exact Or.inr rfl)))), rfl, rfl⟩⟩
        | true =>
          rw [hv, if_pos rfl, ← List.append_assoc] at j3
          cases l with
          | nil =>
            rw [List.nil_append] at j3
            (conv => whnf); (repeat' (first | ((with_reducible refine ifb_mk (fun hc => ?_) (fun hc => ?_)) <;> ((try simp only [decide_eq_true_eq, decide_eq_false_iff_not, Bool.not_eq_true', Bool.not_eq_false', Int.not_lt, Int.not_le, ne_eq, Decidable.not_not, beq_iff_eq, List.cons.injEq, and_true] at hc); (first | (exfalso; omega) | conv => whnf))) | ((with_reducible refine And.intro True.intro ?_); conv => whnf) | ((with_reducible refine WpR.draw (id := 5) mixed [0, 1, 2, 3, 4, 5] [0, 1, 0, 7, 0, 31] ?hh ?_); (case hh => kernel_rfl); conv => whnf) | ((with_reducible refine grd_ex ?_); refine ex_ok (kh _ rfl) ?_; conv => whnf) | (refine AppX.nil (n := 1) Nat.zero_lt_one (Nat.le_of_ble_eq_true rfl) ?_; conv => whnf) | ((with_reducible refine And.intro ?hh ?_); (case hh => (unfold InR; (try dsimp only); omega)); conv => whnf) | ((with_reducible refine And.intro ?hh ?_); (case hh => ((try dsimp only); omega)); conv => whnf) | ((with_reducible refine And.intro ?hh ?_); (case hh => ((conv => whnf); (repeat' (first | exact True.intro | rfl | refine And.intro ?_ ?_)); done)); conv => whnf) | fail))
            exact ⟨(k + 1, [(k : Int)]), [(4, 6)], by dsimp only; omega, ⟨by dsimp only; omega, by simp, j3⟩, ⟨rfl, rfl, (by (repeat' (first | exact True.intro | rfl | refine And.intro ?_ ?_))), (by (repeat' (first | exact True.intro | rfl | refine And.intro ?_ ?_))), (by (repeat' (first | exact True.intro | rfl | refine And.intro ?_ ?_))), (by (repeat' (first | exact True.intro | exact Or.inl rfl | refine And.intro ?_ ?_ | refine Or.inr ⟨_, rfl, ?_⟩ | exact SubQ.same (n := 1000) (Y := []) (fun _ _ _ => rfl) (by first | exact True.intro | exact ltB_all rfl | exact ltB_ofLb (by first | exact bare0_ints | assumption | exact bVs_bare | exact iVs_bare | exact mVs_bare | (intro v hv; (repeat (rcases List.mem_cons.1 hv with rfl | hv; exact rfl)); cases hv)) | exact ltB_loop rfl rfl | exact hMap _ | exact hMap2 _ | exact grB_lt (by first | exact bare0_ints | assumption | exact bVs_bare | exact iVs_bare | exact mVs_bare | (intro v hv; (repeat (rcases List.mem_cons.1 hv with rfl | hv; exact rfl)); cases hv)) _ | exact ltB_encL | exact ltB_map0 | assumption) (avB_nil _) rfl | exact SubQ.ofL (by first | rfl | simp) (by first | exact bare0_ints | assumption | exact bVs_bare | exact iVs_bare | exact mVs_bare | (intro v hv; (repeat (rcases List.mem_cons.1 hv with rfl | hv; exact rfl)); cases hv)) (by first | exact Or.inl rfl | exact Or.inr rfl) | exact SubQ.fin (by (conv => whnf); (repeat' (first | exact True.intro | rfl | refine And.intro ?_ ?_)); done) (fun h => h) (by first | exact Or.inl rfl | exact Or.inr rfl)))), rfl, rfl⟩⟩
          | cons x t =>
            rw [List.length_cons] at j2
            (conv => whnf); (repeat' (first | ((with_reducible refine ifb_mk (fun hc => ?_) (fun hc => ?_)) <;> ((try simp only [decide_eq_true_eq, decide_eq_false_iff_not, Bool.not_eq_true', Bool.not_eq_false', Int.not_lt, Int.not_le, ne_eq, Decidable.not_not, beq_iff_eq, List.cons.injEq, and_true] at hc); (first | (exfalso; omega) | conv => whnf))) | ((with_reducible refine And.intro True.intro ?_); conv => whnf) | ((with_reducible refine WpR.draw (id := 5) mixed [0, 1, 2, 3, 4, 5] [0, 1, 0, 7, 0, 31] ?hh ?_); (case hh => kernel_rfl); conv => whnf) | ((with_reducible refine grd_ex ?_); refine ex_ok (kh _ rfl) ?_; conv => whnf) | (refine AppX.own (n := 1) (L := iVs (x :: t)) (len := t.length + 1) rfl (iVs_length (x :: t)) (iVs_one _) Nat.zero_lt_one (by omega) ?_; conv => whnf) | ((with_reducible refine And.intro ?hh ?_); (case hh => (unfold InR; (try dsimp only); omega)); conv => whnf) | ((with_reducible refine And.intro ?hh ?_); (case hh => ((try dsimp only); omega)); conv => whnf) | ((with_reducible refine And.intro ?hh ?_); (case hh => ((conv => whnf); (repeat' (first | exact True.intro | rfl | refine And.intro ?_ ?_)); done)); conv => whnf) | fail))
            have hB4 : ∀ v ∈ iVs (x :: t) ++ [.int .i64 (k : Int)], bare0 v = true := fun v hv => by
              have e : iVs ((x :: t) ++ [(k : Int)]) = iVs (x :: t) ++ [.int .i64 (k : Int)] := by unfold iVs; rw [List.map_append]; rfl
              rw [← e] at hv; exact iVs_bare v hv
            refine ⟨(k + 1, (x :: t) ++ [(k : Int)]), [(4, 6)], by dsimp only; omega, ⟨by dsimp only; omega, by simp; omega, j3⟩, ?_⟩
            dsimp only
            rw [grB_snoc, grV_snoc]
            exact ⟨rfl, rfl, (by (repeat' (first | exact True.intro | rfl | refine And.intro ?_ ?_))), (by (repeat' (first | exact True.intro | rfl | refine And.intro ?_ ?_))), (by (repeat' (first | exact True.intro | rfl | refine And.intro ?_ ?_))), (by (repeat' (first | exact True.intro | exact Or.inl rfl | refine And.intro ?_ ?_ | refine Or.inr ⟨_, rfl, ?_⟩ | exact SubQ.same (n := 1000) (Y := []) (fun _ _ _ => rfl) (by first | exact True.intro | exact ltB_all rfl | exact ltB_ofLb (by first | exact bare0_ints | assumption | exact bVs_bare | exact iVs_bare | exact mVs_bare | (intro v hv; (repeat (rcases List.mem_cons.1 hv with rfl | hv; exact rfl)); cases hv)) | exact ltB_loop rfl rfl | exact hMap _ | exact hMap2 _ | exact grB_lt (by first | exact bare0_ints | assumption | exact bVs_bare | exact iVs_bare | exact mVs_bare | (intro v hv; (repeat (rcases List.mem_cons.1 hv with rfl | hv; exact rfl)); cases hv)) _ | exact ltB_encL | exact ltB_map0 | assumption) (avB_nil _) rfl | exact SubQ.ofL (by first | rfl | simp) (by first | exact bare0_ints | assumption | exact bVs_bare | exact iVs_bare | exact mVs_bare | (intro v hv; (repeat (rcases List.mem_cons.1 hv with rfl | hv; exact rfl)); cases hv)) (by first | exact Or.inl rfl | exact Or.inr rfl) | exact SubQ.fin (by (conv => whnf); (repeat' (first | exact True.intro | rfl | refine And.intro ?_ ?_)); done) (fun h => h) (by first | exact Or.inl rfl | exact Or.inr rfl)))), rfl, rfl⟩
      · have ek : n - k = 0 := by omega
        have hf : landsL AA n hr z = l := by rw [j3, ek]; exact List.append_nil l
        rw [hf]
        cases l with
        | nil =>
          (conv => whnf); (repeat' (first | ((with_reducible refine ifb_mk (fun hc => ?_) (fun hc => ?_)) <;> ((try simp only [decide_eq_true_eq, decide_eq_false_iff_not, Bool.not_eq_true', Bool.not_eq_false', Int.not_lt, Int.not_le, ne_eq, Decidable.not_not, beq_iff_eq, List.cons.injEq, and_true] at hc); (first | (exfalso; omega) | conv => whnf))) | ((with_reducible refine And.intro True.intro ?_); conv => whnf) | ((with_reducible refine And.intro ?hh ?_); (case hh => (unfold InR; (try dsimp only); omega)); conv => whnf) | ((with_reducible refine And.intro ?hh ?_); (case hh => ((try dsimp only); omega)); conv => whnf) | ((with_reducible refine And.intro ?hh ?_); (case hh => ((conv => whnf); (repeat' (first | exact True.intro | rfl | refine And.intro ?_ ?_)); done)); conv => whnf) | fail))
          all_goals exact ⟨[], rfl, rfl, rfl, trivial, (by (repeat' (first | exact True.intro | rfl | refine And.intro ?_ ?_)))⟩
        | cons x t =>
          (conv => whnf); (repeat' (first | ((with_reducible refine ifb_mk (fun hc => ?_) (fun hc => ?_)) <;> ((try simp only [decide_eq_true_eq, decide_eq_false_iff_not, Bool.not_eq_true', Bool.not_eq_false', Int.not_lt, Int.not_le, ne_eq, Decidable.not_not, beq_iff_eq, List.cons.injEq, and_true] at hc); (first | (exfalso; omega) | conv => whnf))) | ((with_reducible refine And.intro True.intro ?_); conv => whnf) | ((with_reducible refine And.intro ?hh ?_); (case hh => (unfold InR; (try dsimp only); omega)); conv => whnf) | ((with_reducible refine And.intro ?hh ?_); (case hh => ((try dsimp only); omega)); conv => whnf) | ((with_reducible refine And.intro ?hh ?_); (case hh => ((conv => whnf); (repeat' (first | exact True.intro | rfl | refine And.intro ?_ ?_)); done)); conv => whnf) | fail))
          all_goals exact ⟨[4], rfl, rfl, rfl, ⟨⟨_, rfl, rfl, SubQ.ofL rfl iVs_bare (.inr rfl)⟩, ltB_ofLb iVs_bare, rfl, trivial⟩, (by (repeat' (first | exact True.intro | rfl | refine And.intro ?_ ?_)))⟩
end Go.Proofs.B

namespace Go.Proofs.B
open Go.As
set_option maxRecDepth 20000
set_option linter.unusedVariables false
set_option linter.unusedSimpArgs false

/-! ### The map of places with a number each -/

abbrev P2 := Int × Int
abbrev Q := P2 × Nat
section
variable (cnt : P2 → Int)
def enc (q : Q) : Value × V × Nat := (key2 q.1, .int .i64 (cnt q.1), q.2)
def encL (L : List Q) : List (Value × V × Nat) := L.map (enc cnt)
end
section
variable {cnt : P2 → Int}
theorem keysPair : KeysOk Try.prog 78 key2 := keysOk_two (fs := _) rfl (by kernel_rfl) (by kernel_rfl) rfl
theorem encL_keys (L : List Q) : (encL cnt L).map (·.1) = (L.map (·.1)).map key2 := by unfold encL enc; simp [List.map_map]
theorem findQ (em : Bool) (L : List Q) (p : P2) : findAt Try.prog em 78 (key2 p) (encL cnt L) = some ((L.map (·.1)).findIdx? fun a => decide (p = a)) :=
  findAt_ok keysPair em p (L.map (·.1)) (encL_keys L)
theorem ltB_encL {n clock : Nat} {L : List Q} : ltB n (.map (encL cnt L) clock) := by
  intro e he
  obtain ⟨x, _, rfl⟩ := List.mem_map.1 he
  rfl

theorem zip_fst (K : List P2) : K.zipIdx.map (·.1) = K := by simp
theorem zip_get {K : List P2} {q : Q} (h : q ∈ K.zipIdx) : K[q.2]? = some q.1 ∧ q.2 < K.length := by
  obtain ⟨i, hi⟩ := List.mem_iff_getElem?.1 h
  rw [List.getElem?_zipIdx] at hi
  obtain ⟨a, ha, hb⟩ := Option.map_eq_some_iff.1 hi
  subst hb
  simp only [Nat.zero_add]
  exact ⟨ha, (List.getElem?_eq_some_iff.1 ha).1⟩
theorem ins_none {K : List P2} {p : P2} (h : p ∉ K) : findAt Try.prog false 78 (key2 p) (encL cnt K.zipIdx) = some none := by
  rw [findQ, zip_fst, List.findIdx?_eq_none_iff.2]
  intro x hx
  exact decide_eq_false fun hc => h (hc ▸ hx)
theorem set_same {α : Type} {l : List α} {j : Nat} {x : α} (h : l[j]? = some x) : l.set j x = l := by
  obtain ⟨hj, rfl⟩ := List.getElem?_eq_some_iff.1 h
  exact List.set_getElem_self hj
theorem encL_snoc (K : List P2) (p : P2) : encL cnt (K ++ [p]).zipIdx = encL cnt K.zipIdx ++ [(key2 p, .int .i64 (cnt p), K.length)] := by
  unfold encL
  rw [List.zipIdx_append, List.map_append]
  simp [enc]

/-! What goes through them. -/

def cur (K : List P2) (bad : P2 → Bool) (seen : List Nat) : List Q := K.zipIdx.filter fun q => !(seen.contains q.2 && bad q.1)
def msr (K : List P2) (seen : List Nat) : Nat := (K.zipIdx.filter fun q => !seen.contains q.2).length

theorem cur_mem {K : List P2} {bad : P2 → Bool} {seen : List Nat} {q : Q} (h : q ∈ cur K bad seen) : q ∈ K.zipIdx := (List.mem_filter.1 h).1
theorem nodup_keys {K : List P2} (hK : K.Nodup) (f : Q → Bool) : ((K.zipIdx.filter f).map (·.1)).Nodup :=
  List.Nodup.sublist ((List.filter_sublist (l := K.zipIdx) (p := f)).map _) (by rw [zip_fst]; exact hK)
theorem zip_uniq {K : List P2} {q r : Q} (hq : q ∈ K.zipIdx) (hr : r ∈ K.zipIdx) (h : q.2 = r.2) : q = r := by
  have h1 := (zip_get hq).1
  have h2 := (zip_get hr).1
  rw [h, h2] at h1
  exact Prod.ext (Option.some.inj h1).symm h
theorem left_mem {L : List Q} {seen : List Nat} {e : Value × V × Nat} (h : e ∈ leftL (encL cnt L) seen) : ∃ q ∈ L, e = enc cnt q ∧ q.2 ∉ seen := by
  unfold leftL encL at h
  obtain ⟨h1, h2⟩ := List.mem_filter.1 h
  obtain ⟨q, hq, rfl⟩ := List.mem_map.1 h1
  exact ⟨q, hq, rfl, by simpa [enc] using h2⟩
theorem left_nil {K : List P2} {bad : P2 → Bool} {seen : List Nat} (h : leftL (encL cnt (cur K bad seen)) seen = []) : cur K bad seen = K.zipIdx.filter fun q => !bad q.1 := by
  unfold cur
  refine List.filter_congr fun q hq => ?_
  cases hb : bad q.1 with
  | false => simp
  | true =>
    rw [Bool.and_true]
    cases hs : seen.contains q.2 with
    | true => rfl
    | false =>
      exfalso
      have h1 : q ∈ cur K bad seen := List.mem_filter.2 ⟨hq, by rw [hs]; rfl⟩
      have h2 : enc cnt q ∈ leftL (encL cnt (cur K bad seen)) seen := List.mem_filter.2 ⟨List.mem_map.2 ⟨q, h1, rfl⟩, by show (!seen.contains q.2) = true; rw [hs]; rfl⟩
      rw [h] at h2
      cases h2
theorem find_stamp : ∀ {L : List Q} {q : Q}, q ∈ L → (∀ a ∈ L, a.2 = q.2 → a = q) → (encL cnt L).find? (fun e => Nat.beq e.2.2 q.2) = some (enc cnt q)
  | a :: L, q, hq, hu => by
    show List.find? _ (enc cnt a :: encL cnt L) = _
    rw [List.find?_cons]
    by_cases h : a.2 = q.2
    · have := hu a (List.mem_cons_self ..) h
      subst this
      have : Nat.beq (enc cnt a).2.2 a.2 = true := Nat.beq_refl _
      rw [this]
    · have hb : Nat.beq (enc cnt a).2.2 q.2 = false := by rw [Bool.eq_false_iff]; intro hc; exact h (Nat.eq_of_beq_eq_true hc)
      rw [hb]
      rcases List.mem_cons.1 hq with rfl | hq
      · exact absurd rfl h
      · exact find_stamp hq fun b hb => hu b (List.mem_cons_of_mem _ hb)
theorem del_at : ∀ {L : List Q} {q : Q}, (L.map (·.1)).Nodup → q ∈ L → ∃ j, (L.map (·.1)).findIdx? (fun a => decide (q.1 = a)) = some j ∧ (encL cnt L).eraseIdx j = encL cnt (L.filter fun a => decide (a ≠ q))
  | a :: L, q, hn, hq => by
    rw [List.map_cons, List.nodup_cons] at hn
    rw [List.map_cons, List.findIdx?_cons]
    rcases List.mem_cons.1 hq with rfl | hq
    · refine ⟨0, by simp, ?_⟩
      show encL cnt L = _
      rw [List.filter_cons_of_neg (by simp)]
      congr 1
      rw [List.filter_eq_self.2]
      intro b hb
      exact decide_eq_true fun hc => hn.1 (List.mem_map.2 ⟨b, hb, by rw [hc]⟩)
    · have hne : q.1 ≠ a.1 := fun hc => hn.1 (List.mem_map.2 ⟨q, hq, hc⟩)
      obtain ⟨j, h1, h2⟩ := del_at hn.2 hq
      refine ⟨j + 1, by rw [decide_eq_false hne, h1]; rfl, ?_⟩
      show enc cnt a :: (encL cnt L).eraseIdx j = _
      have hna : a ≠ q := fun hc => hne (by rw [hc])
      rw [List.filter_cons_of_pos (by simpa using hna), h2]
      rfl
theorem step_bad {K : List P2} {bad : P2 → Bool} {seen : List Nat} {q : Q} (hq : q ∈ K.zipIdx) (hb : bad q.1 = true) : (cur K bad seen).filter (fun a => decide (a ≠ q)) = cur K bad (seen ++ [q.2]) := by
  unfold cur
  rw [List.filter_filter]
  refine List.filter_congr fun a ha => ?_
  by_cases h : a = q
  · subst h
    simp [hb]
  · have h2 : a.2 ≠ q.2 := fun hc => h (zip_uniq ha hq hc)
    rw [decide_eq_true h, Bool.true_and]
    congr 2
    simp [h2]
theorem step_ok {K : List P2} {bad : P2 → Bool} {seen : List Nat} {q : Q} (hq : q ∈ K.zipIdx) (hb : bad q.1 = false) : cur K bad seen = cur K bad (seen ++ [q.2]) := by
  unfold cur
  refine List.filter_congr fun a ha => ?_
  by_cases h : a = q
  · subst h
    simp [hb]
  · have h2 : a.2 ≠ q.2 := fun hc => h (zip_uniq ha hq hc)
    congr 2
    simp [h2]
theorem filter_lt {α : Type} {p p' : α → Bool} (hpp : ∀ a, p' a = true → p a = true) : ∀ {l : List α} {x : α}, x ∈ l → p x = true → p' x = false → (l.filter p').length < (l.filter p).length
  | a :: l, x, hx, h1, h2 => by
    have hle : ∀ l : List α, (l.filter p').length ≤ (l.filter p).length := fun l => by
      induction l with
      | nil => exact Nat.le_refl _
      | cons b l ih =>
        by_cases hb : p' b = true
        · rw [List.filter_cons_of_pos hb, List.filter_cons_of_pos (hpp b hb)]; simp; exact ih
        · rw [List.filter_cons_of_neg hb]
          by_cases hc : p b = true
          · rw [List.filter_cons_of_pos hc]; simp; omega
          · rw [List.filter_cons_of_neg hc]; exact ih
    rcases List.mem_cons.1 hx with rfl | hx
    · rw [List.filter_cons_of_pos h1, List.filter_cons_of_neg (by rw [h2]; decide)]
      have := hle l
      simp; omega
    · have ih := filter_lt hpp hx h1 h2
      by_cases hb : p' a = true
      · rw [List.filter_cons_of_pos hb, List.filter_cons_of_pos (hpp a hb)]; simp; exact ih
      · rw [List.filter_cons_of_neg hb]
        by_cases hc : p a = true
        · rw [List.filter_cons_of_pos hc]; simp; omega
        · rw [List.filter_cons_of_neg hc]; exact ih
theorem msr_lt {K : List P2} {seen : List Nat} {q : Q} (hq : q ∈ K.zipIdx) (hs : q.2 ∉ seen) : msr K (seen ++ [q.2]) < msr K seen :=
  filter_lt (fun a ha => by
    simp only [Bool.not_eq_true', List.contains_eq_mem, List.mem_append, decide_eq_false_iff_not, not_or] at ha ⊢
    exact ha.1) hq (by simpa using hs) (by simp)
end

/-! ### The places of a sky, in their order -/

/-- The first x places of zone z. -/
def rowL (z x : Nat) : List P2 := (List.range x).map fun i : Nat => ((i : Int), (z : Int))
/-- All places of the first z zones. -/
def plL (H : Nat) : Nat → List P2
  | 0 => []
  | z + 1 => plL H z ++ rowL z H
theorem rowL_succ (z x : Nat) : rowL z (x + 1) = rowL z x ++ [((x : Int), (z : Int))] := by unfold rowL; rw [List.range_succ, List.map_append]; rfl
theorem rowL_mem {z x : Nat} {p : P2} (h : p ∈ rowL z x) : p.2 = z ∧ ∃ i : Nat, i < x ∧ p.1 = i := by
  obtain ⟨i, hi, rfl⟩ := List.mem_map.1 h
  exact ⟨rfl, i, List.mem_range.1 hi, rfl⟩
theorem plL_mem {H : Nat} : ∀ {z : Nat} {p : P2}, p ∈ plL H z → ∃ k : Nat, k < z ∧ p.2 = k
  | 0, p, h => by simp [plL] at h
  | z + 1, p, h => by
    rcases List.mem_append.1 h with h | h
    · obtain ⟨k, h1, h2⟩ := plL_mem h
      exact ⟨k, by omega, h2⟩
    · exact ⟨z, by omega, (rowL_mem h).1⟩
theorem rowL_nodup (z x : Nat) : (rowL z x).Nodup := by
  unfold rowL
  refine List.Pairwise.map _ ?_ List.nodup_range
  intro a b hab hc
  exact hab (by have := congrArg Prod.fst hc; dsimp only at this; omega)
theorem pre_nodup (H : Nat) : ∀ (z x : Nat), (plL H z ++ rowL z x).Nodup
  | 0, x => by simpa [plL] using rowL_nodup 0 x
  | z + 1, x => by
    rw [List.nodup_append]
    refine ⟨pre_nodup H z H, rowL_nodup _ _, fun a ha b hb hc => ?_⟩
    subst hc
    obtain ⟨k, h1, h2⟩ := plL_mem ha
    have := (rowL_mem hb).1
    rw [h2] at this
    omega
theorem pre_new (H z x : Nat) : ((x : Int), (z : Int)) ∉ plL H z ++ rowL z x := by
  intro h
  rcases List.mem_append.1 h with h | h
  · obtain ⟨k, h1, h2⟩ := plL_mem h
    dsimp only at h2
    omega
  · obtain ⟨i, h1, h2⟩ := (rowL_mem h).2
    dsimp only at h2
    omega
end Go.Proofs.B

