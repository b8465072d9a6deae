/- What the functions answer that the laws call, one after another (Forms). -/
import Derived.Test.YtjkgnkhbbnmgbaaAs6
import Derived.Test.YtjkgnkhbbnmgbaaHgt
import Derived.Test.YtjkgnkhbbnmgbaaAlk

set_option linter.unusedVariables false
namespace Go.Proofs.P
open Go.As
set_option maxRecDepth 20000
set_option linter.unusedVariables false
set_option linter.unusedSimpArgs false

/-! ### The reference's least form -/

/-- the least so far: which of the list, or none -/
def bstL (n : Nat) (D : List Int) : Option Nat → List Int
  | some r => movL n r D
  | none => D
def bst (n : Nat) (D : List Int) (R : List Nat) : Nat → Option Nat
  | 0 => none
  | i + 1 => if lexC (movL n (R.getD i 0) D) (bstL n D (bst n D R i)) < 0 then some (R.getD i 0) else bst n D R i
def bstS (cap : Nat) (ex : Bool) (len : Nat) : Option Nat → V
  | some _ => .sl 5 0 len len true
  | none => .sl 0 0 len cap ex
noncomputable def bstB (n : Nat) (D : List Int) : Option Nat → Blk
  | some r => .cells (ofL (iVs (movL n r D)) 0) true none
  | none => .dead
def bstN : Option Nat → Nat
  | some r => r
  | none => 0

theorem added_own {sz : Nat} {h : H} {b n cap : Nat} {ex w : Bool} {c : Tr V} {g : Option (Nat × Nat)} {r : List V} (hg : h.get b = some (.cells c w g)) (hn : getN c (n * sz) 0 = some r) (ho : r.all one = true) : added sz h (.sl b 0 n cap ex) = some (n, r) := by
  simp [added, hg, hn, ho]
theorem bst_lt {n : Nat} {D : List Int} {R : List Nat} (h : ∀ r ∈ R, r < 8) : ∀ i, i ≤ R.length → bstN (bst n D R i) < 8
  | 0, _ => Nat.zero_lt_succ _
  | i + 1, hi => by
    unfold bst
    split
    · show R.getD i 0 < 8
      rw [List.getD_eq_getElem?_getD, List.getElem?_eq_getElem (by omega)]
      exact h _ (List.getElem_mem _)
    · exact bst_lt h i (by omega)
set_option maxHeartbeats 8000000 in
theorem leastOf_ok (h : H) (n : Nat) (hn : 1 ≤ n ∧ n ≤ 8) (D : List Int) (hD : D.length = n * n) (b o cap : Nat) (ex : Bool) (hs : SlC h (iVs D) D.length (.sl b o D.length cap ex)) (R : List Nat) (hR8 : ∀ r ∈ R, r < 8) (hRl : R.length ≤ 8) (rv : V) (hrv : SlC h (iVs (R.map Int.ofNat)) R.length rv) :
    CallOk Try.prog 90 [plateV n (.sl b o D.length cap ex), rv] h (.tup [plateV n (.sl h.n 0 (0 + D.length) (0 + D.length) false), .int .i64 (bstN (bst n D R R.length) : Nat)]) (addBs h [.cells (ofL (iVs (bstL n D (bst n D R R.length))) 0) true (some (1, (0 + D.length) * 1))]) := by
  obtain ⟨v1, s1, q1, ca1, w1⟩ := hs.view 0
  obtain ⟨v2, s2, q2, ca2, w2⟩ := hrv.view 1
  have hN : 1 ≤ D.length ∧ D.length ≤ 64 := by
    rw [hD]
    have h1 : 1 * 1 ≤ n * n := Nat.mul_le_mul hn.1 hn.1
    have h2 : n * n ≤ 8 * 8 := Nat.mul_le_mul hn.2 hn.2
    omega
  obtain ⟨cp1, ex1, rfl⟩ : ∃ cap ex, s1 = .sl 0 0 D.length cap ex := by
    cases q1 with
    | nil h0 => omega
    | sl => exact ⟨_, _, rfl⟩
  have hB1 := @iVs_bare D
  have hB2 := @iVs_bare (R.map Int.ofNat)
  refine CallOk.runN Try.func90 rfl rfl (argsC := [plateV n (.sl 0 0 D.length cp1 ex1), s2]) (fun N => .tup [plateV n (.sl N 0 (0 + D.length) (0 + D.length) false), .int .i64 (bstN (bst n D R R.length) : Nat)]) (fun _ => [.cells (ofL (iVs (bstL n D (bst n D R R.length))) 0) true (some (1, (0 + D.length) * 1))]) (Nat.le_of_ble_eq_true rfl) [v1, v2] (.cons (CaL.agg (.cons (.bare rfl) (.cons (ca1 _ rfl) .nil))) (.cons (ca2 _ rfl) .nil)) (viewMc2 hB1 w1 hB2 w2)
    (ShV.tup (.cons (ShV.agg (.cons (.bare rfl) (.cons (.sl (i := 0) (Nat.le_of_ble_eq_true rfl) rfl rfl) .nil))) (.cons (.bare rfl) .nil))) rfl
    (fun i b hi => by
      match i with
      | 0 => have e := Option.some.inj hi; subst e; exact ⟨_, rfl, rfl, .bare (ofL_bare iVs_bare)⟩
      | i + 1 => simp at hi)
    (WpR.of_vc ?_)
  have hcase : ∀ o : Option Nat, ltV 6 (bstS cp1 ex1 D.length o) = true := fun o => by cases o <;> rfl
  have hMap : ∀ o : Option Nat, ltB 6 (.cells (ofL [.int .i64 n, bstS cp1 ex1 D.length o] 0) true none) := fun o => ltB_ofL (fun v hv => by
    rcases List.mem_cons.1 hv with rfl | hv
    · rfl
    · rw [List.mem_singleton] at hv; subst hv; exact hcase o)
  have hMap2 : ∀ o : Option Nat, ltB 6 (bstB n D o) := fun o => by
    cases o with
    | none => trivial
    | some r => exact ltB_ofLb iVs_bare
  have hBs : ∀ i, bst n D R (i + 1) = if lexC (movL n (R.getD i 0) D) (bstL n D (bst n D R i)) < 0 then some (R.getD i 0) else bst n D R i := fun i => rfl
  have hBlt := bst_lt (n := n) (D := D) hR8
  obtain ⟨oe, hoe⟩ : ∃ o, bst n D R R.length = o := ⟨_, rfl⟩
  rw [hoe]
  cases q2 with
  | nil h0 =>
    (conv => whnf); (repeat' (first | ((with_reducible refine ifb_mk (fun hc => ?_) (fun hc => ?_)) <;> ((try simp only [decide_eq_true_eq, decide_eq_false_iff_not, Bool.not_eq_true', Bool.not_eq_false', Int.not_lt, Int.not_le, ne_eq, Decidable.not_not, beq_iff_eq, List.cons.injEq, and_true] at hc); (first | (exfalso; omega) | conv => whnf))) | ((with_reducible refine And.intro True.intro ?_); conv => whnf) | ((with_reducible refine And.intro ?hh ?_); (case hh => (unfold InR; (try dsimp only); omega)); conv => whnf) | ((with_reducible refine And.intro ?hh ?_); (case hh => ((try dsimp only); omega)); conv => whnf) | ((with_reducible refine And.intro ?hh ?_); (case hh => ((conv => whnf); (repeat' (first | exact True.intro | rfl | refine And.intro ?_ ?_)); done)); conv => whnf) | fail))
    refine WpR.loopD (ι := Nat) [] [1, 2, 4, 6] [4, 5] [] 6 (fun i => [(7, .int .i64 (bstN (bst n D R i) : Nat)), (8, .int .i64 i)]) (fun i => [(4, .cells (ofL [.int .i64 n, bstS cp1 ex1 D.length (bst n D R i)] 0) true none), (5, bstB n D (bst n D R i))]) (fun i => R.length - i) (fun i => i ≤ R.length) ?_ (0) (Nat.zero_le _) [] ⟨rfl, rfl, (by (repeat' (first | exact True.intro | rfl | refine And.intro ?_ ?_))), (by (repeat' (first | exact True.intro | rfl | refine And.intro ?_ ?_))), (by (repeat' (first | exact True.intro | rfl | refine And.intro ?_ ?_))), (by (repeat' (first | exact True.intro | exact Or.inl rfl | refine And.intro ?_ ?_ | refine Or.inr ⟨_, rfl, ?_⟩ | exact SubQ.same (n := 1000) (Y := []) (fun _ _ _ => rfl) (by first | exact True.intro | exact ltB_all rfl | exact ltB_ofLb (by first | exact bare0_ints | assumption | exact bVs_bare | exact iVs_bare | exact mVs_bare | (intro v hv; (repeat (rcases List.mem_cons.1 hv with rfl | hv; exact rfl)); cases hv)) | exact ltB_loop rfl rfl | exact hMap _ | exact hMap2 _ | exact grB_lt (by first | exact bare0_ints | assumption | exact bVs_bare | exact iVs_bare | exact mVs_bare | (intro v hv; (repeat (rcases List.mem_cons.1 hv with rfl | hv; exact rfl)); cases hv)) _ | exact ltB_encL | exact ltB_map0 | assumption) (avB_nil _) rfl | exact SubQ.ofL (by first | rfl | simp) (by first | exact bare0_ints | assumption | exact bVs_bare | exact iVs_bare | exact mVs_bare | (intro v hv; (repeat (rcases List.mem_cons.1 hv with rfl | hv; exact rfl)); cases hv)) (by first | exact Or.inl rfl | exact Or.inr rfl) | exact SubQ.fin (by (conv => whnf); (repeat' (first | exact True.intro | rfl | refine And.intro ?_ ?_)); done) (fun h => h) (by first | exact Or.inl rfl | exact Or.inr rfl)))), rfl, rfl⟩ rfl rfl rfl (fun _ => rfl) (by (repeat' (first | exact True.intro | refine And.intro ?_ ?_ | exact avV_nil _ | rfl))) (by (repeat' (first | exact True.intro | (with_reducible exact avB_nil _) | ((with_reducible refine avB_all ?_); rfl) | ((with_reducible refine avB_ofLb ?_); exact (by first | exact bare0_ints | assumption | exact bVs_bare | exact iVs_bare | exact mVs_bare | (intro v hv; (repeat (rcases List.mem_cons.1 hv with rfl | hv; exact rfl)); cases hv))) | ((with_reducible refine ltB_all ?_); rfl) | ((with_reducible refine ltB_ofLb ?_); exact (by first | exact bare0_ints | assumption | exact bVs_bare | exact iVs_bare | exact mVs_bare | (intro v hv; (repeat (rcases List.mem_cons.1 hv with rfl | hv; exact rfl)); cases hv))) | ((with_reducible refine ltB_loop ?_ ?_) <;> rfl) | (with_reducible exact hMap _) | (with_reducible exact hMap2 _) | (with_reducible exact ltB_encL) | (with_reducible exact ltB_map0) | ((with_reducible refine grB_lt ?_ _); exact (by first | exact bare0_ints | assumption | exact bVs_bare | exact iVs_bare | exact mVs_bare | (intro v hv; (repeat (rcases List.mem_cons.1 hv with rfl | hv; exact rfl)); cases hv))) | (with_reducible assumption) | refine And.intro ?_ ?_ | exact (by first | exact True.intro | exact ltB_all rfl | exact ltB_ofLb (by first | exact bare0_ints | assumption | exact bVs_bare | exact iVs_bare | exact mVs_bare | (intro v hv; (repeat (rcases List.mem_cons.1 hv with rfl | hv; exact rfl)); cases hv)) | exact ltB_loop rfl rfl | exact hMap _ | exact hMap2 _ | exact grB_lt (by first | exact bare0_ints | assumption | exact bVs_bare | exact iVs_bare | exact mVs_bare | (intro v hv; (repeat (rcases List.mem_cons.1 hv with rfl | hv; exact rfl)); cases hv)) _ | exact ltB_encL | exact ltB_map0 | assumption)))) (fun _ _ => (by (repeat' (first | exact True.intro | rfl | refine And.intro ?_ ?_ | exact (by decide) | exact (by first | exact True.intro | exact hMap _ | exact hMap2 _ | exact grB_lt (by first | exact bare0_ints | assumption | exact bVs_bare | exact iVs_bare | exact mVs_bare | (intro v hv; (repeat (rcases List.mem_cons.1 hv with rfl | hv; exact rfl)); cases hv)) _ | exact ltB_all rfl | exact ltB_ofLb (by first | exact bare0_ints | assumption | exact bVs_bare | exact iVs_bare | exact mVs_bare | (intro v hv; (repeat (rcases List.mem_cons.1 hv with rfl | hv; exact rfl)); cases hv)) | exact ltB_loop rfl rfl | exact ltB_encL | exact ltB_map0 | assumption))))) (fun _ _ => (by (repeat' (first | exact True.intro | rfl | refine And.intro ?_ ?_ | exact (by decide) | exact (by first | exact True.intro | exact hMap _ | exact hMap2 _ | exact grB_lt (by first | exact bare0_ints | assumption | exact bVs_bare | exact iVs_bare | exact mVs_bare | (intro v hv; (repeat (rcases List.mem_cons.1 hv with rfl | hv; exact rfl)); cases hv)) _ | exact ltB_all rfl | exact ltB_ofLb (by first | exact bare0_ints | assumption | exact bVs_bare | exact iVs_bare | exact mVs_bare | (intro v hv; (repeat (rcases List.mem_cons.1 hv with rfl | hv; exact rfl)); cases hv)) | exact ltB_loop rfl rfl | exact ltB_encL | exact ltB_map0 | assumption))))) (fun _ _ => (by (repeat' (first | exact True.intro | rfl | refine And.intro ?_ ?_)))) rfl
    rintro i i1
    refine WpR.of_vc ?_
    cases hx : R[i]? with
    | some r =>
      exfalso
      have := (List.getElem?_eq_some_iff.1 hx).1
      omega
    | none =>
      have hlen : R.length ≤ i := by simpa using hx
      have e : i = R.length := by omega
      subst e
      rw [hoe]
      have hgL : getN (ofL (iVs (bstL n D oe)) 0) (D.length * 1) 0 = some (iVs (bstL n D oe)) := getN_ofL' (by unfold iVs; rw [List.length_map, Nat.mul_one]; cases oe with | none => rfl | some q => exact movL_len _ _ _)
      cases oe with
      | none =>
        (conv => whnf); (repeat' (first | ((with_reducible refine ifb_mk (fun hc => ?_) (fun hc => ?_)) <;> ((try simp only [decide_eq_true_eq, decide_eq_false_iff_not, Bool.not_eq_true', Bool.not_eq_false', Int.not_lt, Int.not_le, ne_eq, Decidable.not_not, beq_iff_eq, List.cons.injEq, and_true] at hc); (first | (exfalso; omega) | conv => whnf))) | ((with_reducible refine And.intro True.intro ?_); conv => whnf) | ((with_reducible refine WpR.draw (id := 8) mixed [0, 1, 2, 3, 4, 7, 5, 6, 8, 9] [0, 1, 0, 0, 8, 28, 63, 0, 127, 511] ?hh ?_); (case hh => kernel_rfl); conv => whnf) | (refine som_mk (added_own rfl hgL (iVs_one _)) ?_; conv => whnf) | (refine AppX.copy (n := D.length) (len := 0) (L := []) rfl rfl rfl (by omega) (by omega) ?_; conv => whnf) | ((with_reducible refine And.intro ?hh ?_); (case hh => (unfold InR; (try dsimp only); omega)); conv => whnf) | ((with_reducible refine And.intro ?hh ?_); (case hh => ((try dsimp only); omega)); conv => whnf) | ((with_reducible refine And.intro ?hh ?_); (case hh => ((conv => whnf); (repeat' (first | exact True.intro | rfl | refine And.intro ?_ ?_)); done)); conv => whnf) | fail))
        all_goals first
        | exact ⟨[6], rfl, rfl, rfl, ⟨⟨_, rfl, rfl, SubQ.ofL rfl iVs_bare (.inr rfl)⟩, ltB_ofLb iVs_bare, rfl, trivial⟩, (by (repeat' (first | exact True.intro | rfl | refine And.intro ?_ ?_)))⟩
        | exact ⟨[7], rfl, rfl, rfl, ⟨⟨_, rfl, rfl, SubQ.ofL rfl iVs_bare (.inr rfl)⟩, ltB_ofLb iVs_bare, rfl, trivial⟩, (by (repeat' (first | exact True.intro | rfl | refine And.intro ?_ ?_)))⟩
        | exact ⟨[8], rfl, rfl, rfl, ⟨⟨_, rfl, rfl, SubQ.ofL rfl iVs_bare (.inr rfl)⟩, ltB_ofLb iVs_bare, rfl, trivial⟩, (by (repeat' (first | exact True.intro | rfl | refine And.intro ?_ ?_)))⟩
        | trace_state
      | some q =>
        (conv => whnf); (repeat' (first | ((with_reducible refine ifb_mk (fun hc => ?_) (fun hc => ?_)) <;> ((try simp only [decide_eq_true_eq, decide_eq_false_iff_not, Bool.not_eq_true', Bool.not_eq_false', Int.not_lt, Int.not_le, ne_eq, Decidable.not_not, beq_iff_eq, List.cons.injEq, and_true] at hc); (first | (exfalso; omega) | conv => whnf))) | ((with_reducible refine And.intro True.intro ?_); conv => whnf) | ((with_reducible refine WpR.draw (id := 8) mixed [0, 1, 2, 3, 4, 7, 5, 6, 8, 9] [0, 1, 0, 0, 8, 28, 63, 0, 127, 511] ?hh ?_); (case hh => kernel_rfl); conv => whnf) | (refine som_mk (added_own rfl hgL (iVs_one _)) ?_; conv => whnf) | (refine AppX.copy (n := D.length) (len := 0) (L := []) rfl rfl rfl (by omega) (by omega) ?_; conv => whnf) | ((with_reducible refine And.intro ?hh ?_); (case hh => (unfold InR; (try dsimp only); omega)); conv => whnf) | ((with_reducible refine And.intro ?hh ?_); (case hh => ((try dsimp only); omega)); conv => whnf) | ((with_reducible refine And.intro ?hh ?_); (case hh => ((conv => whnf); (repeat' (first | exact True.intro | rfl | refine And.intro ?_ ?_)); done)); conv => whnf) | fail))
        all_goals first
        | exact ⟨[6], rfl, rfl, rfl, ⟨⟨_, rfl, rfl, SubQ.ofL rfl iVs_bare (.inr rfl)⟩, ltB_ofLb iVs_bare, rfl, trivial⟩, (by (repeat' (first | exact True.intro | rfl | refine And.intro ?_ ?_)))⟩
        | exact ⟨[7], rfl, rfl, rfl, ⟨⟨_, rfl, rfl, SubQ.ofL rfl iVs_bare (.inr rfl)⟩, ltB_ofLb iVs_bare, rfl, trivial⟩, (by (repeat' (first | exact True.intro | rfl | refine And.intro ?_ ?_)))⟩
        | exact ⟨[8], rfl, rfl, rfl, ⟨⟨_, rfl, rfl, SubQ.ofL rfl iVs_bare (.inr rfl)⟩, ltB_ofLb iVs_bare, rfl, trivial⟩, (by (repeat' (first | exact True.intro | rfl | refine And.intro ?_ ?_)))⟩
        | trace_state
  | sl =>
    (conv => whnf); (repeat' (first | ((with_reducible refine ifb_mk (fun hc => ?_) (fun hc => ?_)) <;> ((try simp only [decide_eq_true_eq, decide_eq_false_iff_not, Bool.not_eq_true', Bool.not_eq_false', Int.not_lt, Int.not_le, ne_eq, Decidable.not_not, beq_iff_eq, List.cons.injEq, and_true] at hc); (first | (exfalso; omega) | conv => whnf))) | ((with_reducible refine And.intro True.intro ?_); conv => whnf) | ((with_reducible refine And.intro ?hh ?_); (case hh => (unfold InR; (try dsimp only); omega)); conv => whnf) | ((with_reducible refine And.intro ?hh ?_); (case hh => ((try dsimp only); omega)); conv => whnf) | ((with_reducible refine And.intro ?hh ?_); (case hh => ((conv => whnf); (repeat' (first | exact True.intro | rfl | refine And.intro ?_ ?_)); done)); conv => whnf) | fail))
    refine WpR.loopD (ι := Nat) [] [1, 2, 4, 6] [4, 5] [] 6 (fun i => [(7, .int .i64 (bstN (bst n D R i) : Nat)), (8, .int .i64 i)]) (fun i => [(4, .cells (ofL [.int .i64 n, bstS cp1 ex1 D.length (bst n D R i)] 0) true none), (5, bstB n D (bst n D R i))]) (fun i => R.length - i) (fun i => i ≤ R.length) ?_ (0) (Nat.zero_le _) [] ⟨rfl, rfl, (by (repeat' (first | exact True.intro | rfl | refine And.intro ?_ ?_))), (by (repeat' (first | exact True.intro | rfl | refine And.intro ?_ ?_))), (by (repeat' (first | exact True.intro | rfl | refine And.intro ?_ ?_))), (by (repeat' (first | exact True.intro | exact Or.inl rfl | refine And.intro ?_ ?_ | refine Or.inr ⟨_, rfl, ?_⟩ | exact SubQ.same (n := 1000) (Y := []) (fun _ _ _ => rfl) (by first | exact True.intro | exact ltB_all rfl | exact ltB_ofLb (by first | exact bare0_ints | assumption | exact bVs_bare | exact iVs_bare | exact mVs_bare | (intro v hv; (repeat (rcases List.mem_cons.1 hv with rfl | hv; exact rfl)); cases hv)) | exact ltB_loop rfl rfl | exact hMap _ | exact hMap2 _ | exact grB_lt (by first | exact bare0_ints | assumption | exact bVs_bare | exact iVs_bare | exact mVs_bare | (intro v hv; (repeat (rcases List.mem_cons.1 hv with rfl | hv; exact rfl)); cases hv)) _ | exact ltB_encL | exact ltB_map0 | assumption) (avB_nil _) rfl | exact SubQ.ofL (by first | rfl | simp) (by first | exact bare0_ints | assumption | exact bVs_bare | exact iVs_bare | exact mVs_bare | (intro v hv; (repeat (rcases List.mem_cons.1 hv with rfl | hv; exact rfl)); cases hv)) (by first | exact Or.inl rfl | exact Or.inr rfl) | exact SubQ.fin (by (conv => whnf); (repeat' (first | exact True.intro | rfl | refine And.intro ?_ ?_)); done) (fun h => h) (by first | exact Or.inl rfl | exact Or.inr rfl)))), rfl, rfl⟩ rfl rfl rfl (fun _ => rfl) (by (repeat' (first | exact True.intro | refine And.intro ?_ ?_ | exact avV_nil _ | rfl))) (by (repeat' (first | exact True.intro | (with_reducible exact avB_nil _) | ((with_reducible refine avB_all ?_); rfl) | ((with_reducible refine avB_ofLb ?_); exact (by first | exact bare0_ints | assumption | exact bVs_bare | exact iVs_bare | exact mVs_bare | (intro v hv; (repeat (rcases List.mem_cons.1 hv with rfl | hv; exact rfl)); cases hv))) | ((with_reducible refine ltB_all ?_); rfl) | ((with_reducible refine ltB_ofLb ?_); exact (by first | exact bare0_ints | assumption | exact bVs_bare | exact iVs_bare | exact mVs_bare | (intro v hv; (repeat (rcases List.mem_cons.1 hv with rfl | hv; exact rfl)); cases hv))) | ((with_reducible refine ltB_loop ?_ ?_) <;> rfl) | (with_reducible exact hMap _) | (with_reducible exact hMap2 _) | (with_reducible exact ltB_encL) | (with_reducible exact ltB_map0) | ((with_reducible refine grB_lt ?_ _); exact (by first | exact bare0_ints | assumption | exact bVs_bare | exact iVs_bare | exact mVs_bare | (intro v hv; (repeat (rcases List.mem_cons.1 hv with rfl | hv; exact rfl)); cases hv))) | (with_reducible assumption) | refine And.intro ?_ ?_ | exact (by first | exact True.intro | exact ltB_all rfl | exact ltB_ofLb (by first | exact bare0_ints | assumption | exact bVs_bare | exact iVs_bare | exact mVs_bare | (intro v hv; (repeat (rcases List.mem_cons.1 hv with rfl | hv; exact rfl)); cases hv)) | exact ltB_loop rfl rfl | exact hMap _ | exact hMap2 _ | exact grB_lt (by first | exact bare0_ints | assumption | exact bVs_bare | exact iVs_bare | exact mVs_bare | (intro v hv; (repeat (rcases List.mem_cons.1 hv with rfl | hv; exact rfl)); cases hv)) _ | exact ltB_encL | exact ltB_map0 | assumption)))) (fun _ _ => (by (repeat' (first | exact True.intro | rfl | refine And.intro ?_ ?_ | exact (by decide) | exact (by first | exact True.intro | exact hMap _ | exact hMap2 _ | exact grB_lt (by first | exact bare0_ints | assumption | exact bVs_bare | exact iVs_bare | exact mVs_bare | (intro v hv; (repeat (rcases List.mem_cons.1 hv with rfl | hv; exact rfl)); cases hv)) _ | exact ltB_all rfl | exact ltB_ofLb (by first | exact bare0_ints | assumption | exact bVs_bare | exact iVs_bare | exact mVs_bare | (intro v hv; (repeat (rcases List.mem_cons.1 hv with rfl | hv; exact rfl)); cases hv)) | exact ltB_loop rfl rfl | exact ltB_encL | exact ltB_map0 | assumption))))) (fun _ _ => (by (repeat' (first | exact True.intro | rfl | refine And.intro ?_ ?_ | exact (by decide) | exact (by first | exact True.intro | exact hMap _ | exact hMap2 _ | exact grB_lt (by first | exact bare0_ints | assumption | exact bVs_bare | exact iVs_bare | exact mVs_bare | (intro v hv; (repeat (rcases List.mem_cons.1 hv with rfl | hv; exact rfl)); cases hv)) _ | exact ltB_all rfl | exact ltB_ofLb (by first | exact bare0_ints | assumption | exact bVs_bare | exact iVs_bare | exact mVs_bare | (intro v hv; (repeat (rcases List.mem_cons.1 hv with rfl | hv; exact rfl)); cases hv)) | exact ltB_loop rfl rfl | exact ltB_encL | exact ltB_map0 | assumption))))) (fun _ _ => (by (repeat' (first | exact True.intro | rfl | refine And.intro ?_ ?_)))) rfl
    rintro i i1
    refine WpR.of_vc ?_
    cases hx : R[i]? with
    | some r =>
      have hlt := (List.getElem?_eq_some_iff.1 hx).1
      have hKx : (R.map Int.ofNat)[i]? = some (r : Int) := by rw [List.getElem?_map, hx]; rfl
      have hr8 := hR8 r (List.mem_of_getElem? hx)
      have kO := fun h' b cap ex hs' => moveOf_ok h' n r hn hr8 D hD b 0 cap ex hs'
      have hb1 := hBs i
      have hgr : R.getD i 0 = r := by rw [List.getD_eq_getElem?_getD, hx]; rfl
      rw [hgr] at hb1
      have hbn : bstN (bst n D R i) ≤ 8 := Nat.le_of_lt (hBlt i i1)
      have hMl : (movL n r D).length = D.length := movL_len _ _ _
      generalize bst n D R i = o at *
      cases o with
      | none =>
        have kB := fun h' b cap ex b2 cap2 ex2 g1 g2 => before_ok h' (movL n r D) D b 0 cap ex b2 0 cap2 ex2 (by rw [hMl]; omega) (by rw [hMl]; omega) hMl g1 g2
        rw [hMl] at kB
        have hb1 : bst n D R (i + 1) = if lexC (movL n r D) D < 0 then some r else none := hb1
        by_cases hlx : lexC (movL n r D) D < 0
        · rw [decide_eq_true hlx] at kB
          rw [if_pos hlx] at hb1
          (conv => whnf); (repeat' (first | ((with_reducible refine ifb_mk (fun hc => ?_) (fun hc => ?_)) <;> ((try simp only [decide_eq_true_eq, decide_eq_false_iff_not, Bool.not_eq_true', Bool.not_eq_false', Int.not_lt, Int.not_le, ne_eq, Decidable.not_not, beq_iff_eq, List.cons.injEq, and_true] at hc); (first | (exfalso; omega) | conv => whnf))) | ((with_reducible refine And.intro True.intro ?_); conv => whnf) | ((with_reducible refine grd_get ?_); refine som_mk (a := ?_) ?hh ?_; (case hh => exact iGet hKx); conv => whnf) | ((with_reducible refine WpR.draw (id := 5) mixed [0, 1, 2, 3, 4, 6, 5, 7] [0, 0, 0, 6, 14, 31, 0, 127] ?hh ?_); (case hh => kernel_rfl); conv => whnf) | ((with_reducible refine WpR.draw (id := 7) mixed [0, 1, 2, 3, 4, 5, 6] [0, 0, 0, 6, 14, 1, 63] ?hh ?_); (case hh => kernel_rfl); conv => whnf) | ((with_reducible refine grd_ex ?_); refine ex_new (vC := fun N => plateV n (.sl N 0 D.length D.length true)) (news := fun _ => [.cells (ofL (iVs (movL n r D)) 0) true none]) (kO _ _ _ _ (SlC.own rfl)) ?_; conv => whnf) | ((with_reducible refine CallX.all ?_); refine CallW.of_ok (kB _ _ _ _ _ _ _ (SlC.own rfl) (SlC.own rfl)) ?_; conv => whnf) | ((with_reducible refine And.intro ?hh ?_); (case hh => (unfold InR; (try dsimp only); omega)); conv => whnf) | ((with_reducible refine And.intro ?hh ?_); (case hh => ((try dsimp only); omega)); conv => whnf) | ((with_reducible refine And.intro ?hh ?_); (case hh => ((conv => whnf); (repeat' (first | exact True.intro | rfl | refine And.intro ?_ ?_)); done)); conv => whnf) | fail))
          refine ⟨i + 1, [(5, 7)], by omega, by omega, ?_⟩
          dsimp only
          rw [hb1]
          exact ⟨rfl, rfl, (by (repeat' (first | exact True.intro | rfl | refine And.intro ?_ ?_))), (by (repeat' (first | exact True.intro | rfl | refine And.intro ?_ ?_))), (by (repeat' (first | exact True.intro | rfl | refine And.intro ?_ ?_))), (by (repeat' (first | exact True.intro | exact Or.inl rfl | refine And.intro ?_ ?_ | refine Or.inr ⟨_, rfl, ?_⟩ | exact SubQ.same (n := 1000) (Y := []) (fun _ _ _ => rfl) (by first | exact True.intro | exact ltB_all rfl | exact ltB_ofLb (by first | exact bare0_ints | assumption | exact bVs_bare | exact iVs_bare | exact mVs_bare | (intro v hv; (repeat (rcases List.mem_cons.1 hv with rfl | hv; exact rfl)); cases hv)) | exact ltB_loop rfl rfl | exact hMap _ | exact hMap2 _ | exact grB_lt (by first | exact bare0_ints | assumption | exact bVs_bare | exact iVs_bare | exact mVs_bare | (intro v hv; (repeat (rcases List.mem_cons.1 hv with rfl | hv; exact rfl)); cases hv)) _ | exact ltB_encL | exact ltB_map0 | assumption) (avB_nil _) rfl | exact SubQ.ofL (by first | rfl | simp) (by first | exact bare0_ints | assumption | exact bVs_bare | exact iVs_bare | exact mVs_bare | (intro v hv; (repeat (rcases List.mem_cons.1 hv with rfl | hv; exact rfl)); cases hv)) (by first | exact Or.inl rfl | exact Or.inr rfl) | exact SubQ.fin (by (conv => whnf); (repeat' (first | exact True.intro | rfl | refine And.intro ?_ ?_)); done) (fun h => h) (by first | exact Or.inl rfl | exact Or.inr rfl)))), rfl, rfl⟩
        · rw [decide_eq_false hlx] at kB
          rw [if_neg hlx] at hb1
          (conv => whnf); (repeat' (first | ((with_reducible refine ifb_mk (fun hc => ?_) (fun hc => ?_)) <;> ((try simp only [decide_eq_true_eq, decide_eq_false_iff_not, Bool.not_eq_true', Bool.not_eq_false', Int.not_lt, Int.not_le, ne_eq, Decidable.not_not, beq_iff_eq, List.cons.injEq, and_true] at hc); (first | (exfalso; omega) | conv => whnf))) | ((with_reducible refine And.intro True.intro ?_); conv => whnf) | ((with_reducible refine grd_get ?_); refine som_mk (a := ?_) ?hh ?_; (case hh => exact iGet hKx); conv => whnf) | ((with_reducible refine WpR.draw (id := 5) mixed [0, 1, 2, 3, 4, 6, 5, 7] [0, 0, 0, 6, 14, 31, 0, 127] ?hh ?_); (case hh => kernel_rfl); conv => whnf) | ((with_reducible refine WpR.draw (id := 7) mixed [0, 1, 2, 3, 4, 5, 6] [0, 0, 0, 6, 14, 1, 63] ?hh ?_); (case hh => kernel_rfl); conv => whnf) | ((with_reducible refine grd_ex ?_); refine ex_new (vC := fun N => plateV n (.sl N 0 D.length D.length true)) (news := fun _ => [.cells (ofL (iVs (movL n r D)) 0) true none]) (kO _ _ _ _ (SlC.own rfl)) ?_; conv => whnf) | ((with_reducible refine CallX.all ?_); refine CallW.of_ok (kB _ _ _ _ _ _ _ (SlC.own rfl) (SlC.own rfl)) ?_; conv => whnf) | ((with_reducible refine And.intro ?hh ?_); (case hh => (unfold InR; (try dsimp only); omega)); conv => whnf) | ((with_reducible refine And.intro ?hh ?_); (case hh => ((try dsimp only); omega)); conv => whnf) | ((with_reducible refine And.intro ?hh ?_); (case hh => ((conv => whnf); (repeat' (first | exact True.intro | rfl | refine And.intro ?_ ?_)); done)); conv => whnf) | fail))
          refine ⟨i + 1, [], by omega, by omega, ?_⟩
          dsimp only
          rw [hb1]
          exact ⟨rfl, rfl, (by (repeat' (first | exact True.intro | rfl | refine And.intro ?_ ?_))), (by (repeat' (first | exact True.intro | rfl | refine And.intro ?_ ?_))), (by (repeat' (first | exact True.intro | rfl | refine And.intro ?_ ?_))), (by (repeat' (first | exact True.intro | exact Or.inl rfl | refine And.intro ?_ ?_ | refine Or.inr ⟨_, rfl, ?_⟩ | exact SubQ.same (n := 1000) (Y := []) (fun _ _ _ => rfl) (by first | exact True.intro | exact ltB_all rfl | exact ltB_ofLb (by first | exact bare0_ints | assumption | exact bVs_bare | exact iVs_bare | exact mVs_bare | (intro v hv; (repeat (rcases List.mem_cons.1 hv with rfl | hv; exact rfl)); cases hv)) | exact ltB_loop rfl rfl | exact hMap _ | exact hMap2 _ | exact grB_lt (by first | exact bare0_ints | assumption | exact bVs_bare | exact iVs_bare | exact mVs_bare | (intro v hv; (repeat (rcases List.mem_cons.1 hv with rfl | hv; exact rfl)); cases hv)) _ | exact ltB_encL | exact ltB_map0 | assumption) (avB_nil _) rfl | exact SubQ.ofL (by first | rfl | simp) (by first | exact bare0_ints | assumption | exact bVs_bare | exact iVs_bare | exact mVs_bare | (intro v hv; (repeat (rcases List.mem_cons.1 hv with rfl | hv; exact rfl)); cases hv)) (by first | exact Or.inl rfl | exact Or.inr rfl) | exact SubQ.fin (by (conv => whnf); (repeat' (first | exact True.intro | rfl | refine And.intro ?_ ?_)); done) (fun h => h) (by first | exact Or.inl rfl | exact Or.inr rfl)))), rfl, rfl⟩
      | some q =>
        have kB := fun h' b cap ex b2 cap2 ex2 g1 g2 => before_ok h' (movL n r D) (movL n q D) b 0 cap ex b2 0 cap2 ex2 (by rw [hMl]; omega) (by rw [hMl]; omega) (by rw [hMl, movL_len]) g1 g2
        rw [hMl, movL_len] at kB
        have hb1 : bst n D R (i + 1) = if lexC (movL n r D) (movL n q D) < 0 then some r else some q := hb1
        by_cases hlx : lexC (movL n r D) (movL n q D) < 0
        · rw [decide_eq_true hlx] at kB
          rw [if_pos hlx] at hb1
          (conv => whnf); (repeat' (first | ((with_reducible refine ifb_mk (fun hc => ?_) (fun hc => ?_)) <;> ((try simp only [decide_eq_true_eq, decide_eq_false_iff_not, Bool.not_eq_true', Bool.not_eq_false', Int.not_lt, Int.not_le, ne_eq, Decidable.not_not, beq_iff_eq, List.cons.injEq, and_true] at hc); (first | (exfalso; omega) | conv => whnf))) | ((with_reducible refine And.intro True.intro ?_); conv => whnf) | ((with_reducible refine grd_get ?_); refine som_mk (a := ?_) ?hh ?_; (case hh => exact iGet hKx); conv => whnf) | ((with_reducible refine WpR.draw (id := 5) mixed [0, 1, 2, 3, 4, 6, 5, 7] [0, 0, 0, 6, 14, 31, 0, 127] ?hh ?_); (case hh => kernel_rfl); conv => whnf) | ((with_reducible refine WpR.draw (id := 7) mixed [0, 1, 2, 3, 4, 5, 6] [0, 0, 0, 6, 14, 1, 63] ?hh ?_); (case hh => kernel_rfl); conv => whnf) | ((with_reducible refine grd_ex ?_); refine ex_new (vC := fun N => plateV n (.sl N 0 D.length D.length true)) (news := fun _ => [.cells (ofL (iVs (movL n r D)) 0) true none]) (kO _ _ _ _ (SlC.own rfl)) ?_; conv => whnf) | ((with_reducible refine CallX.all ?_); refine CallW.of_ok (kB _ _ _ _ _ _ _ (SlC.own rfl) (SlC.own rfl)) ?_; conv => whnf) | ((with_reducible refine And.intro ?hh ?_); (case hh => (unfold InR; (try dsimp only); omega)); conv => whnf) | ((with_reducible refine And.intro ?hh ?_); (case hh => ((try dsimp only); omega)); conv => whnf) | ((with_reducible refine And.intro ?hh ?_); (case hh => ((conv => whnf); (repeat' (first | exact True.intro | rfl | refine And.intro ?_ ?_)); done)); conv => whnf) | fail))
          refine ⟨i + 1, [(5, 7)], by omega, by omega, ?_⟩
          dsimp only
          rw [hb1]
          exact ⟨rfl, rfl, (by (repeat' (first | exact True.intro | rfl | refine And.intro ?_ ?_))), (by (repeat' (first | exact True.intro | rfl | refine And.intro ?_ ?_))), (by (repeat' (first | exact True.intro | rfl | refine And.intro ?_ ?_))), (by (repeat' (first | exact True.intro | exact Or.inl rfl | refine And.intro ?_ ?_ | refine Or.inr ⟨_, rfl, ?_⟩ | exact SubQ.same (n := 1000) (Y := []) (fun _ _ _ => rfl) (by first | exact True.intro | exact ltB_all rfl | exact ltB_ofLb (by first | exact bare0_ints | assumption | exact bVs_bare | exact iVs_bare | exact mVs_bare | (intro v hv; (repeat (rcases List.mem_cons.1 hv with rfl | hv; exact rfl)); cases hv)) | exact ltB_loop rfl rfl | exact hMap _ | exact hMap2 _ | exact grB_lt (by first | exact bare0_ints | assumption | exact bVs_bare | exact iVs_bare | exact mVs_bare | (intro v hv; (repeat (rcases List.mem_cons.1 hv with rfl | hv; exact rfl)); cases hv)) _ | exact ltB_encL | exact ltB_map0 | assumption) (avB_nil _) rfl | exact SubQ.ofL (by first | rfl | simp) (by first | exact bare0_ints | assumption | exact bVs_bare | exact iVs_bare | exact mVs_bare | (intro v hv; (repeat (rcases List.mem_cons.1 hv with rfl | hv; exact rfl)); cases hv)) (by first | exact Or.inl rfl | exact Or.inr rfl) | exact SubQ.fin (by (conv => whnf); (repeat' (first | exact True.intro | rfl | refine And.intro ?_ ?_)); done) (fun h => h) (by first | exact Or.inl rfl | exact Or.inr rfl)))), rfl, rfl⟩
        · rw [decide_eq_false hlx] at kB
          rw [if_neg hlx] at hb1
          (conv => whnf); (repeat' (first | ((with_reducible refine ifb_mk (fun hc => ?_) (fun hc => ?_)) <;> ((try simp only [decide_eq_true_eq, decide_eq_false_iff_not, Bool.not_eq_true', Bool.not_eq_false', Int.not_lt, Int.not_le, ne_eq, Decidable.not_not, beq_iff_eq, List.cons.injEq, and_true] at hc); (first | (exfalso; omega) | conv => whnf))) | ((with_reducible refine And.intro True.intro ?_); conv => whnf) | ((with_reducible refine grd_get ?_); refine som_mk (a := ?_) ?hh ?_; (case hh => exact iGet hKx); conv => whnf) | ((with_reducible refine WpR.draw (id := 5) mixed [0, 1, 2, 3, 4, 6, 5, 7] [0, 0, 0, 6, 14, 31, 0, 127] ?hh ?_); (case hh => kernel_rfl); conv => whnf) | ((with_reducible refine WpR.draw (id := 7) mixed [0, 1, 2, 3, 4, 5, 6] [0, 0, 0, 6, 14, 1, 63] ?hh ?_); (case hh => kernel_rfl); conv => whnf) | ((with_reducible refine grd_ex ?_); refine ex_new (vC := fun N => plateV n (.sl N 0 D.length D.length true)) (news := fun _ => [.cells (ofL (iVs (movL n r D)) 0) true none]) (kO _ _ _ _ (SlC.own rfl)) ?_; conv => whnf) | ((with_reducible refine CallX.all ?_); refine CallW.of_ok (kB _ _ _ _ _ _ _ (SlC.own rfl) (SlC.own rfl)) ?_; conv => whnf) | ((with_reducible refine And.intro ?hh ?_); (case hh => (unfold InR; (try dsimp only); omega)); conv => whnf) | ((with_reducible refine And.intro ?hh ?_); (case hh => ((try dsimp only); omega)); conv => whnf) | ((with_reducible refine And.intro ?hh ?_); (case hh => ((conv => whnf); (repeat' (first | exact True.intro | rfl | refine And.intro ?_ ?_)); done)); conv => whnf) | fail))
          refine ⟨i + 1, [], by omega, by omega, ?_⟩
          dsimp only
          rw [hb1]
          exact ⟨rfl, rfl, (by (repeat' (first | exact True.intro | rfl | refine And.intro ?_ ?_))), (by (repeat' (first | exact True.intro | rfl | refine And.intro ?_ ?_))), (by (repeat' (first | exact True.intro | rfl | refine And.intro ?_ ?_))), (by (repeat' (first | exact True.intro | exact Or.inl rfl | refine And.intro ?_ ?_ | refine Or.inr ⟨_, rfl, ?_⟩ | exact SubQ.same (n := 1000) (Y := []) (fun _ _ _ => rfl) (by first | exact True.intro | exact ltB_all rfl | exact ltB_ofLb (by first | exact bare0_ints | assumption | exact bVs_bare | exact iVs_bare | exact mVs_bare | (intro v hv; (repeat (rcases List.mem_cons.1 hv with rfl | hv; exact rfl)); cases hv)) | exact ltB_loop rfl rfl | exact hMap _ | exact hMap2 _ | exact grB_lt (by first | exact bare0_ints | assumption | exact bVs_bare | exact iVs_bare | exact mVs_bare | (intro v hv; (repeat (rcases List.mem_cons.1 hv with rfl | hv; exact rfl)); cases hv)) _ | exact ltB_encL | exact ltB_map0 | assumption) (avB_nil _) rfl | exact SubQ.ofL (by first | rfl | simp) (by first | exact bare0_ints | assumption | exact bVs_bare | exact iVs_bare | exact mVs_bare | (intro v hv; (repeat (rcases List.mem_cons.1 hv with rfl | hv; exact rfl)); cases hv)) (by first | exact Or.inl rfl | exact Or.inr rfl) | exact SubQ.fin (by (conv => whnf); (repeat' (first | exact True.intro | rfl | refine And.intro ?_ ?_)); done) (fun h => h) (by first | exact Or.inl rfl | exact Or.inr rfl)))), rfl, rfl⟩
    | none =>
      have hlen : R.length ≤ i := by simpa using hx
      have e : i = R.length := by omega
      subst e
      rw [hoe]
      have hgL : getN (ofL (iVs (bstL n D oe)) 0) (D.length * 1) 0 = some (iVs (bstL n D oe)) := getN_ofL' (by unfold iVs; rw [List.length_map, Nat.mul_one]; cases oe with | none => rfl | some q => exact movL_len _ _ _)
      cases oe with
      | none =>
        (conv => whnf); (repeat' (first | ((with_reducible refine ifb_mk (fun hc => ?_) (fun hc => ?_)) <;> ((try simp only [decide_eq_true_eq, decide_eq_false_iff_not, Bool.not_eq_true', Bool.not_eq_false', Int.not_lt, Int.not_le, ne_eq, Decidable.not_not, beq_iff_eq, List.cons.injEq, and_true] at hc); (first | (exfalso; omega) | conv => whnf))) | ((with_reducible refine And.intro True.intro ?_); conv => whnf) | ((with_reducible refine WpR.draw (id := 8) mixed [0, 1, 2, 3, 4, 7, 5, 6, 8, 9] [0, 1, 0, 0, 8, 28, 63, 0, 127, 511] ?hh ?_); (case hh => kernel_rfl); conv => whnf) | (refine som_mk (added_own rfl hgL (iVs_one _)) ?_; conv => whnf) | (refine AppX.copy (n := D.length) (len := 0) (L := []) rfl rfl rfl (by omega) (by omega) ?_; conv => whnf) | ((with_reducible refine And.intro ?hh ?_); (case hh => (unfold InR; (try dsimp only); omega)); conv => whnf) | ((with_reducible refine And.intro ?hh ?_); (case hh => ((try dsimp only); omega)); conv => whnf) | ((with_reducible refine And.intro ?hh ?_); (case hh => ((conv => whnf); (repeat' (first | exact True.intro | rfl | refine And.intro ?_ ?_)); done)); conv => whnf) | fail))
        all_goals first
        | exact ⟨[6], rfl, rfl, rfl, ⟨⟨_, rfl, rfl, SubQ.ofL rfl iVs_bare (.inr rfl)⟩, ltB_ofLb iVs_bare, rfl, trivial⟩, (by (repeat' (first | exact True.intro | rfl | refine And.intro ?_ ?_)))⟩
        | exact ⟨[7], rfl, rfl, rfl, ⟨⟨_, rfl, rfl, SubQ.ofL rfl iVs_bare (.inr rfl)⟩, ltB_ofLb iVs_bare, rfl, trivial⟩, (by (repeat' (first | exact True.intro | rfl | refine And.intro ?_ ?_)))⟩
        | exact ⟨[8], rfl, rfl, rfl, ⟨⟨_, rfl, rfl, SubQ.ofL rfl iVs_bare (.inr rfl)⟩, ltB_ofLb iVs_bare, rfl, trivial⟩, (by (repeat' (first | exact True.intro | rfl | refine And.intro ?_ ?_)))⟩
        | trace_state
      | some q =>
        (conv => whnf); (repeat' (first | ((with_reducible refine ifb_mk (fun hc => ?_) (fun hc => ?_)) <;> ((try simp only [decide_eq_true_eq, decide_eq_false_iff_not, Bool.not_eq_true', Bool.not_eq_false', Int.not_lt, Int.not_le, ne_eq, Decidable.not_not, beq_iff_eq, List.cons.injEq, and_true] at hc); (first | (exfalso; omega) | conv => whnf))) | ((with_reducible refine And.intro True.intro ?_); conv => whnf) | ((with_reducible refine WpR.draw (id := 8) mixed [0, 1, 2, 3, 4, 7, 5, 6, 8, 9] [0, 1, 0, 0, 8, 28, 63, 0, 127, 511] ?hh ?_); (case hh => kernel_rfl); conv => whnf) | (refine som_mk (added_own rfl hgL (iVs_one _)) ?_; conv => whnf) | (refine AppX.copy (n := D.length) (len := 0) (L := []) rfl rfl rfl (by omega) (by omega) ?_; conv => whnf) | ((with_reducible refine And.intro ?hh ?_); (case hh => (unfold InR; (try dsimp only); omega)); conv => whnf) | ((with_reducible refine And.intro ?hh ?_); (case hh => ((try dsimp only); omega)); conv => whnf) | ((with_reducible refine And.intro ?hh ?_); (case hh => ((conv => whnf); (repeat' (first | exact True.intro | rfl | refine And.intro ?_ ?_)); done)); conv => whnf) | fail))
        all_goals first
        | exact ⟨[6], rfl, rfl, rfl, ⟨⟨_, rfl, rfl, SubQ.ofL rfl iVs_bare (.inr rfl)⟩, ltB_ofLb iVs_bare, rfl, trivial⟩, (by (repeat' (first | exact True.intro | rfl | refine And.intro ?_ ?_)))⟩
        | exact ⟨[7], rfl, rfl, rfl, ⟨⟨_, rfl, rfl, SubQ.ofL rfl iVs_bare (.inr rfl)⟩, ltB_ofLb iVs_bare, rfl, trivial⟩, (by (repeat' (first | exact True.intro | rfl | refine And.intro ?_ ?_)))⟩
        | exact ⟨[8], rfl, rfl, rfl, ⟨⟨_, rfl, rfl, SubQ.ofL rfl iVs_bare (.inr rfl)⟩, ltB_ofLb iVs_bare, rfl, trivial⟩, (by (repeat' (first | exact True.intro | rfl | refine And.intro ?_ ?_)))⟩
        | trace_state
end Go.Proofs.P

namespace Go.Proofs.P
open Go.As
set_option maxRecDepth 20000
set_option linter.unusedVariables false
set_option linter.unusedSimpArgs false

/-! ### The reference's least form is the least of what is reached -/

def rN (B : List Bool) (i : Nat) : List Nat := (List.range i).filter fun m => B.getD m false
theorem rN_succ (B : List Bool) (i : Nat) : rN B (i + 1) = match B.getD i false with | true => rN B i ++ [i] | false => rN B i := by
  unfold rN
  rw [List.range_succ, List.filter_append]
  have e : [i].filter (fun m => B.getD m false) = match B.getD i false with | true => [i] | false => [] := by
    cases h : B.getD i false with
    | true => exact List.filter_cons_of_pos (p := fun m => B.getD m false) h
    | false => exact List.filter_cons_of_neg (p := fun m => B.getD m false) (by rw [h]; decide)
  rw [e]
  cases B.getD i false with
  | true => rfl
  | false => exact List.append_nil _
theorem bst_app (n : Nat) (D : List Int) (R S : List Nat) : ∀ j, j ≤ R.length → bst n D (R ++ S) j = bst n D R j
  | 0, _ => rfl
  | j + 1, h => by
    unfold bst
    rw [bst_app n D R S j (by omega)]
    have e : (R ++ S).getD j 0 = R.getD j 0 := by rw [List.getD_eq_getElem?_getD, List.getD_eq_getElem?_getD, List.getElem?_append_left (by omega)]
    rw [e]
theorem bst_lst (n : Nat) (B : List Bool) (D : List Int) : ∀ i, bstN (bst n D (rN B i) (rN B i).length) = lst n B D i ∧ bstL n D (bst n D (rN B i) (rN B i).length) = movL n (lst n B D i) D
  | 0 => ⟨rfl, by show D = movL n 0 D; rw [mov_zero]⟩
  | i + 1 => by
    have ih := bst_lst n B D i
    have hs := rN_succ B i
    have hl : lst n B D (i + 1) = if B.getD i false = true ∧ lexC (movL n i D) (movL n (lst n B D i) D) < 0 then i else lst n B D i := rfl
    cases hb : B.getD i false with
    | false =>
      rw [hb] at hs hl
      have hs' : rN B (i + 1) = rN B i := hs
      have hl' : lst n B D (i + 1) = lst n B D i := by rw [hl]; exact if_neg (fun h => Bool.false_ne_true h.1)
      rw [hs', hl']
      exact ih
    | true =>
      rw [hb] at hs hl
      have hs' : rN B (i + 1) = rN B i ++ [i] := hs
      have e : bst n D (rN B i ++ [i]) (rN B i ++ [i]).length = if lexC (movL n i D) (bstL n D (bst n D (rN B i) (rN B i).length)) < 0 then some i else bst n D (rN B i) (rN B i).length := by
        rw [List.length_append, List.length_singleton]
        show ite _ _ _ = _
        rw [bst_app n D _ _ _ (Nat.le_refl _)]
        have e2 : (rN B i ++ [i]).getD (rN B i).length 0 = i := by rw [List.getD_eq_getElem?_getD, List.getElem?_append_right (Nat.le_refl _), Nat.sub_self]; rfl
        rw [e2]
      rw [hs', e, hl]
      rw [← ih.2]
      by_cases hc : lexC (movL n i D) (bstL n D (bst n D (rN B i) (rN B i).length)) < 0
      · rw [if_pos hc, if_pos ⟨rfl, hc⟩]; exact ⟨rfl, rfl⟩
      · rw [if_neg hc, if_neg (fun h => hc h.2)]; exact ih
theorem rN_map (B : List Bool) : (rN B 8).map Int.ofNat = selL B 8 := rfl
theorem rN_len (B : List Bool) : (rN B 8).length = (selL B 8).length := by rw [← rN_map, List.length_map]
theorem rN_lt (B : List Bool) : ∀ r ∈ rN B 8, r < 8 := fun r hr => List.mem_range.1 (List.mem_filter.1 hr).1

theorem leastOfR_ok (h : H) (n : Nat) (hn : 1 ≤ n ∧ n ≤ 8) (D : List Int) (hD : D.length = n * n) (b o cap : Nat) (ex : Bool) (hs : SlC h (iVs D) D.length (.sl b o D.length cap ex)) (Kn : List Nat) (rv : V) (hrv : SlC h (iVs (rchL Kn)) (rchL Kn).length rv) :
    CallOk Try.prog 90 [plateV n (.sl b o D.length cap ex), rv] h (.tup [plateV n (.sl h.n 0 D.length D.length false), .int .i64 (lst n (reachB Kn) D 8 : Nat)]) (addBs h [.cells (ofL (iVs (movL n (lst n (reachB Kn) D 8) D)) 0) true (some (1, D.length))]) := by
  have hl : (rN (reachB Kn) 8).length ≤ 8 := by rw [rN_len]; exact selL_len _ _
  have := leastOf_ok h n hn D hD b o cap ex hs (rN (reachB Kn) 8) (rN_lt _) hl rv (by rw [rN_map, rN_len]; exact hrv)
  rw [(bst_lst n (reachB Kn) D 8).1, (bst_lst n (reachB Kn) D 8).2, Nat.zero_add, Nat.mul_one] at this
  exact this
theorem rch_cons {K : List Int} {Kn : List Nat} (hK : Kd K Kn) (hk : akB (-1) K = true) : ∃ r s, rchL Kn = r :: s := by
  have hg := reach_grp hK hk
  have : (0 : Int) ∈ rchL Kn := List.mem_map.2 ⟨0, List.mem_filter.2 ⟨by decide, hg.zero⟩, rfl⟩
  cases hr : rchL Kn with
  | nil => rw [hr] at this; cases this
  | cons r s => exact ⟨r, s, rfl⟩

theorem ck_of {n : Nat} {D : List Int} (hn : 1 ≤ n ∧ n ≤ 8) (hD : D.length = n * n) (hw : wi 0 3 D = true) : ckP n D = 0 := by
  unfold ckP
  rw [if_pos (by omega), if_pos (by exact_mod_cast hD), if_pos hw]
set_option maxHeartbeats 4000000 in
theorem refLeast_ok (h : H) (n : Nat) (hn : 1 ≤ n ∧ n ≤ 8) (D : List Int) (hD : D.length = n * n) (hw : wi 0 3 D = true) (b o cap : Nat) (ex : Bool) (hs : SlC h (iVs D) D.length (.sl b o D.length cap ex)) (K : List Int) (Kn : List Nat) (hK : Kd K Kn) (hk : akB (-1) K = true) (kv : V) (hkv : SlC h (iVs K) K.length kv) :
    CallOk Try.prog 44 [plateV n (.sl b o D.length cap ex), kv] h (.tup [plateV n (.sl h.n 0 D.length D.length false), .int .i64 (lst n (reachB Kn) D 8 : Nat), .int .i64 0]) (addBs h [.cells (ofL (iVs (movL n (lst n (reachB Kn) D 8) D)) 0) true (some (1, D.length))]) := by
  obtain ⟨vo, svC, hsv, hca, hvw⟩ := hs.view 0
  obtain ⟨v2, s2, q2, ca2, w2⟩ := hkv.view 1
  have hN : 1 ≤ D.length ∧ D.length ≤ 64 := by
    rw [hD]
    have h1 : 1 * 1 ≤ n * n := Nat.mul_le_mul hn.1 hn.1
    have h2 : n * n ≤ 8 * 8 := Nat.mul_le_mul hn.2 hn.2
    omega
  obtain ⟨cap', ex', rfl⟩ : ∃ cap ex, svC = .sl 0 0 D.length cap ex := by
    cases hsv with
    | nil h0 => omega
    | sl => exact ⟨_, _, rfl⟩
  have hB := @iVs_bare D
  have hB2 := @iVs_bare K
  have kcl : K.length ≤ 8 := by have := hK.len; rw [hK.eq, List.length_map]; omega
  have kE := fun h' dv kv hs hk => kinded_ok h' n D K (by omega) (by omega) dv kv hs hk
  have hk0 : kdE n D K = 0 := by
    have := ck_of hn hD hw
    unfold kdE akE
    rw [if_pos this, if_pos hk]
  rw [hk0] at kE
  have kR := fun h' kv hs' => reachedOf_ok h' K Kn hK hk kv hs'
  have kL := fun h' b cap ex hs' rv hrv => leastOfR_ok h' n hn D hD b 0 cap ex hs' Kn rv hrv
  have hRl : (rchL Kn).length ≤ 8 := selL_len _ _
  obtain ⟨r0, s0, hR⟩ := rch_cons hK hk
  rw [hR] at kR kL hRl
  rw [List.length_cons] at hRl
  have hlt := lst_lt n (reachB Kn) D 8 (Nat.le_refl _)
  generalize movL n (lst n (reachB Kn) D 8) D = X at *
  generalize lst n (reachB Kn) D 8 = L at *
  refine CallOk.runN Try.func44 rfl rfl (argsC := [plateV n (.sl 0 0 D.length cap' ex'), s2]) (fun N => .tup [plateV n (.sl N 0 D.length D.length false), .int .i64 (L : Nat), .int .i64 0]) (fun _ => [.cells (ofL (iVs X) 0) true (some (1, D.length))]) (Nat.le_of_ble_eq_true rfl) [vo, v2] (.cons (CaL.agg (.cons (.bare rfl) (.cons (hca _ rfl) .nil))) (.cons (ca2 _ rfl) .nil)) (viewMc2 hB hvw hB2 w2)
    (ShV.tup (.cons (ShV.agg (.cons (.bare rfl) (.cons (.sl (i := 0) (Nat.le_of_ble_eq_true rfl) rfl rfl) .nil))) (.cons (.bare rfl) (.cons (.bare rfl) .nil)))) rfl
    (fun i b hi => by
      match i with
      | 0 => simp at hi; subst hi; exact ⟨_, rfl, rfl, .bare (ofL_bare iVs_bare)⟩
      | i + 1 => simp at hi)
    (WpR.of_vc ?_)
  cases q2
  all_goals
    (conv => whnf); (repeat' (first | ((with_reducible refine ifb_mk (fun hc => ?_) (fun hc => ?_)) <;> ((try simp only [decide_eq_true_eq, decide_eq_false_iff_not, Bool.not_eq_true', Bool.not_eq_false', Int.not_lt, Int.not_le, ne_eq, Decidable.not_not, beq_iff_eq, List.cons.injEq, and_true] at hc); (first | (exfalso; omega) | conv => whnf))) | ((with_reducible refine And.intro True.intro ?_); conv => whnf) | ((with_reducible refine CallX.all ?_); refine CallW.of_ok (kE _ _ _ (SlC.own rfl) (by first | exact SlC.own rfl | exact iNil (by omega))) ?_; conv => whnf) | ((with_reducible refine WpR.draw (id := 3) mixed [0, 1, 7, 2, 3, 4, 5, 6, 8, 9] [0, 0, 2, 7, 15, 31, 31, 0, 191, 511] ?hh ?_); (case hh => kernel_rfl); conv => whnf) | ((with_reducible refine grd_ex ?_); refine ex_new (vC := fun N => grV N (r0 :: s0).length) (news := fun _ => growB (r0 :: s0)) (kR _ _ (by first | exact SlC.own rfl | exact iNil (by omega))) ?_; conv => whnf) | ((with_reducible refine grd_ex ?_); refine ex_new (vC := fun N => .tup [plateV n (.sl N 0 D.length D.length false), .int .i64 (L : Nat)]) (news := fun _ => [.cells (ofL (iVs X) 0) true (some (1, D.length))]) (kL _ _ _ _ (SlC.own rfl) _ (SlC.own rfl)) ?_; conv => whnf) | ((with_reducible refine And.intro ?hh ?_); (case hh => (unfold InR; (try dsimp only); omega)); conv => whnf) | ((with_reducible refine And.intro ?hh ?_); (case hh => ((try dsimp only); omega)); conv => whnf) | ((with_reducible refine And.intro ?hh ?_); (case hh => ((conv => whnf); (repeat' (first | exact True.intro | rfl | refine And.intro ?_ ?_)); done)); conv => whnf) | fail))
    first
    | exact ⟨[5], rfl, rfl, rfl, ⟨⟨_, rfl, rfl, SubQ.ofL rfl iVs_bare (.inr rfl)⟩, ltB_ofLb iVs_bare, rfl, trivial⟩, (by (repeat' (first | exact True.intro | rfl | refine And.intro ?_ ?_)))⟩
    | exact ⟨[6], rfl, rfl, rfl, ⟨⟨_, rfl, rfl, SubQ.ofL rfl iVs_bare (.inr rfl)⟩, ltB_ofLb iVs_bare, rfl, trivial⟩, (by (repeat' (first | exact True.intro | rfl | refine And.intro ?_ ?_)))⟩
    | exact ⟨[4], rfl, rfl, rfl, ⟨⟨_, rfl, rfl, SubQ.ofL rfl iVs_bare (.inr rfl)⟩, ltB_ofLb iVs_bare, rfl, trivial⟩, (by (repeat' (first | exact True.intro | rfl | refine And.intro ?_ ?_)))⟩
    | trace_state
end Go.Proofs.P

namespace Go.Proofs.P
open Go.As
set_option maxRecDepth 20000
set_option linter.unusedVariables false
set_option linter.unusedSimpArgs false

/-! ### The reference's search for a motion -/

def alP (n n2 : Nat) (D E : List Int) (r : Nat) : Bool := decide (n = n2) && decide (movL n r D = E)
theorem find_fs (c : Nat → Bool) : ∀ i, (List.range i).find? c = if fnB c i = true then some (fsN c i) else none
  | 0 => rfl
  | i + 1 => by
    have hF : fnB c (i + 1) = (fnB c i || c i) := rfl
    have hS : fsN c (i + 1) = if fnB c i = true then fsN c i else if c i = true then i else 0 := rfl
    rw [List.range_succ, List.find?_append, find_fs c i, hF, hS]
    cases h1 : fnB c i with
    | true => rfl
    | false => cases h2 : c i <;> simp [h2]
theorem find_congr {c c' : Nat → Bool} : ∀ {L : List Nat}, (∀ x ∈ L, c x = c' x) → L.find? c = L.find? c'
  | [], _ => rfl
  | x :: L, h => by
    unfold List.find?
    rw [h x List.mem_cons_self, find_congr (L := L) (fun y hy => h y (List.mem_cons_of_mem _ hy))]
theorem al_find {n n2 : Nat} {B : List Bool} {D E : List Int} (hn : n ≤ 8) (hD : D.length = n * n) (hE : E.length = n2 * n2) :
    (rN B 8).find? (alP n n2 D E) = if fnB (cfB n n2 B D E) 8 = true then some (fsN (cfB n n2 B D E) 8) else none := by
  rw [← find_fs]
  unfold rN
  rw [List.find?_filter]
  refine find_congr fun x hx => ?_
  have hx8 := List.mem_range.1 hx
  unfold cfB alP
  cases B.getD x false with
  | false => rfl
  | true =>
    by_cases hnn : n = n2
    · subst hnn
      rw [comB_eq hn hx8 hD hE]; simp
    · unfold comB
      rw [decide_eq_false hnn]; simp

set_option maxHeartbeats 8000000 in
theorem refAlike_ok (h : H) (n n2 : Nat) (hn : 1 ≤ n ∧ n ≤ 8) (hn2 : 1 ≤ n2 ∧ n2 ≤ 8) (D E : List Int) (hD : D.length = n * n) (hE : E.length = n2 * n2) (hw : wi 0 3 D = true) (hw2 : wi 0 3 E = true)
    (b1 o1 c1 : Nat) (e1 : Bool) (hs1 : SlC h (iVs D) D.length (.sl b1 o1 D.length c1 e1)) (b2 o2 c2 : Nat) (e2 : Bool) (hs2 : SlC h (iVs E) E.length (.sl b2 o2 E.length c2 e2)) (K : List Int) (Kn : List Nat) (hK : Kd K Kn) (hk : akB (-1) K = true) (kv : V) (hkv : SlC h (iVs K) K.length kv) :
    CallOk Try.prog 46 [plateV n (.sl b1 o1 D.length c1 e1), plateV n2 (.sl b2 o2 E.length c2 e2), kv] h (.tup [.int .i64 (fsN (cfB n n2 (reachB Kn) D E) 8 : Nat), .int .i64 (if fnB (cfB n n2 (reachB Kn) D E) 8 = true then 0 else 5)]) h := by
  obtain ⟨v1, s1, q1, ca1, w1⟩ := hs1.view 0
  obtain ⟨v2, s2, q2, ca2, w2⟩ := hs2.view 1
  obtain ⟨v3, s3, q3, ca3, w3⟩ := hkv.view 2
  have hN : 1 ≤ D.length ∧ D.length ≤ 64 := by
    rw [hD]
    have h1 : 1 * 1 ≤ n * n := Nat.mul_le_mul hn.1 hn.1
    have h2 : n * n ≤ 8 * 8 := Nat.mul_le_mul hn.2 hn.2
    omega
  have hN2 : 1 ≤ E.length ∧ E.length ≤ 64 := by
    rw [hE]
    have h1 : 1 * 1 ≤ n2 * n2 := Nat.mul_le_mul hn2.1 hn2.1
    have h2 : n2 * n2 ≤ 8 * 8 := Nat.mul_le_mul hn2.2 hn2.2
    omega
  obtain ⟨cp1, ex1, rfl⟩ : ∃ cap ex, s1 = .sl 0 0 D.length cap ex := by
    cases q1 with
    | nil h0 => omega
    | sl => exact ⟨_, _, rfl⟩
  obtain ⟨cp2, ex2, rfl⟩ : ∃ cap ex, s2 = .sl 1 0 E.length cap ex := by
    cases q2 with
    | nil h0 => omega
    | sl => exact ⟨_, _, rfl⟩
  have hB1 := @iVs_bare D
  have hB2 := @iVs_bare E
  have hB3 := @iVs_bare K
  have kcl : K.length ≤ 8 := by have := hK.len; rw [hK.eq, List.length_map]; omega
  have kP := fun h' dv hs => checkPlateR_ok h' n D dv (by omega) hs
  rw [ck_of hn hD hw] at kP
  have kE := fun h' dv kv hs hk => kinded_ok h' n2 E K (by omega) (by omega) dv kv hs hk
  have hk0 : kdE n2 E K = 0 := by
    unfold kdE akE
    rw [if_pos (ck_of hn2 hE hw2), if_pos hk]
  rw [hk0] at kE
  have kR := fun h' kv hs' => reachedOf_ok h' K Kn hK hk kv hs'
  have hRl : (rchL Kn).length ≤ 8 := selL_len _ _
  have hfind := al_find (B := reachB Kn) hn.2 hD hE
  have hR8 := rN_lt (reachB Kn)
  have hRm : rchL Kn = (rN (reachB Kn) 8).map Int.ofNat := rfl
  obtain ⟨r0, s0, hR⟩ := rch_cons hK hk
  rw [hR] at kR hRl hRm
  generalize rN (reachB Kn) 8 = RN at *
  have hRlen : RN.length = s0.length + 1 := by rw [← List.length_cons (a := r0), hRm, List.length_map]
  have hans : ∀ o, RN.find? (alP n n2 D E) = o → (fsN (cfB n n2 (reachB Kn) D E) 8, if fnB (cfB n n2 (reachB Kn) D E) 8 = true then (0 : Int) else 5) = match o with | some r => (r, 0) | none => (0, 5) := fun o ho => by
    rw [ho] at hfind
    cases hf : fnB (cfB n n2 (reachB Kn) D E) 8 with
    | true => rw [hf, if_pos rfl] at hfind; subst hfind; rfl
    | false => rw [hf] at hfind; have h0 := (fs_none _ 8 hf).1; rw [h0]; subst hfind; rfl
  clear hfind
  generalize fsN (cfB n n2 (reachB Kn) D E) 8 = m8 at *
  generalize (if fnB (cfB n n2 (reachB Kn) D E) 8 = true then (0 : Int) else 5) = f8 at *
  have hfin : ∀ o, RN.find? (alP n n2 D E) = o → V.tup [.int .i64 (m8 : Nat), .int .i64 f8] = match o with | some r => .tup [.int .i64 (r : Nat), .int .i64 0] | none => .tup [.int .i64 0, .int .i64 5] := fun o ho => by
    have := hans o ho
    cases o with
    | none => obtain ⟨rfl, rfl⟩ := Prod.mk.inj this; rfl
    | some r => obtain ⟨rfl, rfl⟩ := Prod.mk.inj this; rfl
  clear hans
  generalize hv : V.tup [.int .i64 (m8 : Nat), .int .i64 f8] = vr at *
  have hbv : ltV 0 vr = true := by subst hv; rfl
  clear hv
  rw [List.length_cons] at hRl
  refine CallOk.run Try.func46 rfl rfl (argsC := [plateV n (.sl 0 0 D.length cp1 ex1), plateV n2 (.sl 1 0 E.length cp2 ex2), s3]) (Nat.le_of_ble_eq_true rfl) [v1, v2, v3] (.cons (CaL.agg (.cons (.bare rfl) (.cons (ca1 _ rfl) .nil))) (.cons (CaL.agg (.cons (.bare rfl) (.cons (ca2 _ rfl) .nil))) (.cons (ca3 _ rfl) .nil))) (viewMc3 hB1 w1 hB2 w2 hB3 w3) hbv (WpR.of_vc ?_)
  have wR : ∀ {X : List Nat} {Q : V → H → Prop} (h' : H) (kv : V) (hs' : SlC h' (iVs K) K.length kv), (addNP h' (fun _ => growB (r0 :: s0)) fun N h' => Q (grV N (r0 :: s0).length) h') → CallW Try.prog X 79 [kv] h' Q := fun h' kv hs' hQ => CallW.of_new (kR h' kv hs') hQ
  cases q3
  all_goals
    (conv => whnf); (repeat' (first | ((with_reducible refine ifb_mk (fun hc => ?_) (fun hc => ?_)) <;> ((try simp only [decide_eq_true_eq, decide_eq_false_iff_not, Bool.not_eq_true', Bool.not_eq_false', Int.not_lt, Int.not_le, ne_eq, Decidable.not_not, beq_iff_eq, List.cons.injEq, and_true] at hc); (first | (exfalso; omega) | conv => whnf))) | ((with_reducible refine And.intro True.intro ?_); conv => whnf) | ((with_reducible refine CallX.all ?_); refine CallW.of_ok (kP _ _ (SlC.own rfl)) ?_; conv => whnf) | ((with_reducible refine CallX.all ?_); refine CallW.of_ok (kE _ _ _ (SlC.own rfl) (by first | exact SlC.own rfl | exact iNil (by omega))) ?_; conv => whnf) | ((with_reducible refine CallX.all ?_); refine wR _ _ (by first | exact SlC.own rfl | exact iNil (by omega)) ?_; conv => whnf) | ((with_reducible refine And.intro ?hh ?_); (case hh => (unfold InR; (try dsimp only); omega)); conv => whnf) | ((with_reducible refine And.intro ?hh ?_); (case hh => ((try dsimp only); omega)); conv => whnf) | ((with_reducible refine And.intro ?hh ?_); (case hh => ((conv => whnf); (repeat' (first | exact True.intro | rfl | refine And.intro ?_ ?_)); done)); conv => whnf) | fail))
    refine WpR.loopD (ι := Nat) [] [3, 4, 8] [] [] 6 (fun i => [(9, .int .i64 i)]) (fun _ => []) (fun i => RN.length - i) (fun i => i ≤ RN.length ∧ RN.find? (alP n n2 D E) = (RN.drop i).find? (alP n n2 D E)) ?_ (0) (⟨Nat.zero_le _, rfl⟩) [] ⟨rfl, rfl, (by (repeat' (first | exact True.intro | rfl | refine And.intro ?_ ?_))), (by (repeat' (first | exact True.intro | rfl | refine And.intro ?_ ?_))), (by (repeat' (first | exact True.intro | rfl | refine And.intro ?_ ?_))), (by (repeat' (first | exact True.intro | exact Or.inl rfl | refine And.intro ?_ ?_ | refine Or.inr ⟨_, rfl, ?_⟩ | exact SubQ.same (n := 1000) (Y := []) (fun _ _ _ => rfl) (by first | exact True.intro | exact ltB_all rfl | exact ltB_ofLb (by first | exact bare0_ints | assumption | exact bVs_bare | exact iVs_bare | exact mVs_bare | (intro v hv; (repeat (rcases List.mem_cons.1 hv with rfl | hv; exact rfl)); cases hv)) | exact ltB_loop rfl rfl | exact hMap _ | exact hMap2 _ | exact grB_lt (by first | exact bare0_ints | assumption | exact bVs_bare | exact iVs_bare | exact mVs_bare | (intro v hv; (repeat (rcases List.mem_cons.1 hv with rfl | hv; exact rfl)); cases hv)) _ | exact ltB_encL | exact ltB_map0 | assumption) (avB_nil _) rfl | exact SubQ.ofL (by first | rfl | simp) (by first | exact bare0_ints | assumption | exact bVs_bare | exact iVs_bare | exact mVs_bare | (intro v hv; (repeat (rcases List.mem_cons.1 hv with rfl | hv; exact rfl)); cases hv)) (by first | exact Or.inl rfl | exact Or.inr rfl) | exact SubQ.fin (by (conv => whnf); (repeat' (first | exact True.intro | rfl | refine And.intro ?_ ?_)); done) (fun h => h) (by first | exact Or.inl rfl | exact Or.inr rfl)))), rfl, rfl⟩ rfl rfl rfl (fun _ => rfl) (by (repeat' (first | exact True.intro | refine And.intro ?_ ?_ | exact avV_nil _ | rfl))) (by (repeat' (first | exact True.intro | (with_reducible exact avB_nil _) | ((with_reducible refine avB_all ?_); rfl) | ((with_reducible refine avB_ofLb ?_); exact (by first | exact bare0_ints | assumption | exact bVs_bare | exact iVs_bare | exact mVs_bare | (intro v hv; (repeat (rcases List.mem_cons.1 hv with rfl | hv; exact rfl)); cases hv))) | ((with_reducible refine ltB_all ?_); rfl) | ((with_reducible refine ltB_ofLb ?_); exact (by first | exact bare0_ints | assumption | exact bVs_bare | exact iVs_bare | exact mVs_bare | (intro v hv; (repeat (rcases List.mem_cons.1 hv with rfl | hv; exact rfl)); cases hv))) | ((with_reducible refine ltB_loop ?_ ?_) <;> rfl) | (with_reducible exact hMap _) | (with_reducible exact hMap2 _) | (with_reducible exact ltB_encL) | (with_reducible exact ltB_map0) | ((with_reducible refine grB_lt ?_ _); exact (by first | exact bare0_ints | assumption | exact bVs_bare | exact iVs_bare | exact mVs_bare | (intro v hv; (repeat (rcases List.mem_cons.1 hv with rfl | hv; exact rfl)); cases hv))) | (with_reducible assumption) | refine And.intro ?_ ?_ | exact (by first | exact True.intro | exact ltB_all rfl | exact ltB_ofLb (by first | exact bare0_ints | assumption | exact bVs_bare | exact iVs_bare | exact mVs_bare | (intro v hv; (repeat (rcases List.mem_cons.1 hv with rfl | hv; exact rfl)); cases hv)) | exact ltB_loop rfl rfl | exact hMap _ | exact hMap2 _ | exact grB_lt (by first | exact bare0_ints | assumption | exact bVs_bare | exact iVs_bare | exact mVs_bare | (intro v hv; (repeat (rcases List.mem_cons.1 hv with rfl | hv; exact rfl)); cases hv)) _ | exact ltB_encL | exact ltB_map0 | assumption)))) (fun _ _ => (by (repeat' (first | exact True.intro | rfl | refine And.intro ?_ ?_ | exact (by decide) | exact (by first | exact True.intro | exact hMap _ | exact hMap2 _ | exact grB_lt (by first | exact bare0_ints | assumption | exact bVs_bare | exact iVs_bare | exact mVs_bare | (intro v hv; (repeat (rcases List.mem_cons.1 hv with rfl | hv; exact rfl)); cases hv)) _ | exact ltB_all rfl | exact ltB_ofLb (by first | exact bare0_ints | assumption | exact bVs_bare | exact iVs_bare | exact mVs_bare | (intro v hv; (repeat (rcases List.mem_cons.1 hv with rfl | hv; exact rfl)); cases hv)) | exact ltB_loop rfl rfl | exact ltB_encL | exact ltB_map0 | assumption))))) (fun _ _ => (by (repeat' (first | exact True.intro | rfl | refine And.intro ?_ ?_ | exact (by decide) | exact (by first | exact True.intro | exact hMap _ | exact hMap2 _ | exact grB_lt (by first | exact bare0_ints | assumption | exact bVs_bare | exact iVs_bare | exact mVs_bare | (intro v hv; (repeat (rcases List.mem_cons.1 hv with rfl | hv; exact rfl)); cases hv)) _ | exact ltB_all rfl | exact ltB_ofLb (by first | exact bare0_ints | assumption | exact bVs_bare | exact iVs_bare | exact mVs_bare | (intro v hv; (repeat (rcases List.mem_cons.1 hv with rfl | hv; exact rfl)); cases hv)) | exact ltB_loop rfl rfl | exact ltB_encL | exact ltB_map0 | assumption))))) (fun _ _ => (by (repeat' (first | exact True.intro | rfl | refine And.intro ?_ ?_)))) rfl
    rintro i ⟨i1, i2⟩
    refine WpR.of_vc ?_
    cases hx : RN[i]? with
    | some r =>
      have hlt := (List.getElem?_eq_some_iff.1 hx).1
      have hKx : (r0 :: s0)[i]? = some (r : Int) := by rw [hRm, List.getElem?_map, hx]; rfl
      have hr8 := hR8 r (List.mem_of_getElem? hx)
      rw [drop_at hx] at i2
      have hMl : (movL n r D).length = D.length := movL_len _ _ _
      have kO := fun h' b cap ex hs' => moveOf_ok h' n r hn hr8 D hD b 0 cap ex hs'
      have kS := fun h' av bv g1 g2 => same_ok h' (movL n r D) E av bv (by rw [hMl]; omega) g1 g2
      rw [hMl] at kS
      by_cases hp : alP n n2 D E r = true
      · rw [List.find?_cons_of_pos hp] at i2
        have hvr := hfin _ i2
        dsimp only at hvr
        rw [hvr]
        unfold alP at hp
        rw [Bool.and_eq_true, decide_eq_true_eq] at hp
        obtain ⟨hnn, hp2⟩ := hp
        rw [hp2] at kS
        subst hnn
        (conv => whnf); (repeat' (first | ((with_reducible refine ifb_mk (fun hc => ?_) (fun hc => ?_)) <;> ((try simp only [decide_eq_true_eq, decide_eq_false_iff_not, Bool.not_eq_true', Bool.not_eq_false', Int.not_lt, Int.not_le, ne_eq, Decidable.not_not, beq_iff_eq, List.cons.injEq, and_true] at hc); (first | (exfalso; omega) | conv => whnf))) | ((with_reducible refine And.intro True.intro ?_); conv => whnf) | ((with_reducible refine grd_get ?_); refine som_mk (a := ?_) ?hh ?_; (case hh => exact iGet hKx); conv => whnf) | ((with_reducible refine WpR.draw (id := 9) mixed [0, 1, 2, 3, 4, 5, 6, 7, 8, 9, 10, 13, 14, 11, 12, 15, 16] [0, 1, 0, 4, 15, 31, 63, 63, 63, 447, 959, 2047, 4095, 63, 8255, 32767, 65535] ?hh ?_); (case hh => kernel_rfl); conv => whnf) | ((with_reducible refine grd_ex ?_); refine ex_new (vC := fun N => plateV n (.sl N 0 D.length D.length true)) (news := fun _ => [.cells (ofL (iVs (movL n r D)) 0) true none]) (kO _ _ _ _ (SlC.own rfl)) ?_; conv => whnf) | ((with_reducible refine grd_ex ?_); refine ex_ok (kS _ _ _ (SlC.own rfl) (SlC.own rfl)) ?_; conv => whnf) | ((with_reducible refine And.intro ?hh ?_); (case hh => (unfold InR; (try dsimp only); omega)); conv => whnf) | ((with_reducible refine And.intro ?hh ?_); (case hh => ((try dsimp only); omega)); conv => whnf) | ((with_reducible refine And.intro ?hh ?_); (case hh => ((conv => whnf); (repeat' (first | exact True.intro | rfl | refine And.intro ?_ ?_)); done)); conv => whnf) | fail))
        all_goals first | exact absurd trivial (by assumption) | (refine ⟨[], ?_, rfl, rfl, trivial, (by (repeat' (first | exact True.intro | rfl | refine And.intro ?_ ?_)))⟩; simp only [renV, renL]; (first | done | rfl | simp | grind)) | trace_state
      · rw [List.find?_cons_of_neg hp] at i2
        by_cases hnn : n = n2
        · have hp2 : decide (movL n r D = E) = false := by
            unfold alP at hp
            rw [decide_eq_true hnn, Bool.true_and] at hp
            cases hd : decide (movL n r D = E) with
            | false => rfl
            | true => exact absurd hd hp
          rw [hp2] at kS
          subst hnn
          (conv => whnf); (repeat' (first | ((with_reducible refine ifb_mk (fun hc => ?_) (fun hc => ?_)) <;> ((try simp only [decide_eq_true_eq, decide_eq_false_iff_not, Bool.not_eq_true', Bool.not_eq_false', Int.not_lt, Int.not_le, ne_eq, Decidable.not_not, beq_iff_eq, List.cons.injEq, and_true] at hc); (first | (exfalso; omega) | conv => whnf))) | ((with_reducible refine And.intro True.intro ?_); conv => whnf) | ((with_reducible refine grd_get ?_); refine som_mk (a := ?_) ?hh ?_; (case hh => exact iGet hKx); conv => whnf) | ((with_reducible refine WpR.draw (id := 9) mixed [0, 1, 2, 3, 4, 5, 6, 7, 8, 9, 10, 13, 14, 11, 12, 15, 16] [0, 1, 0, 4, 15, 31, 63, 63, 63, 447, 959, 2047, 4095, 63, 8255, 32767, 65535] ?hh ?_); (case hh => kernel_rfl); conv => whnf) | ((with_reducible refine grd_ex ?_); refine ex_new (vC := fun N => plateV n (.sl N 0 D.length D.length true)) (news := fun _ => [.cells (ofL (iVs (movL n r D)) 0) true none]) (kO _ _ _ _ (SlC.own rfl)) ?_; conv => whnf) | ((with_reducible refine grd_ex ?_); refine ex_ok (kS _ _ _ (SlC.own rfl) (SlC.own rfl)) ?_; conv => whnf) | ((with_reducible refine And.intro ?hh ?_); (case hh => (unfold InR; (try dsimp only); omega)); conv => whnf) | ((with_reducible refine And.intro ?hh ?_); (case hh => ((try dsimp only); omega)); conv => whnf) | ((with_reducible refine And.intro ?hh ?_); (case hh => ((conv => whnf); (repeat' (first | exact True.intro | rfl | refine And.intro ?_ ?_)); done)); conv => whnf) | fail))
          all_goals first | exact absurd trivial (by assumption) | exact ⟨i + 1, [], by omega, ⟨by omega, i2⟩, ⟨rfl, rfl, (by (repeat' (first | exact True.intro | rfl | refine And.intro ?_ ?_))), (by (repeat' (first | exact True.intro | rfl | refine And.intro ?_ ?_))), (by (repeat' (first | exact True.intro | rfl | refine And.intro ?_ ?_))), (by (repeat' (first | exact True.intro | exact Or.inl rfl | refine And.intro ?_ ?_ | refine Or.inr ⟨_, rfl, ?_⟩ | exact SubQ.same (n := 1000) (Y := []) (fun _ _ _ => rfl) (by first | exact True.intro | exact ltB_all rfl | exact ltB_ofLb (by first | exact bare0_ints | assumption | exact bVs_bare | exact iVs_bare | exact mVs_bare | (intro v hv; (repeat (rcases List.mem_cons.1 hv with rfl | hv; exact rfl)); cases hv)) | exact ltB_loop rfl rfl | exact hMap _ | exact hMap2 _ | exact grB_lt (by first | exact bare0_ints | assumption | exact bVs_bare | exact iVs_bare | exact mVs_bare | (intro v hv; (repeat (rcases List.mem_cons.1 hv with rfl | hv; exact rfl)); cases hv)) _ | exact ltB_encL | exact ltB_map0 | assumption) (avB_nil _) rfl | exact SubQ.ofL (by first | rfl | simp) (by first | exact bare0_ints | assumption | exact bVs_bare | exact iVs_bare | exact mVs_bare | (intro v hv; (repeat (rcases List.mem_cons.1 hv with rfl | hv; exact rfl)); cases hv)) (by first | exact Or.inl rfl | exact Or.inr rfl) | exact SubQ.fin (by (conv => whnf); (repeat' (first | exact True.intro | rfl | refine And.intro ?_ ?_)); done) (fun h => h) (by first | exact Or.inl rfl | exact Or.inr rfl)))), rfl, rfl⟩⟩ | trace_state
        · (conv => whnf); (repeat' (first | ((with_reducible refine ifb_mk (fun hc => ?_) (fun hc => ?_)) <;> ((try simp only [decide_eq_true_eq, decide_eq_false_iff_not, Bool.not_eq_true', Bool.not_eq_false', Int.not_lt, Int.not_le, ne_eq, Decidable.not_not, beq_iff_eq, List.cons.injEq, and_true] at hc); (first | (exfalso; omega) | conv => whnf))) | ((with_reducible refine And.intro True.intro ?_); conv => whnf) | ((with_reducible refine grd_get ?_); refine som_mk (a := ?_) ?hh ?_; (case hh => exact iGet hKx); conv => whnf) | ((with_reducible refine WpR.draw (id := 9) mixed [0, 1, 2, 3, 4, 5, 6, 7, 8, 9, 10, 13, 14, 11, 12, 15, 16] [0, 1, 0, 4, 15, 31, 63, 63, 63, 447, 959, 2047, 4095, 63, 8255, 32767, 65535] ?hh ?_); (case hh => kernel_rfl); conv => whnf) | ((with_reducible refine grd_ex ?_); refine ex_new (vC := fun N => plateV n (.sl N 0 D.length D.length true)) (news := fun _ => [.cells (ofL (iVs (movL n r D)) 0) true none]) (kO _ _ _ _ (SlC.own rfl)) ?_; conv => whnf) | ((with_reducible refine grd_ex ?_); refine ex_ok (kS _ _ _ (SlC.own rfl) (SlC.own rfl)) ?_; conv => whnf) | ((with_reducible refine And.intro ?hh ?_); (case hh => (unfold InR; (try dsimp only); omega)); conv => whnf) | ((with_reducible refine And.intro ?hh ?_); (case hh => ((try dsimp only); omega)); conv => whnf) | ((with_reducible refine And.intro ?hh ?_); (case hh => ((conv => whnf); (repeat' (first | exact True.intro | rfl | refine And.intro ?_ ?_)); done)); conv => whnf) | fail))
          all_goals first | (exfalso; omega) | exact ⟨i + 1, [], by omega, ⟨by omega, i2⟩, ⟨rfl, rfl, (by (repeat' (first | exact True.intro | rfl | refine And.intro ?_ ?_))), (by (repeat' (first | exact True.intro | rfl | refine And.intro ?_ ?_))), (by (repeat' (first | exact True.intro | rfl | refine And.intro ?_ ?_))), (by (repeat' (first | exact True.intro | exact Or.inl rfl | refine And.intro ?_ ?_ | refine Or.inr ⟨_, rfl, ?_⟩ | exact SubQ.same (n := 1000) (Y := []) (fun _ _ _ => rfl) (by first | exact True.intro | exact ltB_all rfl | exact ltB_ofLb (by first | exact bare0_ints | assumption | exact bVs_bare | exact iVs_bare | exact mVs_bare | (intro v hv; (repeat (rcases List.mem_cons.1 hv with rfl | hv; exact rfl)); cases hv)) | exact ltB_loop rfl rfl | exact hMap _ | exact hMap2 _ | exact grB_lt (by first | exact bare0_ints | assumption | exact bVs_bare | exact iVs_bare | exact mVs_bare | (intro v hv; (repeat (rcases List.mem_cons.1 hv with rfl | hv; exact rfl)); cases hv)) _ | exact ltB_encL | exact ltB_map0 | assumption) (avB_nil _) rfl | exact SubQ.ofL (by first | rfl | simp) (by first | exact bare0_ints | assumption | exact bVs_bare | exact iVs_bare | exact mVs_bare | (intro v hv; (repeat (rcases List.mem_cons.1 hv with rfl | hv; exact rfl)); cases hv)) (by first | exact Or.inl rfl | exact Or.inr rfl) | exact SubQ.fin (by (conv => whnf); (repeat' (first | exact True.intro | rfl | refine And.intro ?_ ?_)); done) (fun h => h) (by first | exact Or.inl rfl | exact Or.inr rfl)))), rfl, rfl⟩⟩ | trace_state
    | none =>
      have hlen : RN.length ≤ i := by simpa using hx
      rw [List.drop_eq_nil_of_le hlen] at i2
      have hvr := hfin none i2
      dsimp only at hvr
      rw [hvr]
      (conv => whnf); (repeat' (first | ((with_reducible refine ifb_mk (fun hc => ?_) (fun hc => ?_)) <;> ((try simp only [decide_eq_true_eq, decide_eq_false_iff_not, Bool.not_eq_true', Bool.not_eq_false', Int.not_lt, Int.not_le, ne_eq, Decidable.not_not, beq_iff_eq, List.cons.injEq, and_true] at hc); (first | (exfalso; omega) | conv => whnf))) | ((with_reducible refine And.intro True.intro ?_); conv => whnf) | ((with_reducible refine And.intro ?hh ?_); (case hh => (unfold InR; (try dsimp only); omega)); conv => whnf) | ((with_reducible refine And.intro ?hh ?_); (case hh => ((try dsimp only); omega)); conv => whnf) | ((with_reducible refine And.intro ?hh ?_); (case hh => ((conv => whnf); (repeat' (first | exact True.intro | rfl | refine And.intro ?_ ?_)); done)); conv => whnf) | fail))
      (refine ⟨[], ?_, rfl, rfl, trivial, (by (repeat' (first | exact True.intro | rfl | refine And.intro ?_ ?_)))⟩; simp only [renV, renL]; (first | done | rfl | simp | grind))
end Go.Proofs.P

namespace Go.Proofs.P
open Go.As
set_option maxRecDepth 20000
set_option linter.unusedVariables false
set_option linter.unusedSimpArgs false

theorem akE_cases {K : List Int} (h : akE K = 0) : akB (-1) K = true := by
  unfold akE at h
  cases hk : akB (-1) K with
  | true => rfl
  | false => rw [hk] at h; cases h

set_option maxHeartbeats 8000000 in
theorem formsMain (h : H) (n n2 : Nat) (hn : 1 ≤ n ∧ n ≤ 8) (hn2 : 1 ≤ n2 ∧ n2 ≤ 8) (D E : List Int) (hD : D.length = n * n) (hE : E.length = n2 * n2) (hw : wi 0 3 D = true) (hw2 : wi 0 3 E = true)
    (b1 o1 c1 : Nat) (e1 : Bool) (hs1 : SlC h (iVs D) D.length (.sl b1 o1 D.length c1 e1)) (b2 o2 c2 : Nat) (e2 : Bool) (hs2 : SlC h (iVs E) E.length (.sl b2 o2 E.length c2 e2)) (K : List Int) (hk : akB (-1) K = true) (kv : V) (hkv : SlC h (iVs K) K.length kv) :
    CallOk Try.prog 7 [plateV n (.sl b1 o1 D.length c1 e1), plateV n2 (.sl b2 o2 E.length c2 e2), kv] h (.bool true) h := by
  obtain ⟨Kn, hK⟩ := kd_of hk
  obtain ⟨v1, s1, q1, ca1, w1⟩ := hs1.view 0
  obtain ⟨v2, s2, q2, ca2, w2⟩ := hs2.view 1
  obtain ⟨v3, s3, q3, ca3, w3⟩ := hkv.view 2
  have hN : 1 ≤ D.length ∧ D.length ≤ 64 := by
    rw [hD]
    have h1 : 1 * 1 ≤ n * n := Nat.mul_le_mul hn.1 hn.1
    have h2 : n * n ≤ 8 * 8 := Nat.mul_le_mul hn.2 hn.2
    omega
  have hN2 : 1 ≤ E.length ∧ E.length ≤ 64 := by
    rw [hE]
    have h1 : 1 * 1 ≤ n2 * n2 := Nat.mul_le_mul hn2.1 hn2.1
    have h2 : n2 * n2 ≤ 8 * 8 := Nat.mul_le_mul hn2.2 hn2.2
    omega
  obtain ⟨cp1, ex1, rfl⟩ : ∃ cap ex, s1 = .sl 0 0 D.length cap ex := by
    cases q1 with
    | nil h0 => omega
    | sl => exact ⟨_, _, rfl⟩
  obtain ⟨cp2, ex2, rfl⟩ : ∃ cap ex, s2 = .sl 1 0 E.length cap ex := by
    cases q2 with
    | nil h0 => omega
    | sl => exact ⟨_, _, rfl⟩
  have hB1 := @iVs_bare D
  have hB2 := @iVs_bare E
  have hB3 := @iVs_bare K
  have kcl : K.length ≤ 8 := by have := hK.len; rw [hK.eq, List.length_map]; omega
  have kG1 := fun h' dv hs => great_ok h' n D dv hs
  rw [decide_eq_false (by omega)] at kG1
  have kG2 := fun h' dv hs => great_ok h' n2 E dv hs
  rw [decide_eq_false (by omega)] at kG2
  have kL := fun h' b cap ex hs' kv hkv => leastP_ok h' n hn D hD hw b 0 cap ex hs' K Kn hK hk kv hkv
  have kM := fun h' b cap ex hs' kv hkv => refLeast_ok h' n hn D hD hw b 0 cap ex hs' K Kn hK hk kv hkv
  have kA := fun h' b1 c1 e1 hs1 b2 c2 e2 hs2 kv hkv => alikeP_ok h' n n2 hn hn2 D E hD hE hw hw2 b1 0 c1 e1 hs1 b2 0 c2 e2 hs2 K Kn hK hk kv hkv
  have kB := fun h' b1 c1 e1 hs1 b2 c2 e2 hs2 kv hkv => refAlike_ok h' n n2 hn hn2 D E hD hE hw hw2 b1 0 c1 e1 hs1 b2 0 c2 e2 hs2 K Kn hK hk kv hkv
  have hXl : (movL n (lst n (reachB Kn) D 8) D).length = D.length := movL_len _ _ _
  have z := fun h' av bv g1 g2 => samePlate_ok h' n n (movL n (lst n (reachB Kn) D 8) D) (movL n (lst n (reachB Kn) D 8) D) av bv (by rw [movL_len]; omega) g1 g2
  rw [decide_eq_true rfl, decide_eq_true rfl, movL_len] at z
  generalize fsN (cfB n n2 (reachB Kn) D E) 8 = m8 at *
  generalize (if fnB (cfB n n2 (reachB Kn) D E) 8 = true then (0 : Int) else 5) = f8 at *
  generalize movL n (lst n (reachB Kn) D 8) D = X at *
  generalize lst n (reachB Kn) D 8 = L at *
  have wL : ∀ {Z : List Nat} {Q : V → H → Prop} (h' : H) (b cap : Nat) (ex : Bool) (hs' : SlC h' (iVs D) D.length (.sl b 0 D.length cap ex)) (kv : V) (hkv : SlC h' (iVs K) K.length kv), (addNP h' (fun _ => [.cells (ofL (iVs X) 0) true none]) fun N h' => Q (.tup [plateV n (.sl N 0 D.length D.length true), .int .i64 L, .int .i64 0]) h') → CallW Try.prog Z 43 [plateV n (.sl b 0 D.length cap ex), kv] h' Q := fun h' b cap ex hs' kv hkv hQ => CallW.of_new (vC := fun N => .tup [plateV n (.sl N 0 D.length D.length true), .int .i64 L, .int .i64 0]) (news := fun _ => [.cells (ofL (iVs X) 0) true none]) (kL h' b cap ex hs' kv hkv) hQ
  have wM : ∀ {Z : List Nat} {Q : V → H → Prop} (h' : H) (b cap : Nat) (ex : Bool) (hs' : SlC h' (iVs D) D.length (.sl b 0 D.length cap ex)) (kv : V) (hkv : SlC h' (iVs K) K.length kv), (addNP h' (fun _ => [.cells (ofL (iVs X) 0) true (some (1, D.length))]) fun N h' => Q (.tup [plateV n (.sl N 0 D.length D.length false), .int .i64 L, .int .i64 0]) h') → CallW Try.prog Z 44 [plateV n (.sl b 0 D.length cap ex), kv] h' Q := fun h' b cap ex hs' kv hkv hQ => CallW.of_new (vC := fun N => .tup [plateV n (.sl N 0 D.length D.length false), .int .i64 L, .int .i64 0]) (news := fun _ => [.cells (ofL (iVs X) 0) true (some (1, D.length))]) (kM h' b cap ex hs' kv hkv) hQ
  refine CallOk.run Try.func7 rfl rfl (argsC := [plateV n (.sl 0 0 D.length cp1 ex1), plateV n2 (.sl 1 0 E.length cp2 ex2), s3]) (Nat.le_of_ble_eq_true rfl) [v1, v2, v3] (.cons (CaL.agg (.cons (.bare rfl) (.cons (ca1 _ rfl) .nil))) (.cons (CaL.agg (.cons (.bare rfl) (.cons (ca2 _ rfl) .nil))) (.cons (ca3 _ rfl) .nil))) (viewMc3 hB1 w1 hB2 w2 hB3 w3) rfl (WpR.of_vc ?_)
  cases q3
  all_goals
    (conv => whnf); (repeat' (first | ((with_reducible refine ifb_mk (fun hc => ?_) (fun hc => ?_)) <;> ((try simp only [decide_eq_true_eq, decide_eq_false_iff_not, Bool.not_eq_true', Bool.not_eq_false', Int.not_lt, Int.not_le, ne_eq, Decidable.not_not, beq_iff_eq, List.cons.injEq, and_true] at hc); (first | (exfalso; omega) | conv => whnf))) | ((with_reducible refine And.intro True.intro ?_); conv => whnf) | ((with_reducible refine CallX.all ?_); refine CallW.of_ok (kG1 _ _ (SlC.own rfl)) ?_; conv => whnf) | ((with_reducible refine CallX.all ?_); refine CallW.of_ok (kG2 _ _ (SlC.own rfl)) ?_; conv => whnf) | ((with_reducible refine CallX.all ?_); refine wL _ _ _ _ (SlC.own rfl) _ (by first | exact SlC.own rfl | exact iNil (by omega)) ?_; conv => whnf) | ((with_reducible refine CallX.all ?_); refine wM _ _ _ _ (SlC.own rfl) _ (by first | exact SlC.own rfl | exact iNil (by omega)) ?_; conv => whnf) | ((with_reducible refine CallX.all ?_); refine CallW.of_ok (kA _ _ _ _ (SlC.own rfl) _ _ _ (SlC.own rfl) _ (by first | exact SlC.own rfl | exact iNil (by omega))) ?_; conv => whnf) | ((with_reducible refine CallX.all ?_); refine CallW.of_ok (kB _ _ _ _ (SlC.own rfl) _ _ _ (SlC.own rfl) _ (by first | exact SlC.own rfl | exact iNil (by omega))) ?_; conv => whnf) | ((with_reducible refine CallX.all ?_); refine CallW.of_ok (z _ _ _ (SlC.own rfl) (SlC.own rfl)) ?_; conv => whnf) | ((with_reducible refine CallX.all ?_); refine CallW.of_ok (works_any _) ?_; conv => whnf) | ((with_reducible refine And.intro ?hh ?_); (case hh => (unfold InR; (try dsimp only); omega)); conv => whnf) | ((with_reducible refine And.intro ?hh ?_); (case hh => ((try dsimp only); omega)); conv => whnf) | ((with_reducible refine And.intro ?hh ?_); (case hh => ((conv => whnf); (repeat' (first | exact True.intro | rfl | refine And.intro ?_ ?_)); done)); conv => whnf) | fail))
    all_goals first | (exfalso; omega) | exact absurd trivial (by assumption) | (refine ⟨[], ?_, rfl, rfl, trivial, (by (repeat' (first | exact True.intro | rfl | refine And.intro ?_ ?_)))⟩; simp only [renV, renL]; (first | done | rfl | simp | grind)) | trace_state
end Go.Proofs.P

namespace Go.Proofs.P
open Go.As
set_option maxRecDepth 20000
set_option linter.unusedVariables false
set_option linter.unusedSimpArgs false

theorem sameZ (h' : H) (av bv : V) (h1 : av = .nils) (h2 : bv = .nils) : CallOk Try.prog 25 [plateV 0 av, plateV 0 bv] h' (.bool true) h' := by
  subst h1 h2
  exact samePlate_ok h' 0 0 [] [] .nils .nils (by simp) (.nil rfl rfl) (.nil rfl rfl)

set_option maxHeartbeats 8000000 in
theorem plateForms_ok (h : H) (n : Int) (D : List Int) (hl : D.length ≤ 9223372036854775807) (dv : V) (hs : SlC h (iVs D) D.length dv) (n2 : Int) (E : List Int) (hl2 : E.length ≤ 9223372036854775807) (ev : V) (hs2 : SlC h (iVs E) E.length ev) (K : List Int) (hl3 : K.length ≤ 9223372036854775807) (kv : V) (hs3 : SlC h (iVs K) K.length kv) :
    CallOk Try.prog 7 [plateV n dv, plateV n2 ev, kv] h (.bool true) h := by
  by_cases hv : alE n D n2 E K = 0
  · unfold alE kdE at hv
    by_cases hc0 : ckP n D = 0
    · rw [if_pos hc0] at hv
      by_cases hc1 : ckP n2 E = 0
      · rw [if_pos hc1] at hv
        obtain ⟨k, rfl, hk, hD, hw⟩ := ck_valid hc0
        obtain ⟨k2, rfl, hk2, hE, hw2⟩ := ck_valid hc1
        have h1 : 1 * 1 ≤ k * k := Nat.mul_le_mul hk.1 hk.1
        have h2 : 1 * 1 ≤ k2 * k2 := Nat.mul_le_mul hk2.1 hk2.1
        have e1 : ∃ b o cap ex, dv = .sl b o D.length cap ex := by
          cases hs with
          | nil h0 => omega
          | sl => exact ⟨_, _, _, _, rfl⟩
        have e2 : ∃ b o cap ex, ev = .sl b o E.length cap ex := by
          cases hs2 with
          | nil h0 => omega
          | sl => exact ⟨_, _, _, _, rfl⟩
        obtain ⟨b1, o1, c1, x1, rfl⟩ := e1
        obtain ⟨b2, o2, c2, x2, rfl⟩ := e2
        exact formsMain h k k2 hk hk2 D E hD hE hw hw2 b1 o1 c1 x1 hs b2 o2 c2 x2 hs2 K (akE_cases hv) kv hs3
      · rw [if_neg hc1] at hv; exact absurd hv hc1
    · rw [if_neg hc0] at hv; exact absurd hv hc0
  · obtain ⟨v1, s1, q1, ca1, w1⟩ := hs.view 0
    obtain ⟨v2, s2, q2, ca2, w2⟩ := hs2.view 1
    obtain ⟨v3, s3, q3, ca3, w3⟩ := hs3.view 2
    have hB1 := @iVs_bare D
    have hB2 := @iVs_bare E
    have hB3 := @iVs_bare K
    have kG1 := fun h' dv hs => great_ok h' n D dv hs
    have kG2 := fun h' dv hs => great_ok h' n2 E dv hs
    have kA := fun h' dv ev kv a b c => alikeE_ok h' n D n2 E K hl hl2 hl3 hv dv ev kv a b c
    have kB := fun h' dv ev kv a b c => refAlikeE_ok h' n D n2 E K hl hl2 hl3 hv dv ev kv a b c
    refine CallOk.run Try.func7 rfl rfl (argsC := [plateV n s1, plateV n2 s2, s3]) (Nat.le_of_ble_eq_true rfl) [v1, v2, v3] (.cons (CaL.agg (.cons (.bare rfl) (.cons (ca1 _ rfl) .nil))) (.cons (CaL.agg (.cons (.bare rfl) (.cons (ca2 _ rfl) .nil))) (.cons (ca3 _ rfl) .nil))) (viewMc3 hB1 w1 hB2 w2 hB3 w3) rfl (WpR.of_vc ?_)
    by_cases hkd : kdE n D K = 0
    · have hal : alE n D n2 E K ≠ 0 := hv
      unfold kdE at hkd
      by_cases hc0 : ckP n D = 0
      · rw [if_pos hc0] at hkd
        have hk := akE_cases hkd
        obtain ⟨Kn, hK⟩ := kd_of hk
        obtain ⟨k, rfl, hkk, hD, hw⟩ := ck_valid hc0
        have hN : 1 ≤ D.length ∧ D.length ≤ 64 := by
          rw [hD]
          have h1 : 1 * 1 ≤ k * k := Nat.mul_le_mul hkk.1 hkk.1
          have h2 : k * k ≤ 8 * 8 := Nat.mul_le_mul hkk.2 hkk.2
          omega
        rw [decide_eq_false (by omega)] at kG1
        have kcl : K.length ≤ 8 := by have := hK.len; rw [hK.eq, List.length_map]; omega
        have kL := fun h' b cap ex hs' kv hkv => leastP_ok h' k hkk D hD hw b 0 cap ex hs' K Kn hK hk kv hkv
        have kM := fun h' b cap ex hs' kv hkv => refLeast_ok h' k hkk D hD hw b 0 cap ex hs' K Kn hK hk kv hkv
        have z := fun h' av bv g1 g2 => samePlate_ok h' k k (movL k (lst k (reachB Kn) D 8) D) (movL k (lst k (reachB Kn) D 8) D) av bv (by rw [movL_len]; omega) g1 g2
        rw [decide_eq_true rfl, decide_eq_true rfl, movL_len] at z
        generalize alE (k : Int) D n2 E K = e at *
        generalize movL k (lst k (reachB Kn) D 8) D = X at *
        generalize lst k (reachB Kn) D 8 = L at *
        have wL : ∀ {Z : List Nat} {Q : V → H → Prop} (h' : H) (b cap : Nat) (ex : Bool) (hs' : SlC h' (iVs D) D.length (.sl b 0 D.length cap ex)) (kv : V) (hkv : SlC h' (iVs K) K.length kv), (addNP h' (fun _ => [.cells (ofL (iVs X) 0) true none]) fun N h' => Q (.tup [plateV k (.sl N 0 D.length D.length true), .int .i64 L, .int .i64 0]) h') → CallW Try.prog Z 43 [plateV k (.sl b 0 D.length cap ex), kv] h' Q := fun h' b cap ex hs' kv hkv hQ => CallW.of_new (vC := fun N => .tup [plateV k (.sl N 0 D.length D.length true), .int .i64 L, .int .i64 0]) (news := fun _ => [.cells (ofL (iVs X) 0) true none]) (kL h' b cap ex hs' kv hkv) hQ
        have wM : ∀ {Z : List Nat} {Q : V → H → Prop} (h' : H) (b cap : Nat) (ex : Bool) (hs' : SlC h' (iVs D) D.length (.sl b 0 D.length cap ex)) (kv : V) (hkv : SlC h' (iVs K) K.length kv), (addNP h' (fun _ => [.cells (ofL (iVs X) 0) true (some (1, D.length))]) fun N h' => Q (.tup [plateV k (.sl N 0 D.length D.length false), .int .i64 L, .int .i64 0]) h') → CallW Try.prog Z 44 [plateV k (.sl b 0 D.length cap ex), kv] h' Q := fun h' b cap ex hs' kv hkv hQ => CallW.of_new (vC := fun N => .tup [plateV k (.sl N 0 D.length D.length false), .int .i64 L, .int .i64 0]) (news := fun _ => [.cells (ofL (iVs X) 0) true (some (1, D.length))]) (kM h' b cap ex hs' kv hkv) hQ
        cases q1 with
        | nil h0 => exfalso; omega
        | @sl cap ex =>
          by_cases hg2 : 80 < E.length
          · rw [decide_eq_true hg2] at kG2
            cases q2 <;> cases q3
            all_goals
              (conv => whnf); (repeat' (first | ((with_reducible refine ifb_mk (fun hc => ?_) (fun hc => ?_)) <;> ((try simp only [decide_eq_true_eq, decide_eq_false_iff_not, Bool.not_eq_true', Bool.not_eq_false', Int.not_lt, Int.not_le, ne_eq, Decidable.not_not, beq_iff_eq, List.cons.injEq, and_true] at hc); (first | (exfalso; omega) | conv => whnf))) | ((with_reducible refine And.intro True.intro ?_); conv => whnf) | ((with_reducible refine CallX.all ?_); refine CallW.of_ok (kG1 _ _ (by first | exact SlC.own rfl | exact iNil (by omega))) ?_; conv => whnf) | ((with_reducible refine CallX.all ?_); refine CallW.of_ok (kG2 _ _ (by first | exact SlC.own rfl | exact iNil (by omega))) ?_; conv => whnf) | ((with_reducible refine CallX.all ?_); refine CallW.of_ok (works_any _) ?_; conv => whnf) | ((with_reducible refine And.intro ?hh ?_); (case hh => (unfold InR; (try dsimp only); omega)); conv => whnf) | ((with_reducible refine And.intro ?hh ?_); (case hh => ((try dsimp only); omega)); conv => whnf) | ((with_reducible refine And.intro ?hh ?_); (case hh => ((conv => whnf); (repeat' (first | exact True.intro | rfl | refine And.intro ?_ ?_)); done)); conv => whnf) | fail))
              (refine ⟨[], ?_, rfl, rfl, trivial, (by (repeat' (first | exact True.intro | rfl | refine And.intro ?_ ?_)))⟩; simp only [renV, renL]; (first | done | rfl | simp | grind))
          · rw [decide_eq_false hg2] at kG2
            cases q2 <;> cases q3
            all_goals
              (conv => whnf); (repeat' (first | ((with_reducible refine ifb_mk (fun hc => ?_) (fun hc => ?_)) <;> ((try simp only [decide_eq_true_eq, decide_eq_false_iff_not, Bool.not_eq_true', Bool.not_eq_false', Int.not_lt, Int.not_le, ne_eq, Decidable.not_not, beq_iff_eq, List.cons.injEq, and_true] at hc); (first | (exfalso; omega) | conv => whnf))) | ((with_reducible refine And.intro True.intro ?_); conv => whnf) | ((with_reducible refine CallX.all ?_); refine CallW.of_ok (kG1 _ _ (by first | exact SlC.own rfl | exact iNil (by omega))) ?_; conv => whnf) | ((with_reducible refine CallX.all ?_); refine CallW.of_ok (kG2 _ _ (by first | exact SlC.own rfl | exact iNil (by omega))) ?_; conv => whnf) | ((with_reducible refine CallX.all ?_); refine wL _ _ _ _ (SlC.own rfl) _ (by first | exact SlC.own rfl | exact iNil (by omega)) ?_; conv => whnf) | ((with_reducible refine CallX.all ?_); refine wM _ _ _ _ (SlC.own rfl) _ (by first | exact SlC.own rfl | exact iNil (by omega)) ?_; conv => whnf) | ((with_reducible refine CallX.all ?_); refine CallW.of_ok (kA _ _ _ _ (by first | exact SlC.own rfl | exact iNil (by omega)) (by first | exact SlC.own rfl | exact iNil (by omega)) (by first | exact SlC.own rfl | exact iNil (by omega))) ?_; conv => whnf) | ((with_reducible refine CallX.all ?_); refine CallW.of_ok (kB _ _ _ _ (by first | exact SlC.own rfl | exact iNil (by omega)) (by first | exact SlC.own rfl | exact iNil (by omega)) (by first | exact SlC.own rfl | exact iNil (by omega))) ?_; conv => whnf) | ((with_reducible refine CallX.all ?_); refine CallW.of_ok (z _ _ _ (SlC.own rfl) (SlC.own rfl)) ?_; conv => whnf) | ((with_reducible refine CallX.all ?_); refine CallW.of_ok (works_any _) ?_; conv => whnf) | ((with_reducible refine And.intro ?hh ?_); (case hh => (unfold InR; (try dsimp only); omega)); conv => whnf) | ((with_reducible refine And.intro ?hh ?_); (case hh => ((try dsimp only); omega)); conv => whnf) | ((with_reducible refine And.intro ?hh ?_); (case hh => ((conv => whnf); (repeat' (first | exact True.intro | rfl | refine And.intro ?_ ?_)); done)); conv => whnf) | fail))
              all_goals first | (exfalso; omega) | exact absurd trivial (by assumption) | (refine ⟨[], ?_, rfl, rfl, trivial, (by (repeat' (first | exact True.intro | rfl | refine And.intro ?_ ?_)))⟩; simp only [renV, renL]; (first | done | rfl | simp | grind)) | trace_state
      · rw [if_neg hc0] at hkd; exact absurd hkd hc0
    · have kL := fun h' dv kv a b => leastE_ok h' n D K hl hl3 hkd dv kv a b
      have kM := fun h' dv kv a b => refLeastE_ok h' n D K hl hl3 hkd dv kv a b
      generalize alE n D n2 E K = e at *
      generalize kdE n D K = e2 at *
      by_cases hg : 80 < D.length ∨ 80 < E.length ∨ 20 < K.length
      · obtain ⟨g1, hg1⟩ : ∃ b, decide (80 < D.length) = b := ⟨_, rfl⟩
        obtain ⟨g2, hg2⟩ : ∃ b, decide (80 < E.length) = b := ⟨_, rfl⟩
        rw [hg1] at kG1
        rw [hg2] at kG2
        cases g1 <;> cases g2
        all_goals
          simp only [decide_eq_true_eq, decide_eq_false_iff_not] at hg1 hg2
          cases q1 <;> cases q2 <;> cases q3
          all_goals
            (conv => whnf); (repeat' (first | ((with_reducible refine ifb_mk (fun hc => ?_) (fun hc => ?_)) <;> ((try simp only [decide_eq_true_eq, decide_eq_false_iff_not, Bool.not_eq_true', Bool.not_eq_false', Int.not_lt, Int.not_le, ne_eq, Decidable.not_not, beq_iff_eq, List.cons.injEq, and_true] at hc); (first | (exfalso; omega) | conv => whnf))) | ((with_reducible refine And.intro True.intro ?_); conv => whnf) | ((with_reducible refine CallX.all ?_); refine CallW.of_ok (kG1 _ _ (by first | exact SlC.own rfl | exact iNil (by omega))) ?_; conv => whnf) | ((with_reducible refine CallX.all ?_); refine CallW.of_ok (kG2 _ _ (by first | exact SlC.own rfl | exact iNil (by omega))) ?_; conv => whnf) | ((with_reducible refine CallX.all ?_); refine CallW.of_ok (works_any _) ?_; conv => whnf) | ((with_reducible refine And.intro ?hh ?_); (case hh => (unfold InR; (try dsimp only); omega)); conv => whnf) | ((with_reducible refine And.intro ?hh ?_); (case hh => ((try dsimp only); omega)); conv => whnf) | ((with_reducible refine And.intro ?hh ?_); (case hh => ((conv => whnf); (repeat' (first | exact True.intro | rfl | refine And.intro ?_ ?_)); done)); conv => whnf) | fail))
            all_goals first | (refine ⟨[], ?_, rfl, rfl, trivial, (by (repeat' (first | exact True.intro | rfl | refine And.intro ?_ ?_)))⟩; simp only [renV, renL]; (first | done | rfl | simp | grind)) | (exfalso; omega) | trace_state
      · rw [decide_eq_false (by omega)] at kG1
        rw [decide_eq_false (by omega)] at kG2
        cases q1 <;> cases q2 <;> cases q3
        all_goals
          (conv => whnf); (repeat' (first | ((with_reducible refine ifb_mk (fun hc => ?_) (fun hc => ?_)) <;> ((try simp only [decide_eq_true_eq, decide_eq_false_iff_not, Bool.not_eq_true', Bool.not_eq_false', Int.not_lt, Int.not_le, ne_eq, Decidable.not_not, beq_iff_eq, List.cons.injEq, and_true] at hc); (first | (exfalso; omega) | conv => whnf))) | ((with_reducible refine And.intro True.intro ?_); conv => whnf) | ((with_reducible refine CallX.all ?_); refine CallW.of_ok (kG1 _ _ (by first | exact SlC.own rfl | exact iNil (by omega))) ?_; conv => whnf) | ((with_reducible refine CallX.all ?_); refine CallW.of_ok (kG2 _ _ (by first | exact SlC.own rfl | exact iNil (by omega))) ?_; conv => whnf) | ((with_reducible refine CallX.all ?_); refine CallW.of_ok (kL _ _ _ (by first | exact SlC.own rfl | exact iNil (by omega)) (by first | exact SlC.own rfl | exact iNil (by omega))) ?_; conv => whnf) | ((with_reducible refine CallX.all ?_); refine CallW.of_ok (kM _ _ _ (by first | exact SlC.own rfl | exact iNil (by omega)) (by first | exact SlC.own rfl | exact iNil (by omega))) ?_; conv => whnf) | ((with_reducible refine CallX.all ?_); refine CallW.of_ok (kA _ _ _ _ (by first | exact SlC.own rfl | exact iNil (by omega)) (by first | exact SlC.own rfl | exact iNil (by omega)) (by first | exact SlC.own rfl | exact iNil (by omega))) ?_; conv => whnf) | ((with_reducible refine CallX.all ?_); refine CallW.of_ok (kB _ _ _ _ (by first | exact SlC.own rfl | exact iNil (by omega)) (by first | exact SlC.own rfl | exact iNil (by omega)) (by first | exact SlC.own rfl | exact iNil (by omega))) ?_; conv => whnf) | ((with_reducible refine CallX.all ?_); refine CallW.of_ok (sameZ _ _ _ rfl rfl) ?_; conv => whnf) | ((with_reducible refine CallX.all ?_); refine CallW.of_ok (works_any _) ?_; conv => whnf) | ((with_reducible refine And.intro ?hh ?_); (case hh => (unfold InR; (try dsimp only); omega)); conv => whnf) | ((with_reducible refine And.intro ?hh ?_); (case hh => ((try dsimp only); omega)); conv => whnf) | ((with_reducible refine And.intro ?hh ?_); (case hh => ((conv => whnf); (repeat' (first | exact True.intro | rfl | refine And.intro ?_ ?_)); done)); conv => whnf) | fail))
          all_goals first | (exfalso; omega) | exact absurd trivial (by assumption) | (refine ⟨[], ?_, rfl, rfl, trivial, (by (repeat' (first | exact True.intro | rfl | refine And.intro ?_ ?_)))⟩; simp only [renV, renL]; (first | done | rfl | simp | grind)) | trace_state
end Go.Proofs.P
