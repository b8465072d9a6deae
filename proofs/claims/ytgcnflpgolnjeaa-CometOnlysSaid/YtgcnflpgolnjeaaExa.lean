/- What the functions answer that the laws call, one after another (Exa). -/
import Derived.Test.YtgcnflpgolnjeaaAs6
import Derived.Test.YtgcnflpgolnjeaaThr
import Derived.Test.YtgcnflpgolnjeaaLst
import Derived.Test.YtgcnflpgolnjeaaKnd
set_option linter.unusedVariables false
set_option linter.unusedSimpArgs false
namespace Go.Proofs.K
open Go.As
set_option maxRecDepth 20000
theorem throughP_yes (h : As.H) (D : Nat) (ex ex2 : Bool) (n : Nat) (a b : Nat → Int) (hv : ckL D n a b = 0) (k : Nat) (hk : k = D + 1) (sx : Nat → Int) (hi : incB n k sx = true) (h4 : cnF (selB k sx) n ≤ 4) (hW : alW (cnF (selB k sx) n) (slF (selB k sx) a n) (slF (selB k sx) b n) = true) :
    CallOk Try.prog 23 [lgV D ex n a b, .rsl ex2 1 k (iG sx)] h (.tup [.rsl false 1 (D + 1) (iG (thP (cnF (selB k sx) n) (slF (selB k sx) a n) (slF (selB k sx) b n))), .int .i64 0]) h := by
  obtain ⟨hD, l⟩ := ckL_lg hv
  have hn := l.le
  have kS : ∀ (h' : As.H) (s : Nat), s = h'.n + 0 → CallOk Try.prog 59 [lgV D ex n a b] h' (.tup [.ptr s 0, .int .i64 0]) (addBs h' [shB D (.rsl ex 2 n (lkG a b)) fun _ => false]) := fun h' s e => by subst e; exact sheetFor_new h' D ex n a b (by omega) hv
  have kI := fun (h' : As.H) (hs : h'.get 2 = some (shB D (.rsl ex 2 n (lkG a b)) fun _ => false)) => increasing_ok h' 2 D ex ex2 n hn a b _ hs k (by omega) sx
  rw [hi] at kI
  have kT := fun (h' : As.H) (hs : h'.get 2 = some (shB D (.rsl ex 2 n (lkG a b)) fun _ => false)) (hq : h'.get 1 = some (.cells (ofL [.rsl ex2 1 k (iG sx)] 0) true none)) => throughC_ok h' 2 1 k (by omega) sx ex2 D ex n a b l h4 _ hs hq
  rw [hW] at kT
  generalize thP (cnF (selB k sx) n) (slF (selB k sx) a n) (slF (selB k sx) b n) = T at *
  have kP := fun h' => path_ok h' T (D + 1) (by omega) (D : Int) (by omega)
  refine CallOk.run0 Try.func23 rfl rfl rfl rfl rfl (WpR.of_vc ?_)
  (conv => whnf); (repeat' (first | ((with_reducible refine ifb_mk (fun hc => ?_) (fun hc => ?_)) <;> ((try simp only [decide_eq_true_eq, decide_eq_false_iff_not, Bool.not_eq_true', Bool.not_eq_false', Int.not_lt, Int.not_le, ne_eq, Decidable.not_not, beq_iff_eq, List.cons.injEq, and_true] at hc); (first | (exfalso; omega) | exact absurd True.intro hc | conv => whnf))) | ((with_reducible refine And.intro True.intro ?_); conv => whnf) | ((with_reducible refine CallX.all ?_); refine CallW.of_ok (kS _ 2 (by rfl)) ?_; conv => whnf) | ((with_reducible refine CallX.all ?_); refine CallW.of_ok (kI _ rfl) ?_; conv => whnf) | ((with_reducible refine WpR.draw (id := 4) mixed [0, 1, 2, 3, 4, 5, 6, 7, 8] [0, 1, 0, 4, 12, 28, 60, 124, 255] ?hh ?_); (case hh => kernel_rfl); conv => whnf) | ((with_reducible refine WpR.draw (id := 11) mixed [0, 1, 2, 3, 4, 5, 6, 7, 8] [0, 0, 2, 6, 14, 30, 63, 127, 255] ?hh ?_); (case hh => kernel_rfl); conv => whnf) | ((with_reducible refine CallX.all ?_); refine CallW.of_ok (kT _ rfl rfl) ?_; conv => whnf) | ((with_reducible refine CallX.all ?_); refine CallW.of_ok (kP _) ?_; conv => whnf) | ((with_reducible refine grd_ex ?_); refine ex_ok (kP _) ?_; conv => whnf) | ((with_reducible refine And.intro ?hh ?_); (case hh => exact condA); conv => whnf) | fail))
  all_goals first | (refine ⟨[], ?_, rfl, rfl, trivial, trivs⟩; simp only [renV, renL]; (first | done | rfl | (simp; done) | (simp; omega) | grind)) | (exfalso; omega)
theorem throughP_no (h : As.H) (D : Nat) (ex ex2 : Bool) (n : Nat) (a b : Nat → Int) (hv : ckL D n a b = 0) (k : Nat) (hk : k = D + 1) (sx : Nat → Int) (hi : incB n k sx = true) (h4 : cnF (selB k sx) n ≤ 4) (hW : alW (cnF (selB k sx) n) (slF (selB k sx) a n) (slF (selB k sx) b n) = false) :
    CallOk Try.prog 23 [lgV D ex n a b, .rsl ex2 1 k (iG sx)] h (.tup [.nils, .int .i64 23]) h := by
  obtain ⟨hD, l⟩ := ckL_lg hv
  have hn := l.le
  have kS : ∀ (h' : As.H) (s : Nat), s = h'.n + 0 → CallOk Try.prog 59 [lgV D ex n a b] h' (.tup [.ptr s 0, .int .i64 0]) (addBs h' [shB D (.rsl ex 2 n (lkG a b)) fun _ => false]) := fun h' s e => by subst e; exact sheetFor_new h' D ex n a b (by omega) hv
  have kI := fun (h' : As.H) (hs : h'.get 2 = some (shB D (.rsl ex 2 n (lkG a b)) fun _ => false)) => increasing_ok h' 2 D ex ex2 n hn a b _ hs k (by omega) sx
  rw [hi] at kI
  have kT := fun (h' : As.H) (hs : h'.get 2 = some (shB D (.rsl ex 2 n (lkG a b)) fun _ => false)) (hq : h'.get 1 = some (.cells (ofL [.rsl ex2 1 k (iG sx)] 0) true none)) => throughC_ok h' 2 1 k (by omega) sx ex2 D ex n a b l h4 _ hs hq
  rw [hW] at kT
  generalize thP (cnF (selB k sx) n) (slF (selB k sx) a n) (slF (selB k sx) b n) = T at *
  refine CallOk.run0 Try.func23 rfl rfl rfl rfl rfl (WpR.of_vc ?_)
  (conv => whnf); (repeat' (first | ((with_reducible refine ifb_mk (fun hc => ?_) (fun hc => ?_)) <;> ((try simp only [decide_eq_true_eq, decide_eq_false_iff_not, Bool.not_eq_true', Bool.not_eq_false', Int.not_lt, Int.not_le, ne_eq, Decidable.not_not, beq_iff_eq, List.cons.injEq, and_true] at hc); (first | (exfalso; omega) | exact absurd True.intro hc | conv => whnf))) | ((with_reducible refine And.intro True.intro ?_); conv => whnf) | ((with_reducible refine CallX.all ?_); refine CallW.of_ok (kS _ 2 (by rfl)) ?_; conv => whnf) | ((with_reducible refine CallX.all ?_); refine CallW.of_ok (kI _ rfl) ?_; conv => whnf) | ((with_reducible refine WpR.draw (id := 4) mixed [0, 1, 2, 3, 4, 5, 6, 7, 8] [0, 1, 0, 4, 12, 28, 60, 124, 255] ?hh ?_); (case hh => kernel_rfl); conv => whnf) | ((with_reducible refine WpR.draw (id := 11) mixed [0, 1, 2, 3, 4, 5, 6, 7, 8] [0, 0, 2, 6, 14, 30, 63, 127, 255] ?hh ?_); (case hh => kernel_rfl); conv => whnf) | ((with_reducible refine CallX.all ?_); refine CallW.of_ok (kT _ rfl rfl) ?_; conv => whnf) | ((with_reducible refine And.intro ?hh ?_); (case hh => exact condA); conv => whnf) | fail))
  all_goals first | (refine ⟨[], ?_, rfl, rfl, trivial, trivs⟩; simp only [renV, renL]; (first | done | rfl | (simp; done) | (simp; omega) | grind)) | (exfalso; omega)
end Go.Proofs.K
namespace Go.Proofs.K
open Go.As
set_option maxRecDepth 20000
def gL (l : List Int) (i : Nat) : Int := l.getD i 0
def sa : Nat → Int := gL [0, 1, 2, 3, 5]
def sb : Nat → Int := gL [1, 3, 5, 8, 11]
def ba : Nat → Int := gL [0, 1, 2, 3, 4]
def bb : Nat → Int := gL [1, 2, 4, 7, 12]
def ha : Nat → Int := gL [0, 2]
def hb : Nat → Int := gL [0, 1]
noncomputable def lnB (n : Nat) (a b : Nat → Int) : Blk := .cells (ofL (arrV (n * 2) (rmF a b)) 0) true none
theorem lnB_bare {n : Nat} {a b : Nat → Int} : ∀ v ∈ arrV (n * 2) (rmF a b), bare0 v = true := arrV_bare fun _ => rfl
theorem ln_fz {n0 i n : Nat} {a b : Nat → Int} {ex : Bool} {news : List Blk} (hn : news[i]? = some (lnB n a b)) (s : Nat) (hs : s = n0 + i) : Fz n0 news (.sl s 0 n n ex) (.rsl false 2 n (lkG a b)) :=
  .sl (i := i) hs hn (fun h => by cases h) (Nat.le_refl _) (fun j _ => rfl) (fun j hj k v hv => by
    match k with
    | 0 =>
      have e : V.int .i64 (a j) = v := by simpa [lkG] using hv
      subst e
      refine ⟨?_, rfl⟩
      rw [arrV_get (w := j * 2) (by omega) (by omega)]
      unfold rmF
      rw [if_pos (by omega), show j * 2 / 2 = j from by omega]
    | 1 =>
      have e : V.int .i64 (b j) = v := by simpa [lkG] using hv
      subst e
      refine ⟨?_, rfl⟩
      rw [arrV_get (w := j * 2 + 1) (by omega) (by omega)]
      unfold rmF
      rw [if_neg (by omega), show (j * 2 + 1) / 2 = j from by omega]
    | k + 2 => simp [lkG] at hv)
set_option maxHeartbeats 4000000 in
theorem straight_new (h : As.H) : CallOk Try.prog 49 [] h (.agg [.int .i64 1, .sl (h.n + 0) 0 5 5 false]) (addBs h [lnB 5 sa sb]) := by
  refine CallOk.runN Try.func49 rfl rfl (argsC := []) (fun N => .agg [.int .i64 1, .sl (N + 0) 0 5 5 false]) (fun _ => [lnB 5 sa sb]) (Nat.le_of_ble_eq_true rfl) [] .nil (viewM0 h) (ShV.agg (.cons (.bare rfl) (.cons (.sl (i := 0) (Nat.le_of_ble_eq_true rfl) rfl rfl) .nil))) rfl (fun i b hi => ?_) (WpR.of_vc ?_)
  · match i, hi with
    | 0, hi => cases hi; exact ⟨_, rfl, rfl, .bare (ofL_bare lnB_bare)⟩
    | i + 1, hi => simp at hi
  · (conv => whnf); (repeat' (first | ((with_reducible refine ifb_mk (fun hc => ?_) (fun hc => ?_)) <;> ((try simp only [decide_eq_true_eq, decide_eq_false_iff_not, Bool.not_eq_true', Bool.not_eq_false', Int.not_lt, Int.not_le, ne_eq, Decidable.not_not, beq_iff_eq, List.cons.injEq, and_true] at hc); (first | (exfalso; omega) | exact absurd True.intro hc | conv => whnf))) | ((with_reducible refine And.intro True.intro ?_); conv => whnf) | ((with_reducible refine CallX.all (f := 54) ?_); refine CallW.inline Try.func54 rfl rfl (Nat.le_of_ble_eq_true rfl) (WpR.of_vc ?_); conv => whnf) | ((with_reducible refine WpR.loopU 6 ?_); conv => whnf) | (refine AppX.nil (n := 1) Nat.zero_lt_one (Nat.le_of_ble_eq_true rfl) ?_; conv => whnf) | (refine AppX.own (n := 1) rfl rfl rfl Nat.zero_lt_one (Nat.le_of_ble_eq_true rfl) ?_; conv => whnf) | ((with_reducible refine WpR.draw (id := 5) mixed [0, 1, 2, 3, 4, 5, 6, 7, 8, 9, 10, 11, 12, 13, 14, 15] [0, 1, 0, 0, 12, 28, 0, 0, 128, 448, 960, 2044, 4092, 8191, 16383, 32767] ?hh ?_); (case hh => kernel_rfl); conv => whnf) | ((with_reducible refine And.intro ?hh ?_); (case hh => exact condA); conv => whnf) | fail))
    all_goals first | (exfalso; omega) | exact ⟨[_], rfl, rfl, rfl, ⟨⟨_, rfl, rfl, SubQ.fin (by (conv => whnf); (repeat' (first | exact True.intro | rfl | refine And.intro ?_ ?_)); done) (fun h => h) (.inl rfl)⟩, ltB_ofLb lnB_bare, rfl, trivial⟩, trivs⟩
theorem straight_ok (h : As.H) : CallOk Try.prog 49 [] h (lgV 1 false 5 sa sb) h :=
  CallOk.freeze (straight_new h) (FzL.agg (.cons (.same rfl) (.cons (ln_fz (i := 0) rfl _ rfl) .nil))) (fun b hb => by rw [List.mem_singleton.1 hb]; rfl)
set_option maxHeartbeats 4000000 in
theorem bent_new (h : As.H) : CallOk Try.prog 50 [] h (.agg [.int .i64 2, .sl (h.n + 0) 0 5 5 false]) (addBs h [lnB 5 ba bb]) := by
  refine CallOk.runN Try.func50 rfl rfl (argsC := []) (fun N => .agg [.int .i64 2, .sl (N + 0) 0 5 5 false]) (fun _ => [lnB 5 ba bb]) (Nat.le_of_ble_eq_true rfl) [] .nil (viewM0 h) (ShV.agg (.cons (.bare rfl) (.cons (.sl (i := 0) (Nat.le_of_ble_eq_true rfl) rfl rfl) .nil))) rfl (fun i b hi => ?_) (WpR.of_vc ?_)
  · match i, hi with
    | 0, hi => cases hi; exact ⟨_, rfl, rfl, .bare (ofL_bare lnB_bare)⟩
    | i + 1, hi => simp at hi
  · (conv => whnf); (repeat' (first | ((with_reducible refine ifb_mk (fun hc => ?_) (fun hc => ?_)) <;> ((try simp only [decide_eq_true_eq, decide_eq_false_iff_not, Bool.not_eq_true', Bool.not_eq_false', Int.not_lt, Int.not_le, ne_eq, Decidable.not_not, beq_iff_eq, List.cons.injEq, and_true] at hc); (first | (exfalso; omega) | exact absurd True.intro hc | conv => whnf))) | ((with_reducible refine And.intro True.intro ?_); conv => whnf) | ((with_reducible refine CallX.all (f := 54) ?_); refine CallW.inline Try.func54 rfl rfl (Nat.le_of_ble_eq_true rfl) (WpR.of_vc ?_); conv => whnf) | ((with_reducible refine WpR.loopU 6 ?_); conv => whnf) | (refine AppX.nil (n := 1) Nat.zero_lt_one (Nat.le_of_ble_eq_true rfl) ?_; conv => whnf) | (refine AppX.own (n := 1) rfl rfl rfl Nat.zero_lt_one (Nat.le_of_ble_eq_true rfl) ?_; conv => whnf) | ((with_reducible refine WpR.draw (id := 5) mixed [0, 1, 2, 3, 4, 5, 6, 7, 8, 9, 10, 11, 12, 13, 14, 15] [0, 1, 0, 0, 12, 28, 0, 0, 128, 448, 960, 2044, 4092, 8191, 16383, 32767] ?hh ?_); (case hh => kernel_rfl); conv => whnf) | ((with_reducible refine And.intro ?hh ?_); (case hh => exact condA); conv => whnf) | fail))
    all_goals first | (exfalso; omega) | exact ⟨[_], rfl, rfl, rfl, ⟨⟨_, rfl, rfl, SubQ.fin (by (conv => whnf); (repeat' (first | exact True.intro | rfl | refine And.intro ?_ ?_)); done) (fun h => h) (.inl rfl)⟩, ltB_ofLb lnB_bare, rfl, trivial⟩, trivs⟩
theorem bent_ok (h : As.H) : CallOk Try.prog 50 [] h (lgV 2 false 5 ba bb) h :=
  CallOk.freeze (bent_new h) (FzL.agg (.cons (.same rfl) (.cons (ln_fz (i := 0) rfl _ rfl) .nil))) (fun b hb => by rw [List.mem_singleton.1 hb]; rfl)
set_option maxHeartbeats 4000000 in
theorem half_new (h : As.H) : CallOk Try.prog 53 [] h (.agg [.int .i64 1, .sl (h.n + 0) 0 2 2 false]) (addBs h [lnB 2 ha hb]) := by
  refine CallOk.runN Try.func53 rfl rfl (argsC := []) (fun N => .agg [.int .i64 1, .sl (N + 0) 0 2 2 false]) (fun _ => [lnB 2 ha hb]) (Nat.le_of_ble_eq_true rfl) [] .nil (viewM0 h) (ShV.agg (.cons (.bare rfl) (.cons (.sl (i := 0) (Nat.le_of_ble_eq_true rfl) rfl rfl) .nil))) rfl (fun i b hi => ?_) (WpR.of_vc ?_)
  · match i, hi with
    | 0, hi => cases hi; exact ⟨_, rfl, rfl, .bare (ofL_bare lnB_bare)⟩
    | i + 1, hi => simp at hi
  · (conv => whnf); (repeat' (first | ((with_reducible refine ifb_mk (fun hc => ?_) (fun hc => ?_)) <;> ((try simp only [decide_eq_true_eq, decide_eq_false_iff_not, Bool.not_eq_true', Bool.not_eq_false', Int.not_lt, Int.not_le, ne_eq, Decidable.not_not, beq_iff_eq, List.cons.injEq, and_true] at hc); (first | (exfalso; omega) | exact absurd True.intro hc | conv => whnf))) | ((with_reducible refine And.intro True.intro ?_); conv => whnf) | ((with_reducible refine CallX.all (f := 54) ?_); refine CallW.inline Try.func54 rfl rfl (Nat.le_of_ble_eq_true rfl) (WpR.of_vc ?_); conv => whnf) | ((with_reducible refine WpR.loopU 6 ?_); conv => whnf) | (refine AppX.nil (n := 1) Nat.zero_lt_one (Nat.le_of_ble_eq_true rfl) ?_; conv => whnf) | (refine AppX.own (n := 1) rfl rfl rfl Nat.zero_lt_one (Nat.le_of_ble_eq_true rfl) ?_; conv => whnf) | ((with_reducible refine WpR.draw (id := 5) mixed [0, 1, 2, 3, 4, 5, 6, 7, 8, 9, 10, 11, 12, 13, 14, 15] [0, 1, 0, 0, 12, 28, 0, 0, 128, 448, 960, 2044, 4092, 8191, 16383, 32767] ?hh ?_); (case hh => kernel_rfl); conv => whnf) | ((with_reducible refine And.intro ?hh ?_); (case hh => exact condA); conv => whnf) | fail))
    all_goals first | (exfalso; omega) | exact ⟨[_], rfl, rfl, rfl, ⟨⟨_, rfl, rfl, SubQ.fin (by (conv => whnf); (repeat' (first | exact True.intro | rfl | refine And.intro ?_ ?_)); done) (fun h => h) (.inl rfl)⟩, ltB_ofLb lnB_bare, rfl, trivial⟩, trivs⟩
theorem half_ok (h : As.H) : CallOk Try.prog 53 [] h (lgV 1 false 2 ha hb) h :=
  CallOk.freeze (half_new h) (FzL.agg (.cons (.same rfl) (.cons (ln_fz (i := 0) rfl _ rfl) .nil))) (fun b h9 => by rw [List.mem_singleton.1 h9]; rfl)
end Go.Proofs.K
namespace Go.Proofs.K
open Go.As
set_option maxRecDepth 20000
def eqB (n : Nat) (a : Nat → Int) (m : Nat) (b : Nat → Int) : Bool := decide (n = m) && allF n fun i => decide (a i = b i)
theorem eqB_t {n m : Nat} {a b : Nat → Int} (h : n = m) (h2 : ∀ i, i < n → a i = b i) : eqB n a m b = true := by unfold eqB; rw [decide_eq_true h, allF_t fun i hi => decide_eq_true (h2 i hi)]; rfl
set_option maxHeartbeats 2000000 in
theorem longs_ok (h : As.H) (e1 e2 : Bool) (n m : Nat) (a b : Nat → Int) (hn : n ≤ 9223372036854775807) (hm : m ≤ 9223372036854775807) : CallOk Try.prog 21 [.rsl e1 1 n (iG a), .rsl e2 1 m (iG b)] h (.bool (eqB n a m b)) h := by
  refine CallOk.run0 Try.func21 rfl rfl rfl rfl rfl (WpR.of_vc ?_)
  by_cases he : n = m
  · subst he
    (conv => whnf); (repeat' (first | ((with_reducible refine ifb_mk (fun hc => ?_) (fun hc => ?_)) <;> ((try simp only [decide_eq_true_eq, decide_eq_false_iff_not, Bool.not_eq_true', Bool.not_eq_false', Int.not_lt, Int.not_le, ne_eq, Decidable.not_not, beq_iff_eq, List.cons.injEq, and_true] at hc); (first | (exfalso; omega) | exact absurd True.intro hc | conv => whnf))) | ((with_reducible refine And.intro True.intro ?_); conv => whnf) | ((with_reducible refine And.intro ?hh ?_); (case hh => exact condA); conv => whnf) | fail))
    all_goals try (exfalso; omega)
    refine WpR.loopA (ι := Nat) [] [0, 1] [] [] 0 (fun i => [(5, .int .i64 i)]) (fun _ => []) (fun i => n - i) (fun i => i ≤ n ∧ ∀ j, j < i → decide (a j = b j) = true) ?_ (0) (⟨Nat.zero_le _, fun j hj => by omega⟩) [] Back.auto
    rintro i ⟨hi, hQ⟩
    refine WpR.of_vc ?_
    by_cases hil : i < n
    · cases ht : decide (a i = b i) with
      | true =>
        have ht' : a i = b i := of_decide_eq_true ht
        (conv => whnf); (repeat' (first | ((with_reducible refine ifb_mk (fun hc => ?_) (fun hc => ?_)) <;> ((try simp only [decide_eq_true_eq, decide_eq_false_iff_not, Bool.not_eq_true', Bool.not_eq_false', Int.not_lt, Int.not_le, ne_eq, Decidable.not_not, beq_iff_eq, List.cons.injEq, and_true] at hc); (first | (exfalso; omega) | exact absurd True.intro hc | conv => whnf))) | ((with_reducible refine And.intro True.intro ?_); conv => whnf) | ((with_reducible refine grd_and ?_); refine And.intro (hil) ?_; conv => whnf) | ((with_reducible refine WpR.draw (id := 6) mixed [0, 1, 2, 3, 4, 5, 6, 7, 8] [0, 0, 3, 7, 0, 0, 48, 112, 255] ?hh ?_); (case hh => kernel_rfl); conv => whnf) | ((with_reducible refine And.intro ?hh ?_); (case hh => exact condA); conv => whnf) | fail))
        all_goals first | (exfalso; omega) | exact ⟨i + 1, [], by omega, ⟨by omega, below_succ hQ ht⟩, Back.auto⟩
      | false =>
        have ht' : ¬ a i = b i := of_decide_eq_false ht
        have e : eqB n a n b = false := by unfold eqB; rw [allF_f (p := fun i => decide (a i = b i)) hil ht, Bool.and_false]
        rw [e]
        (conv => whnf); (repeat' (first | ((with_reducible refine ifb_mk (fun hc => ?_) (fun hc => ?_)) <;> ((try simp only [decide_eq_true_eq, decide_eq_false_iff_not, Bool.not_eq_true', Bool.not_eq_false', Int.not_lt, Int.not_le, ne_eq, Decidable.not_not, beq_iff_eq, List.cons.injEq, and_true] at hc); (first | (exfalso; omega) | exact absurd True.intro hc | conv => whnf))) | ((with_reducible refine And.intro True.intro ?_); conv => whnf) | ((with_reducible refine grd_and ?_); refine And.intro (hil) ?_; conv => whnf) | ((with_reducible refine WpR.draw (id := 6) mixed [0, 1, 2, 3, 4, 5, 6, 7, 8] [0, 0, 3, 7, 0, 0, 48, 112, 255] ?hh ?_); (case hh => kernel_rfl); conv => whnf) | ((with_reducible refine And.intro ?hh ?_); (case hh => exact condA); conv => whnf) | fail))
        all_goals first | (refine ⟨[], ?_, rfl, rfl, trivial, trivs⟩; simp only [renV, renL]; (first | done | rfl | (simp; done) | (simp; omega) | grind)) | (exfalso; omega)
    · rw [eqB_t rfl fun j hj => of_decide_eq_true (hQ j (by omega))]
      (conv => whnf); (repeat' (first | ((with_reducible refine ifb_mk (fun hc => ?_) (fun hc => ?_)) <;> ((try simp only [decide_eq_true_eq, decide_eq_false_iff_not, Bool.not_eq_true', Bool.not_eq_false', Int.not_lt, Int.not_le, ne_eq, Decidable.not_not, beq_iff_eq, List.cons.injEq, and_true] at hc); (first | (exfalso; omega) | exact absurd True.intro hc | conv => whnf))) | ((with_reducible refine And.intro True.intro ?_); conv => whnf) | ((with_reducible refine grd_and ?_); refine And.intro (hil) ?_; conv => whnf) | ((with_reducible refine WpR.draw (id := 6) mixed [0, 1, 2, 3, 4, 5, 6, 7, 8] [0, 0, 3, 7, 0, 0, 48, 112, 255] ?hh ?_); (case hh => kernel_rfl); conv => whnf) | ((with_reducible refine And.intro ?hh ?_); (case hh => exact condA); conv => whnf) | fail))
      (refine ⟨[], ?_, rfl, rfl, trivial, trivs⟩; simp only [renV, renL]; (first | done | rfl | (simp; done) | (simp; omega) | grind))
  · have e : eqB n a m b = false := by unfold eqB; rw [decide_eq_false he]; rfl
    rw [e]
    (conv => whnf); (repeat' (first | ((with_reducible refine ifb_mk (fun hc => ?_) (fun hc => ?_)) <;> ((try simp only [decide_eq_true_eq, decide_eq_false_iff_not, Bool.not_eq_true', Bool.not_eq_false', Int.not_lt, Int.not_le, ne_eq, Decidable.not_not, beq_iff_eq, List.cons.injEq, and_true] at hc); (first | (exfalso; omega) | exact absurd True.intro hc | conv => whnf))) | ((with_reducible refine And.intro True.intro ?_); conv => whnf) | ((with_reducible refine And.intro ?hh ?_); (case hh => exact condA); conv => whnf) | fail))
    all_goals first | (refine ⟨[], ?_, rfl, rfl, trivial, trivs⟩; simp only [renV, renL]; (first | done | rfl | (simp; done) | (simp; omega) | grind)) | (exfalso; omega)
theorem sL : ckL 1 5 sa sb = 0 := by decide +kernel
theorem bL : ckL 2 5 ba bb = 0 := by decide +kernel
theorem hL : ckL 1 2 ha hb = 0 := by decide +kernel
theorem bM : mpS 2 5 ba bb (2 ^ 5) ≠ [] ∧ mxC (cnC 5 ba bb) (prQ (mpS 2 5 ba bb (2 ^ 5))) = 4 := by decide +kernel
theorem hM : mpS 1 2 ha hb (2 ^ 2) = [] := by decide +kernel
theorem sM : mpS 1 5 sa sb (2 ^ 5) ≠ [] ∧ (bstL (cnC 5 sa sb) (prQ (mpS 1 5 sa sb (2 ^ 5)))).length = 1 ∧ mxC (cnC 5 sa sb) (prQ (mpS 1 5 sa sb (2 ^ 5))) = 4 := by decide +kernel
theorem sK : wrN sa sb 3 (bstL (cnC 5 sa sb) (prQ (mpS 1 5 sa sb (2 ^ 5)))) = 1 ∧ wrN sa sb 0 (bstL (cnC 5 sa sb) (prQ (mpS 1 5 sa sb (2 ^ 5)))) = 0 := by decide +kernel
theorem bP : lvG 2 5 ba bb 1 7 = true ∧ (∀ g, g < 7 → lvG 2 5 ba bb 1 g = false) ∧ ∀ k, k < 3 → crG 5 ba bb 7 k = 1 := by decide +kernel
theorem sO : lvG 1 5 sa sb 1 3 = true ∧ (∀ g, g < 3 → lvG 1 5 sa sb 1 g = false) ∧ crG 5 sa sb 3 0 = 1 ∧ crG 5 sa sb 3 1 = 2 := by decide +kernel
theorem sO0 : ∀ g, g < 2 ^ 5 → lvG 1 5 sa sb 0 g = false := by decide +kernel
end Go.Proofs.K
namespace Go.Proofs.K
open Go.As
set_option maxRecDepth 20000
theorem th_own {h : As.H} {q : Nat → Prop} {b n cap : Nat} {ex : Bool} {L : List Int} {gg : Option (Nat × Nat)} (hq : q b) (hn : n = L.length) (hcap : n ≤ cap) (hb : h.get b = some (.cells (ofL (iVs L) 0) true gg)) : Th h q (.rsl false 1 n (iG (gL L))) (.sl b 0 n cap ex) := by
  refine .sl hq hb (fun h => by cases h) hcap (fun j hj => rfl) fun j hj k v hv => ?_
  match k with
  | 0 =>
    have e : V.int .i64 (gL L j) = v := by simpa [iG] using hv
    subst e
    refine ⟨?_, rfl⟩
    have hj' : j < L.length := by omega
    rw [show 0 + j * 1 + 0 = j from by omega]
    refine get_ofL0 ?_
    unfold iVs gL
    rw [List.getElem?_map, List.getElem?_eq_getElem hj', List.getD_eq_getElem?_getD, List.getElem?_eq_getElem hj']; rfl
  | k + 1 => simp [iG] at hv
theorem occ0 {m : M} {b o n cap : Nat} {ex : Bool} {l : List V} {xs : List Value} (hv : VRs m (.sl b o n cap ex :: l) xs) : m b ≠ none := by
  obtain ⟨x, a', rfl, h2, _⟩ := hv.uncons
  cases h2 with
  | sl hm _ => exact fun hc => by rw [hm] at hc; cases hc
  | sl0 hm => exact fun hc => by rw [hm] at hc; cases hc
theorem occ1 {m : M} {b o n cap : Nat} {ex : Bool} {u : V} {l : List V} {xs : List Value} (hv : VRs m (u :: .sl b o n cap ex :: l) xs) : m b ≠ none := by
  obtain ⟨x, a', rfl, _, h2⟩ := hv.uncons
  exact occ0 h2
section
variable {b n cap : Nat} {ex : Bool} {L : List Int} {gg : Option (Nat × Nat)}
theorem at_own (h : As.H) (d : Int) (hn : n = L.length) (hcap : n ≤ cap) (hn9 : n ≤ 1000) (hb : h.get b = some (.cells (ofL (iVs L) 0) true gg)) : CallOk Try.prog 17 [.sl b 0 n cap ex, .int .i64 d] h (.tup [.int .i64 (atP n (gL L) d), .int .i64 (ckC n (gL L) d)]) h :=
  CallOk.thaw (at_ok As.H.empty false n (gL L) d (by omega)) rfl h (.cons (th_own trivial hn hcap hb) (.cons (.same rfl) .nil))
theorem later_own (h : As.H) (d : Int) (hn : n = L.length) (hcap : n ≤ cap) (hn9 : n ≤ 1000) (hb : h.get b = some (.cells (ofL (iVs L) 0) true gg)) (hc : ckC n (gL L) d = 0) : CallOk Try.prog 19 [.sl b 0 n cap ex, .int .i64 d] h (.tup [.rsl false 1 n (iG (ltP n (gL L) d.toNat)), .int .i64 0]) (h.put b .dead) := by
  have k := laterP_ok As.H.empty false n (gL L) d (by omega)
  rw [if_pos hc, hc] at k
  exact CallOk.thawF k rfl h b hb (.cons (th_own rfl hn hcap hb) (.cons (.same rfl) .nil)) (fun m xs hv => occ0 hv)
theorem longs_own (h : As.H) (m : Nat) (z : Nat → Int) (hm : m ≤ 1000) (hn : n = L.length) (hcap : n ≤ cap) (hn9 : n ≤ 1000) (hb : h.get b = some (.cells (ofL (iVs L) 0) true gg)) (he : eqB m z n (gL L) = true) : CallOk Try.prog 21 [.rsl false 1 m (iG z), .sl b 0 n cap ex] h (.bool true) h := by
  have k := longs_ok As.H.empty false false m n z (gL L) (by omega) (by omega)
  rw [he] at k
  exact CallOk.thaw k rfl h (.cons (.same rfl) (.cons (th_own trivial hn hcap hb) .nil))
theorem of_own (h : As.H) (hcap : n ≤ cap) (hn : n = L.length) (hb : h.get b = some (.cells (ofL (iVs L) 0) true gg)) : CallOk Try.prog 52 [.sl b 0 n cap ex] h (.sl b 0 n cap ex) h := by
  have := CallOk.runN (h := h) (news := fun _ => []) (newsR := []) (vC := fun _ => .sl 0 0 n cap ex) (vR := .sl b 0 n cap ex) Try.func52 rfl rfl (argsC := [.sl 0 0 n cap ex]) (Nat.le_of_ble_eq_true rfl) [some (b, 0)] (args := [.sl b 0 n cap ex]) (.cons (.sl rfl) .nil) (one_view hb iVs_bare) (ShV.oldS (i := 0) (Nat.le_of_ble_eq_true rfl) rfl) rfl (fun i b hi => by simp at hi) (WpR.of_vc (by
    (conv => whnf); (repeat' (first | ((with_reducible refine ifb_mk (fun hc => ?_) (fun hc => ?_)) <;> ((try simp only [decide_eq_true_eq, decide_eq_false_iff_not, Bool.not_eq_true', Bool.not_eq_false', Int.not_lt, Int.not_le, ne_eq, Decidable.not_not, beq_iff_eq, List.cons.injEq, and_true] at hc); (first | (exfalso; omega) | exact absurd True.intro hc | conv => whnf))) | ((with_reducible refine And.intro True.intro ?_); conv => whnf) | ((with_reducible refine And.intro ?hh ?_); (case hh => exact condA); conv => whnf) | fail))
    exact ⟨[], rfl, rfl, rfl, trivial, trivs⟩))
  exact this
theorem longsF_own (h : As.H) (hcap : n ≤ cap) (hn : n = L.length) (hb : h.get b = some (.cells (ofL (iVs L) 0) true gg)) : CallOk Try.prog 51 [.sl b 0 n cap ex] h (.sl b 0 n cap ex) h := by
  have := CallOk.runN (h := h) (news := fun _ => []) (newsR := []) (vC := fun _ => .sl 0 0 n cap ex) (vR := .sl b 0 n cap ex) Try.func51 rfl rfl (argsC := [.sl 0 0 n cap ex]) (Nat.le_of_ble_eq_true rfl) [some (b, 0)] (args := [.sl b 0 n cap ex]) (.cons (.sl rfl) .nil) (one_view hb iVs_bare) (ShV.oldS (i := 0) (Nat.le_of_ble_eq_true rfl) rfl) rfl (fun i b hi => by simp at hi) (WpR.of_vc (by
    (conv => whnf); (repeat' (first | ((with_reducible refine ifb_mk (fun hc => ?_) (fun hc => ?_)) <;> ((try simp only [decide_eq_true_eq, decide_eq_false_iff_not, Bool.not_eq_true', Bool.not_eq_false', Int.not_lt, Int.not_le, ne_eq, Decidable.not_not, beq_iff_eq, List.cons.injEq, and_true] at hc); (first | (exfalso; omega) | exact absurd True.intro hc | conv => whnf))) | ((with_reducible refine And.intro True.intro ?_); conv => whnf) | ((with_reducible refine And.intro ?hh ?_); (case hh => exact condA); conv => whnf) | fail))
    exact ⟨[], rfl, rfl, rfl, trivial, trivs⟩))
  exact this
end
end Go.Proofs.K
