/- What the functions answer that the laws call, one after another (Lst). -/
import Derived.Test.YtjkgnkhbbnmgbaaAs6
import Derived.Test.YtjkgnkhbbnmgbaaRch

set_option linter.unusedVariables false
namespace Go.Proofs.P
open Go.As
set_option maxRecDepth 20000
set_option linter.unusedVariables false
set_option linter.unusedSimpArgs false

set_option maxHeartbeats 8000000 in
theorem leastP_ok (h : H) (n : Nat) (hn : 1 ≤ n ∧ n ≤ 8) (D : List Int) (hD : D.length = n * n) (hw : wi 0 3 D = true) (b o cap : Nat) (ex : Bool) (hs : SlC h (iVs D) D.length (.sl b o D.length cap ex)) (K : List Int) (Kn : List Nat) (hK : Kd K Kn) (hk : akB (-1) K = true) (kv : V) (hkv : SlC h (iVs K) K.length kv) :
    CallOk Try.prog 43 [plateV n (.sl b o D.length cap ex), kv] h (.tup [plateV n (.sl h.n 0 D.length D.length true), .int .i64 (lst n (reachB Kn) D 8 : Nat), .int .i64 0]) (addBs h [.cells (ofL (iVs (movL n (lst n (reachB Kn) D 8) D)) 0) true none]) := by
  obtain ⟨vo, svC, hsv, hca, hvw⟩ := hs.view 0
  obtain ⟨v2, s2, q2, ca2, w2⟩ := hkv.view 1
  have hN : 1 ≤ D.length ∧ D.length ≤ 64 := by
    rw [hD]
    have h1 : 1 * 1 ≤ n * n := Nat.mul_le_mul hn.1 hn.1
    have h2 : n * n ≤ 8 * 8 := Nat.mul_le_mul hn.2 hn.2
    omega
  obtain ⟨cap', ex', rfl⟩ : ∃ cap ex, svC = .sl 0 0 D.length cap ex := by
    cases hsv with
    | nil h0 => omega
    | sl => exact ⟨_, _, rfl⟩
  have hB := @iVs_bare D
  have hB2 := @iVs_bare K
  have hlr := reachB_len hK hk
  have hg := reach_grp hK hk
  have kR := fun h' kv hs' => reachedFor_ok h' K Kn hK hk kv hs'
  have kcl : K.length ≤ 8 := by have := hK.len; rw [hK.eq, List.length_map]; omega
  generalize reachB Kn = B at *
  obtain ⟨b0, b1, b2, b3, b4, b5, b6, b7, rfl⟩ := ex8 hlr
  have hL8 : lst n [b0, b1, b2, b3, b4, b5, b6, b7] D 8 < 8 := lst_lt _ _ _ 8 (by decide)
  have kL : ∀ i, lst n [b0, b1, b2, b3, b4, b5, b6, b7] D (i + 1) = if [b0, b1, b2, b3, b4, b5, b6, b7].getD i false = true ∧ lexC (movL n i D) (movL n (lst n [b0, b1, b2, b3, b4, b5, b6, b7] D i) D) < 0 then i else lst n [b0, b1, b2, b3, b4, b5, b6, b7] D i := fun i => rfl
  have kLt := lst_lt n [b0, b1, b2, b3, b4, b5, b6, b7] D
  have kL0 : lst n [b0, b1, b2, b3, b4, b5, b6, b7] D 0 = 0 := rfl
  generalize lst n [b0, b1, b2, b3, b4, b5, b6, b7] D = F at *
  obtain ⟨m8, hm8⟩ : ∃ m, F 8 = m := ⟨_, rfl⟩
  rw [hm8] at hL8 ⊢
  refine CallOk.runN Try.func43 rfl rfl (argsC := [plateV n (.sl 0 0 D.length cap' ex'), s2]) (fun N => .tup [plateV n (.sl N 0 D.length D.length true), .int .i64 (m8 : Nat), .int .i64 0]) (fun _ => [.cells (ofL (iVs (movL n m8 D)) 0) true none]) (Nat.le_of_ble_eq_true rfl) [vo, v2] (.cons (CaL.agg (.cons (.bare rfl) (.cons (hca _ rfl) .nil))) (.cons (ca2 _ rfl) .nil)) (viewMc2 hB hvw hB2 w2)
    (ShV.tup (.cons (ShV.agg (.cons (.bare rfl) (.cons (.sl (i := 0) (Nat.le_of_ble_eq_true rfl) rfl rfl) .nil))) (.cons (.bare rfl) (.cons (.bare rfl) .nil)))) rfl
    (fun i b hi => by
      match i with
      | 0 => simp at hi; subst hi; exact ⟨_, rfl, rfl, .bare (ofL_bare iVs_bare)⟩
      | i + 1 => simp at hi)
    (WpR.of_vc ?_)
  cases q2
  all_goals
    (conv => whnf); (repeat' (first | ((with_reducible refine ifb_mk (fun hc => ?_) (fun hc => ?_)) <;> ((try simp only [decide_eq_true_eq, decide_eq_false_iff_not, Bool.not_eq_true', Bool.not_eq_false', Int.not_lt, Int.not_le, ne_eq, Decidable.not_not, beq_iff_eq, List.cons.injEq, and_true] at hc); (first | (exfalso; omega) | conv => whnf))) | ((with_reducible refine And.intro True.intro ?_); conv => whnf) | ((with_reducible refine CallX.all ?_); refine tableFor_new _ n hn D hD hw 0 0 cap' ex' (SlC.own rfl) ?_; conv => whnf) | ((with_reducible refine CallX.all ?_); refine CallW.of_ok (kR _ _ (by first | exact SlC.own rfl | exact iNil (by omega))) ?_; conv => whnf) | ((with_reducible refine WpR.draw (id := 7) mixed [0, 1, 3, 4, 2, 5, 6, 7, 8, 9, 10] [0, 1, 3, 0, 8, 31, 63, 127, 127, 255, 1023] ?hh ?_); (case hh => kernel_rfl); conv => whnf) | ((with_reducible refine grd_ex ?_); refine ex_new (vC := fun N => .fn 101 [] [.ptr N 0]) (news := fun _ => [.cells (ofL [hasV [b0, b1, b2, b3, b4, b5, b6, b7]] 0) true none]) (those_ok _ b0 b1 b2 b3 b4 b5 b6 b7) ?_; conv => whnf) | ((with_reducible refine grd_ex ?_); refine ex_ok (v := .tup [.int .i64 (m8 : Nat), .bool true]) (CallOk.of_same (CallW.inline (f := 87) Try.func87 rfl rfl (Nat.le_of_ble_eq_true rfl) (WpR.of_vc ?_)) rfl) ?_; conv => whnf) | ((with_reducible refine RangeX.all ?_); conv => whnf) | ((with_reducible refine CallW.inline (f := 101) Try.func101 rfl rfl (Nat.le_of_ble_eq_true rfl) (WpR.of_vc ?_)); conv => whnf) | ((with_reducible refine And.intro ?hh ?_); (case hh => (unfold InR; (try dsimp only); omega)); conv => whnf) | ((with_reducible refine And.intro ?hh ?_); (case hh => ((try dsimp only); omega)); conv => whnf) | ((with_reducible refine And.intro ?hh ?_); (case hh => ((conv => whnf); (repeat' (first | exact True.intro | rfl | refine And.intro ?_ ?_)); done)); conv => whnf) | fail))
    · have hMap : ∀ i : Nat, ltB 13 (.cells (ofL [.int .i64 (F i : Nat)] 0) true none) := fun i => ltB_ofL (fun v hv => by rw [List.mem_singleton] at hv; subst hv; rfl)
      have hMap2 : ∀ i : Nat, ltB 13 (.cells (ofL [.bool (decide (0 < i))] 0) true none) := fun i => ltB_ofL (fun v hv => by rw [List.mem_singleton] at hv; subst hv; rfl)
      have hMm : ltB 13 (.map (esP n D (nzL D)) D.length) := ltB_esP
      have hq1 : SubQ (rho []) (.cells (ofL [.int .i64 (F 0 : Nat)] 0) true none) (.cells (ofL [.int .i64 0] 0) true none) := by rw [kL0]; exact SubQ.ofL rfl (fun v hv => by rw [List.mem_singleton] at hv; subst hv; rfl) (.inl rfl)
      have hbi0 : ∀ (i : Nat), ∀ v ∈ [V.int .i64 (F i : Nat)], bare0 v = true := fun i v hv => by rw [List.mem_singleton] at hv; subst hv; rfl
      have hbb : ∀ (b : Bool), ∀ v ∈ [V.bool b], bare0 v = true := fun i v hv => by rw [List.mem_singleton] at hv; subst hv; rfl
      refine WpR.loopD (ι := Nat) [] [0, 1] [9, 10] [] 13 (fun i => [(4, .int .i64 i)]) (fun i => [(9, .cells (ofL [.int .i64 (F i : Nat)] 0) true none), (10, .cells (ofL [.bool (decide (0 < i))] 0) true none)]) (fun i => 8 - i) (fun i => i ≤ 8) ?_ (0) (Nat.zero_le _) [] ⟨rfl, rfl, (by (repeat' (first | exact True.intro | rfl | refine And.intro ?_ ?_))), (by (repeat' (first | exact True.intro | rfl | refine And.intro ?_ ?_))), (by (repeat' (first | exact True.intro | rfl | refine And.intro ?_ ?_))), ⟨.inr ⟨_, rfl, hq1⟩, ⟨.inr ⟨_, rfl, SubQ.ofL rfl (hbb _) (.inl rfl)⟩, trivial⟩⟩, rfl, rfl⟩ rfl rfl rfl (fun _ => rfl) (by (repeat' (first | exact True.intro | refine And.intro ?_ ?_ | exact avV_nil _ | rfl))) (by (repeat' (first | exact True.intro | (with_reducible exact avB_nil _) | ((with_reducible refine avB_all ?_); rfl) | ((with_reducible refine avB_ofLb ?_); exact (by first | exact bare0_ints | assumption | exact bVs_bare | exact iVs_bare | exact mVs_bare | (intro v hv; (repeat (rcases List.mem_cons.1 hv with rfl | hv; exact rfl)); cases hv))) | ((with_reducible refine ltB_all ?_); rfl) | ((with_reducible refine ltB_ofLb ?_); exact (by first | exact bare0_ints | assumption | exact bVs_bare | exact iVs_bare | exact mVs_bare | (intro v hv; (repeat (rcases List.mem_cons.1 hv with rfl | hv; exact rfl)); cases hv))) | ((with_reducible refine ltB_loop ?_ ?_) <;> rfl) | (with_reducible exact hMap _) | (with_reducible exact hMap2 _) | (with_reducible exact ltB_encL) | (with_reducible exact ltB_map0) | ((with_reducible refine grB_lt ?_ _); exact (by first | exact bare0_ints | assumption | exact bVs_bare | exact iVs_bare | exact mVs_bare | (intro v hv; (repeat (rcases List.mem_cons.1 hv with rfl | hv; exact rfl)); cases hv))) | (with_reducible assumption) | refine And.intro ?_ ?_ | exact (by first | exact True.intro | exact ltB_all rfl | exact ltB_ofLb (by first | exact bare0_ints | assumption | exact bVs_bare | exact iVs_bare | exact mVs_bare | (intro v hv; (repeat (rcases List.mem_cons.1 hv with rfl | hv; exact rfl)); cases hv)) | exact ltB_loop rfl rfl | exact hMap _ | exact hMap2 _ | exact grB_lt (by first | exact bare0_ints | assumption | exact bVs_bare | exact iVs_bare | exact mVs_bare | (intro v hv; (repeat (rcases List.mem_cons.1 hv with rfl | hv; exact rfl)); cases hv)) _ | exact ltB_encL | exact ltB_map0 | assumption)))) (fun _ _ => (by (repeat' (first | exact True.intro | rfl | refine And.intro ?_ ?_ | exact (by decide) | exact (by first | exact True.intro | exact hMap _ | exact hMap2 _ | exact grB_lt (by first | exact bare0_ints | assumption | exact bVs_bare | exact iVs_bare | exact mVs_bare | (intro v hv; (repeat (rcases List.mem_cons.1 hv with rfl | hv; exact rfl)); cases hv)) _ | exact ltB_all rfl | exact ltB_ofLb (by first | exact bare0_ints | assumption | exact bVs_bare | exact iVs_bare | exact mVs_bare | (intro v hv; (repeat (rcases List.mem_cons.1 hv with rfl | hv; exact rfl)); cases hv)) | exact ltB_loop rfl rfl | exact ltB_encL | exact ltB_map0 | assumption))))) (fun _ _ => (by (repeat' (first | exact True.intro | rfl | refine And.intro ?_ ?_ | exact (by decide) | exact (by first | exact True.intro | exact hMap _ | exact hMap2 _ | exact grB_lt (by first | exact bare0_ints | assumption | exact bVs_bare | exact iVs_bare | exact mVs_bare | (intro v hv; (repeat (rcases List.mem_cons.1 hv with rfl | hv; exact rfl)); cases hv)) _ | exact ltB_all rfl | exact ltB_ofLb (by first | exact bare0_ints | assumption | exact bVs_bare | exact iVs_bare | exact mVs_bare | (intro v hv; (repeat (rcases List.mem_cons.1 hv with rfl | hv; exact rfl)); cases hv)) | exact ltB_loop rfl rfl | exact ltB_encL | exact ltB_map0 | assumption))))) (fun _ _ => (by (repeat' (first | exact True.intro | rfl | refine And.intro ?_ ?_)))) rfl
      rintro i i1
      refine WpR.of_vc ?_
      by_cases hi : i < 8
      · obtain ⟨bi, hbi⟩ : ∃ bi, [b0, b1, b2, b3, b4, b5, b6, b7][i]? = some bi := ⟨_, List.getElem?_eq_getElem hi⟩
        have kS := fun h' => has8_ok h' [b0, b1, b2, b3, b4, b5, b6, b7] rfl i bi hbi
        have kli := kL i
        rw [List.getD_eq_getElem?_getD, hbi] at kli
        have hFi := kLt i i1
        cases bi with
        | false =>
          have e : F (i + 1) = F i := by rw [kli]; exact if_neg (fun h => Bool.false_ne_true h.1)
          have hi0 : 0 < i := by
            refine Nat.pos_of_ne_zero fun h => ?_
            subst h
            have := hg.zero
            rw [List.getD_eq_getElem?_getD, hbi] at this
            cases this
          have e2 : decide (0 < i + 1) = decide (0 < i) := by rw [decide_eq_true hi0, decide_eq_true (by omega)]
          (conv => whnf); (repeat' (first | ((with_reducible refine ifb_mk (fun hc => ?_) (fun hc => ?_)) <;> ((try simp only [decide_eq_true_eq, decide_eq_false_iff_not, Bool.not_eq_true', Bool.not_eq_false', Int.not_lt, Int.not_le, ne_eq, Decidable.not_not, beq_iff_eq, List.cons.injEq, and_true] at hc); (first | (exfalso; omega) | conv => whnf))) | ((with_reducible refine And.intro True.intro ?_); conv => whnf) | ((with_reducible refine CallX.all ?_); refine CallW.of_ok (kS _) ?_; conv => whnf) | ((with_reducible refine And.intro ?hh ?_); (case hh => (unfold InR; (try dsimp only); omega)); conv => whnf) | ((with_reducible refine And.intro ?hh ?_); (case hh => ((try dsimp only); omega)); conv => whnf) | ((with_reducible refine And.intro ?hh ?_); (case hh => ((conv => whnf); (repeat' (first | exact True.intro | rfl | refine And.intro ?_ ?_)); done)); conv => whnf) | fail))
          exact ⟨i + 1, [], by omega, by omega, ⟨rfl, rfl, (by (repeat' (first | exact True.intro | rfl | refine And.intro ?_ ?_))), (by (repeat' (first | exact True.intro | rfl | refine And.intro ?_ ?_))), (by (repeat' (first | exact True.intro | rfl | refine And.intro ?_ ?_))), ⟨.inr ⟨_, rfl, SubQ.ofL (by rw [e]) (hbi0 _) (.inl rfl)⟩, ⟨.inr ⟨_, rfl, SubQ.ofL (by rw [e2]) (hbb _) (.inl rfl)⟩, trivial⟩⟩, rfl, rfl⟩⟩
        | true =>
          have kli2 : F (i + 1) = if lexC (movL n i D) (movL n (F i) D) < 0 then i else F i := by rw [kli]; simp
          rcases Nat.eq_zero_or_pos i with rfl | hi0
          · have e : F (0 + 1) = 0 := by rw [kli2, kL0]; simp
            (conv => whnf); (repeat' (first | ((with_reducible refine ifb_mk (fun hc => ?_) (fun hc => ?_)) <;> ((try simp only [decide_eq_true_eq, decide_eq_false_iff_not, Bool.not_eq_true', Bool.not_eq_false', Int.not_lt, Int.not_le, ne_eq, Decidable.not_not, beq_iff_eq, List.cons.injEq, and_true] at hc); (first | (exfalso; omega) | conv => whnf))) | ((with_reducible refine And.intro True.intro ?_); conv => whnf) | ((with_reducible refine CallX.all ?_); refine CallW.of_ok (kS _) ?_; conv => whnf) | ((with_reducible refine And.intro ?hh ?_); (case hh => (unfold InR; (try dsimp only); omega)); conv => whnf) | ((with_reducible refine And.intro ?hh ?_); (case hh => ((try dsimp only); omega)); conv => whnf) | ((with_reducible refine And.intro ?hh ?_); (case hh => ((conv => whnf); (repeat' (first | exact True.intro | rfl | refine And.intro ?_ ?_)); done)); conv => whnf) | fail))
            refine YldX.all ?_
            refine YldW.inline rfl rfl rfl (WpR.of_vc ?_)
            conv => whnf
            refine ⟨rfl, _, rfl, rfl, WpR.of_vc ?_⟩
            (conv => whnf); (repeat' (first | ((with_reducible refine ifb_mk (fun hc => ?_) (fun hc => ?_)) <;> ((try simp only [decide_eq_true_eq, decide_eq_false_iff_not, Bool.not_eq_true', Bool.not_eq_false', Int.not_lt, Int.not_le, ne_eq, Decidable.not_not, beq_iff_eq, List.cons.injEq, and_true] at hc); (first | (exfalso; omega) | conv => whnf))) | ((with_reducible refine And.intro True.intro ?_); conv => whnf) | ((with_reducible refine And.intro ?hh ?_); (case hh => (unfold InR; (try dsimp only); omega)); conv => whnf) | ((with_reducible refine And.intro ?hh ?_); (case hh => ((try dsimp only); omega)); conv => whnf) | ((with_reducible refine And.intro ?hh ?_); (case hh => ((conv => whnf); (repeat' (first | exact True.intro | rfl | refine And.intro ?_ ?_)); done)); conv => whnf) | fail))
            refine ⟨_, _, rfl, ?_⟩
            (conv => whnf); (repeat' (first | ((with_reducible refine ifb_mk (fun hc => ?_) (fun hc => ?_)) <;> ((try simp only [decide_eq_true_eq, decide_eq_false_iff_not, Bool.not_eq_true', Bool.not_eq_false', Int.not_lt, Int.not_le, ne_eq, Decidable.not_not, beq_iff_eq, List.cons.injEq, and_true] at hc); (first | (exfalso; omega) | conv => whnf))) | ((with_reducible refine And.intro True.intro ?_); conv => whnf) | ((with_reducible refine And.intro ?hh ?_); (case hh => (unfold InR; (try dsimp only); omega)); conv => whnf) | ((with_reducible refine And.intro ?hh ?_); (case hh => ((try dsimp only); omega)); conv => whnf) | ((with_reducible refine And.intro ?hh ?_); (case hh => ((conv => whnf); (repeat' (first | exact True.intro | rfl | refine And.intro ?_ ?_)); done)); conv => whnf) | fail))
            exact ⟨0 + 1, [], by omega, by omega, ⟨rfl, rfl, (by (repeat' (first | exact True.intro | rfl | refine And.intro ?_ ?_))), (by (repeat' (first | exact True.intro | rfl | refine And.intro ?_ ?_))), (by (repeat' (first | exact True.intro | rfl | refine And.intro ?_ ?_))), ⟨.inr ⟨_, rfl, by rw [e]; exact SubQ.fin (by (conv => whnf); (repeat' (first | exact True.intro | rfl | refine And.intro ?_ ?_)); done) (fun h => h) (.inl rfl)⟩, ⟨.inr ⟨_, rfl, by rw [decide_eq_true (show 0 < 0 + 1 by omega)]; exact SubQ.fin (by (conv => whnf); (repeat' (first | exact True.intro | rfl | refine And.intro ?_ ?_)); done) (fun h => h) (.inl rfl)⟩, trivial⟩⟩, rfl, rfl⟩⟩
          · have kC := fun h' hs' hj' => compareMoved_ok h' n i (F i) hn hi hFi D hD (iVs D) iVs_bare 0 0 cap' ex' hs' 4 hj'
            rw [decide_eq_true hi0]
            (conv => whnf); (repeat' (first | ((with_reducible refine ifb_mk (fun hc => ?_) (fun hc => ?_)) <;> ((try simp only [decide_eq_true_eq, decide_eq_false_iff_not, Bool.not_eq_true', Bool.not_eq_false', Int.not_lt, Int.not_le, ne_eq, Decidable.not_not, beq_iff_eq, List.cons.injEq, and_true] at hc); (first | (exfalso; omega) | conv => whnf))) | ((with_reducible refine And.intro True.intro ?_); conv => whnf) | ((with_reducible refine CallX.all ?_); refine CallW.of_ok (kS _) ?_; conv => whnf) | ((with_reducible refine And.intro ?hh ?_); (case hh => (unfold InR; (try dsimp only); omega)); conv => whnf) | ((with_reducible refine And.intro ?hh ?_); (case hh => ((try dsimp only); omega)); conv => whnf) | ((with_reducible refine And.intro ?hh ?_); (case hh => ((conv => whnf); (repeat' (first | exact True.intro | rfl | refine And.intro ?_ ?_)); done)); conv => whnf) | fail))
            refine YldX.all ?_
            refine YldW.inline rfl rfl rfl (WpR.of_vc ?_)
            conv => whnf
            refine ⟨rfl, _, rfl, rfl, WpR.of_vc ?_⟩
            (conv => whnf); (repeat' (first | ((with_reducible refine ifb_mk (fun hc => ?_) (fun hc => ?_)) <;> ((try simp only [decide_eq_true_eq, decide_eq_false_iff_not, Bool.not_eq_true', Bool.not_eq_false', Int.not_lt, Int.not_le, ne_eq, Decidable.not_not, beq_iff_eq, List.cons.injEq, and_true] at hc); (first | (exfalso; omega) | conv => whnf))) | ((with_reducible refine And.intro True.intro ?_); conv => whnf) | ((with_reducible refine CallX.all ?_); refine CallW.of_ok (kC _ (SlC.own rfl) rfl) ?_; conv => whnf) | ((with_reducible refine And.intro ?hh ?_); (case hh => (unfold InR; (try dsimp only); omega)); conv => whnf) | ((with_reducible refine And.intro ?hh ?_); (case hh => ((try dsimp only); omega)); conv => whnf) | ((with_reducible refine And.intro ?hh ?_); (case hh => ((conv => whnf); (repeat' (first | exact True.intro | rfl | refine And.intro ?_ ?_)); done)); conv => whnf) | fail))
            · rw [if_pos hc] at kli2
              refine ⟨_, _, rfl, ?_⟩
              (conv => whnf); (repeat' (first | ((with_reducible refine ifb_mk (fun hc => ?_) (fun hc => ?_)) <;> ((try simp only [decide_eq_true_eq, decide_eq_false_iff_not, Bool.not_eq_true', Bool.not_eq_false', Int.not_lt, Int.not_le, ne_eq, Decidable.not_not, beq_iff_eq, List.cons.injEq, and_true] at hc); (first | (exfalso; omega) | conv => whnf))) | ((with_reducible refine And.intro True.intro ?_); conv => whnf) | ((with_reducible refine And.intro ?hh ?_); (case hh => (unfold InR; (try dsimp only); omega)); conv => whnf) | ((with_reducible refine And.intro ?hh ?_); (case hh => ((try dsimp only); omega)); conv => whnf) | ((with_reducible refine And.intro ?hh ?_); (case hh => ((conv => whnf); (repeat' (first | exact True.intro | rfl | refine And.intro ?_ ?_)); done)); conv => whnf) | fail))
              exact ⟨i + 1, [], by omega, by omega, ⟨rfl, rfl, (by (repeat' (first | exact True.intro | rfl | refine And.intro ?_ ?_))), (by (repeat' (first | exact True.intro | rfl | refine And.intro ?_ ?_))), (by (repeat' (first | exact True.intro | rfl | refine And.intro ?_ ?_))), ⟨.inr ⟨_, rfl, by rw [kli2]; exact SubQ.fin (by (conv => whnf); (repeat' (first | exact True.intro | rfl | refine And.intro ?_ ?_)); done) (fun h => h) (.inl rfl)⟩, ⟨.inr ⟨_, rfl, by rw [decide_eq_true (show 0 < i + 1 by omega)]; exact SubQ.fin (by (conv => whnf); (repeat' (first | exact True.intro | rfl | refine And.intro ?_ ?_)); done) (fun h => h) (.inl rfl)⟩, trivial⟩⟩, rfl, rfl⟩⟩
            · rw [if_neg (by omega)] at kli2
              refine ⟨_, _, rfl, ?_⟩
              (conv => whnf); (repeat' (first | ((with_reducible refine ifb_mk (fun hc => ?_) (fun hc => ?_)) <;> ((try simp only [decide_eq_true_eq, decide_eq_false_iff_not, Bool.not_eq_true', Bool.not_eq_false', Int.not_lt, Int.not_le, ne_eq, Decidable.not_not, beq_iff_eq, List.cons.injEq, and_true] at hc); (first | (exfalso; omega) | conv => whnf))) | ((with_reducible refine And.intro True.intro ?_); conv => whnf) | ((with_reducible refine And.intro ?hh ?_); (case hh => (unfold InR; (try dsimp only); omega)); conv => whnf) | ((with_reducible refine And.intro ?hh ?_); (case hh => ((try dsimp only); omega)); conv => whnf) | ((with_reducible refine And.intro ?hh ?_); (case hh => ((conv => whnf); (repeat' (first | exact True.intro | rfl | refine And.intro ?_ ?_)); done)); conv => whnf) | fail))
              exact ⟨i + 1, [], by omega, by omega, ⟨rfl, rfl, (by (repeat' (first | exact True.intro | rfl | refine And.intro ?_ ?_))), (by (repeat' (first | exact True.intro | rfl | refine And.intro ?_ ?_))), (by (repeat' (first | exact True.intro | rfl | refine And.intro ?_ ?_))), ⟨.inr ⟨_, rfl, by rw [kli2]; exact SubQ.ofL rfl (hbi0 _) (.inl rfl)⟩, ⟨.inr ⟨_, rfl, by rw [decide_eq_true (show 0 < i + 1 by omega)]; exact SubQ.ofL rfl (hbb _) (.inl rfl)⟩, trivial⟩⟩, rfl, rfl⟩⟩
      · have e : i = 8 := by omega
        subst e
        rw [hm8]
        (conv => whnf); (repeat' (first | ((with_reducible refine ifb_mk (fun hc => ?_) (fun hc => ?_)) <;> ((try simp only [decide_eq_true_eq, decide_eq_false_iff_not, Bool.not_eq_true', Bool.not_eq_false', Int.not_lt, Int.not_le, ne_eq, Decidable.not_not, beq_iff_eq, List.cons.injEq, and_true] at hc); (first | (exfalso; omega) | conv => whnf))) | ((with_reducible refine And.intro True.intro ?_); conv => whnf) | ((with_reducible refine WpR.draw (id := 7) mixed [0, 1, 2, 3] [0, 0, 1, 7] ?hh ?_); (case hh => kernel_rfl); conv => whnf) | ((with_reducible refine And.intro ?hh ?_); (case hh => (unfold InR; (try dsimp only); omega)); conv => whnf) | ((with_reducible refine And.intro ?hh ?_); (case hh => ((try dsimp only); omega)); conv => whnf) | ((with_reducible refine And.intro ?hh ?_); (case hh => ((conv => whnf); (repeat' (first | exact True.intro | rfl | refine And.intro ?_ ?_)); done)); conv => whnf) | fail))
        all_goals first | exact True.intro | (repeat' (first | exact True.intro | rfl | refine And.intro ?_ ?_))
        all_goals trace_state
    · (conv => whnf); (repeat' (first | ((with_reducible refine ifb_mk (fun hc => ?_) (fun hc => ?_)) <;> ((try simp only [decide_eq_true_eq, decide_eq_false_iff_not, Bool.not_eq_true', Bool.not_eq_false', Int.not_lt, Int.not_le, ne_eq, Decidable.not_not, beq_iff_eq, List.cons.injEq, and_true] at hc); (first | (exfalso; omega) | conv => whnf))) | ((with_reducible refine And.intro True.intro ?_); conv => whnf) | ((with_reducible refine CallX.all ?_); refine moved_new _ n m8 hn hL8 D hD (iVs D) iVs_bare 0 0 cap' ex' 4 (SlC.own rfl) rfl ?_; conv => whnf) | ((with_reducible refine And.intro ?hh ?_); (case hh => (unfold InR; (try dsimp only); omega)); conv => whnf) | ((with_reducible refine And.intro ?hh ?_); (case hh => ((try dsimp only); omega)); conv => whnf) | ((with_reducible refine And.intro ?hh ?_); (case hh => ((conv => whnf); (repeat' (first | exact True.intro | rfl | refine And.intro ?_ ?_)); done)); conv => whnf) | fail))
      exact ⟨[8], rfl, rfl, rfl, ⟨⟨_, rfl, rfl, SubQ.ofL rfl iVs_bare (.inl rfl)⟩, ltB_ofLb iVs_bare, rfl, trivial⟩, (by (repeat' (first | exact True.intro | rfl | refine And.intro ?_ ?_)))⟩
    all_goals exact Bool.noConfusion (hc.symm.trans rfl)
end Go.Proofs.P
