/- What the functions answer that the laws call, one after another (Bk2). -/
import Derived.Test.YtmfohdhnpanfeaaAs6
import Derived.Test.YtmfohdhnpanfeaaBk1

set_option linter.unusedVariables false
namespace Go.Proofs.Q
open Go.As
set_option maxRecDepth 20000
set_option linter.unusedVariables false
set_option linter.unusedSimpArgs false

theorem tOf_nil (D : List (List UInt8)) (j : Nat) : tOf ([] :: D) j = tOf D j := by
  unfold tOf
  rw [List.reverse_cons, List.getD_eq_getElem?_getD, List.getD_eq_getElem?_getD]
  by_cases h : j < D.reverse.length
  · rw [List.getElem?_append_left h]
  · rw [List.getElem?_append_right (by omega), List.getElem?_eq_none (l := D.reverse) (by omega)]
    cases h2 : j - D.reverse.length with
    | zero => rfl
    | succ m => rfl
theorem tOf_set (d c : List UInt8) (ds : List (List UInt8)) (j : Nat) : tOf (c :: ds) j = if j = ds.length then c else tOf (d :: ds) j := by
  unfold tOf
  rw [List.reverse_cons, List.reverse_cons, List.getD_eq_getElem?_getD, List.getD_eq_getElem?_getD]
  have hl : ds.reverse.length = ds.length := List.length_reverse
  by_cases h : j < ds.length
  · rw [if_neg (by omega), List.getElem?_append_left (by omega), List.getElem?_append_left (by omega)]
  · rw [List.getElem?_append_right (by omega), List.getElem?_append_right (by omega), hl]
    by_cases he : j = ds.length
    · rw [if_pos he, he, Nat.sub_self]; rfl
    · rw [if_neg he]
      have h2 : j - ds.length = (j - ds.length - 1) + 1 := by omega
      rw [h2]; rfl
theorem tOf_at (d : List UInt8) (ds : List (List UInt8)) : tOf (d :: ds) ds.length = d := by
  have := tOf_set d d ds ds.length
  rwa [if_pos rfl] at this
theorem tOf_one (j : Nat) : tOf [[]] j = [] := by
  cases j with
  | zero => rfl
  | succ j => rfl
theorem rdF_mono {T : List UInt8} {st : Nat → Bool} {A : Nat → List UInt8} : ∀ {i j : Nat}, i ≤ j → (rdF T st A i).length ≤ (rdF T st A j).length
  | i, 0, h => by rw [show i = 0 from by omega]; exact Nat.le_refl _
  | i, j + 1, h => by
    by_cases he : i = j + 1
    · rw [he]; exact Nat.le_refl _
    · have := rdF_mono (T := T) (st := st) (A := A) (i := i) (j := j) (by omega)
      have e : rdF T st A (j + 1) = rdF T st A j ++ (if st j = true then [] else chr T j) ++ A (j + 1) := rfl
      rw [e, List.length_append, List.length_append]
      omega
set_option maxHeartbeats 8000000 in
theorem backR_new (h : H) (T : List UInt8) (n : Nat) (s : Nat → Int) (k : Nat) (A : Nat → List UInt8) (x1 x2 : Bool) (h1 : ckM T.length n s k A = 0)
    (l : List Int) (m : List (List UInt8)) (hlm : (l, m) = bAdds (bkF T (stF n s) A T.length) (A T.length).length) (N : Nat) (hN : N = (rdF T (stF n s) A T.length).length) (hN12 : N ≤ 12) :
    CallOk Try.prog 23 [tx T, marksV n s k A x1 x2] h (.tup [.agg [grV (h.n + 0) l.length, .sl (h.n + (gNew 1 eI l).length) 0 (N + 1) (N + 1) true], .int .i64 0]) (addBs h (gNew 1 eI l ++ [.cells (ofL (arT (N + 1) (tOf m)) 0) true none])) := by
  have k1 := fun h' => checkMarksR_ok h' T n s k A x1 x2 (by have := (ckM_n h1).1; omega) (by have := st_le (ckM_n h1).2.2.2; have := (ckM_n h1).1; omega) (by have := (ckM_n h1).1; have := (ckM_n h1).2.1; omega)
  rw [h1] at k1
  have k2 := fun h' => readOf_ok h' T n s k A x1 x2 h1
  have k3 := fun h' => checkTextR_ok h' (rdF T (stF n s) A T.length)
  rw [← hN, if_pos hN12] at k3
  obtain ⟨a1, a2, a3, a4⟩ := ckM_n h1
  have hn := st_le a4
  have kH := fun h' (i : Nat) => has_ok h' n s x1 i (by omega)
  have e1 : ∀ i : Nat, hasB n s i = stF n s i := fun i => rfl
  simp only [e1] at kH
  have ha : ∀ i, i < k → (A i).length ≤ 12 := fun i hi => of_decide_eq_true (allF_iff.1 a3 i hi)
  have hmk : ∀ i, i < k → (mkF T (stF n s) A i).length + (A i).length ≤ N := fun i hi => by
    have q1 := rdF_mono (T := T) (st := stF n s) (A := A) (i := i) (j := T.length) (by omega)
    rw [← mkF_rd, List.length_append, ← hN] at q1
    exact q1
  have hb := fun i (hi : i ≤ T.length) => bkF_len (T := T) (st := stF n s) (A := A) hi
  generalize stF n s = P at *
  have hb0 : bkF T P A 0 = ([], [[]]) := rfl
  have hbs : ∀ i, bkF T P A (i + 1) = if P i = true then bStr (bAdds (bkF T P A i) (A i).length) (chr T i) else bLeft (bAdds (bkF T P A i) (A i).length) := fun i => rfl
  generalize mkF T P A = M at *
  generalize bkF T P A = K at *
  generalize hR : rdF T P A T.length = R at *
  generalize n + lnF A T.length = cc at *
  clear h1 a3 a4 e1 hR
  refine CallOk.runN Try.func23 rfl rfl (argsC := [tx T, marksV n s k A x1 x2]) (fun Z => .tup [.agg [grV (Z + 0) l.length, .sl (Z + (gNew 1 eI l).length) 0 (N + 1) (N + 1) true], .int .i64 0]) (fun _ => gNew 1 eI l ++ [.cells (ofL (arT (N + 1) (tOf m)) 0) true none]) (Nat.le_of_ble_eq_true rfl) [] (.cons (.lt0 rfl) (.cons (.lt0 rfl) .nil)) (viewM0 h)
    (ShV.tup (.cons (ShV.agg (.cons (grSh _ _ _ 1 0 _ eI l (by simp)) (.cons (.sl (i := (gNew 1 eI l).length) (by simp) rfl rfl) .nil))) (.cons (.bare rfl) .nil))) rfl
    (fun i b hi => ?_) (WpR.of_vc ?_)
  · by_cases hlt : i < (gNew 1 eI l).length
    · rw [List.getElem?_append_left hlt] at hi
      exact ⟨b, by rw [List.getElem?_append_left hlt]; exact hi, grBs eI_bare hi⟩
    · rw [List.getElem?_append_right (by omega)] at hi
      refine ⟨b, by rw [List.getElem?_append_right (by omega)]; exact hi, ?_⟩
      match hh : i - (gNew 1 eI l).length with
      | 0 => rw [hh] at hi; have e := Option.some.inj hi; subst e; exact ⟨rfl, .bare (ofL_bare (arrV_bare fun _ => rfl))⟩
      | j + 1 => rw [hh] at hi; simp at hi
  subst hN
  (conv => whnf); (repeat' (first | ((with_reducible refine ifb_mk (fun hc => ?_) (fun hc => ?_)) <;> ((try simp only [decide_eq_true_eq, decide_eq_false_iff_not, Bool.not_eq_true', Bool.not_eq_false', Int.not_lt, Int.not_le, ne_eq, Decidable.not_not, beq_iff_eq, List.cons.injEq, and_true] at hc); (first | (exfalso; omega) | exact absurd True.intro hc | conv => whnf))) | ((with_reducible refine And.intro True.intro ?_); conv => whnf) | ((with_reducible refine CallX.all ?_); refine CallW.of_ok (k1 _) ?_; conv => whnf) | ((with_reducible refine CallX.all ?_); refine CallW.of_ok (k2 _) ?_; conv => whnf) | ((with_reducible refine CallX.all ?_); refine CallW.of_ok (k3 _) ?_; conv => whnf) | ((with_reducible refine And.intro ?hh ?_); (case hh => exact condA); conv => whnf) | fail))
  have hB3 : ∀ i j, ∀ n, Nat.blt 4 n = true → ltB n (.cells (ofL [grV 4 i, .sl 2 0 j j true] 0) true none) := fun i j n hn => ltB_ofL (by
    have h2 : Nat.blt 2 n = true := by rw [Nat.blt_eq] at hn ⊢; omega
    intro v hv
    rcases List.mem_cons.1 hv with rfl | hv
    · exact grV_lt hn _
    · rw [List.mem_singleton.1 hv]; exact h2)
  have hMap : ∀ i j, ltB 5 (.cells (ofL [grV 4 i, .sl 2 0 j j true] 0) true none) := fun i j => hB3 i j 5 rfl
  have hMapA : ∀ i j, ltB 1000 (.cells (ofL [grV 4 i, .sl 2 0 j j true] 0) true none) := fun i j => hB3 i j 1000 rfl
  have hMap2 : ∀ l : List Int, ltB 5 (grB 1 (gR eI l) l.length) := fun l => grB_lt (gI_bare l) _
  have hMapB : ∀ m f, ltB m (.cells (ofL (arT (R.length + 1) f) 0) true none) := fun m f => ltB_ofLb (arrV_bare fun _ => rfl)
  have hgs : ∀ (ρ : Nat → Nat) z, z = [tx []] → SubQ ρ (.cells (ofL (arT (R.length + 1) (tOf [[]])) 0) true none) (.cells (ofL (rep (R.length + 1) z) 0) true none) := fun ρ z hz => by
    rw [hz, arrV_rep]
    exact arrV_sub (fun _ => rfl) (.inl rfl) (fun c _ => by show tx _ = tx _; rw [tOf_one])
  refine WpR.loopA (ι := Nat × Int × BS) [4] [0, 3, 4, 5, 8] [2, 3, 4] [] 5 (fun p => [(10, .int .i64 p.1), (9, .int .i64 p.2.1)]) (fun p => [(2, .cells (ofL (arT (R.length + 1) (tOf p.2.2.2)) 0) true none), (3, .cells (ofL [grV 4 p.2.2.1.length, .sl 2 0 (R.length + 1) (R.length + 1) true] 0) true none), (4, grB 1 (gR eI p.2.2.1) p.2.2.1.length)]) (fun p => k - p.1) (fun p => p.1 < k ∧ p.2.1 = (p.2.2.2.length : Int) - 1 ∧ p.2.2 = K p.1) ?_ ((0, 0, ([], [[]]))) (⟨by omega, rfl, hb0.symm⟩) [] ⟨rfl, rfl, (by (repeat' (first | exact True.intro | rfl | exact gr_ren rfl | exact aV_ren rfl | exact aW_ren rfl rfl | refine And.intro ?_ ?_))), (by (repeat' (first | exact True.intro | rfl | exact gr_ren rfl | exact aV_ren rfl | exact aW_ren rfl rfl | refine And.intro ?_ ?_))), (by (repeat' (first | exact True.intro | rfl | exact gr_ren rfl | exact aV_ren rfl | exact aW_ren rfl rfl | refine And.intro ?_ ?_))), ⟨.inr ⟨_, rfl, hgs _ _ rfl⟩, .inr ⟨_, rfl, SubQ.same (n := 1000) (Y := []) (fun _ _ _ => rfl) (hMapA 0 _) (avB_nil _) rfl⟩, .inl rfl, trivial⟩, rfl, rfl⟩
  clear hgs
  rintro ⟨i, a, x⟩ ⟨j1, ja, j2⟩
  dsimp only at j1 ja j2
  refine WpR.of_vc ?_
  have hai := ha i j1
  obtain ⟨hb1, hb2, hb3⟩ := hb i (by omega)
  rw [← j2] at hb1 hb2 hb3
  have hmi := hmk i j1
  (conv => whnf); (repeat' (first | ((with_reducible refine ifb_mk (fun hc => ?_) (fun hc => ?_)) <;> ((try simp only [decide_eq_true_eq, decide_eq_false_iff_not, Bool.not_eq_true', Bool.not_eq_false', Int.not_lt, Int.not_le, ne_eq, Decidable.not_not, beq_iff_eq, List.cons.injEq, and_true] at hc); (first | (exfalso; omega) | exact absurd True.intro hc | conv => whnf))) | ((with_reducible refine And.intro True.intro ?_); conv => whnf) | ((with_reducible refine grd_and ?_); refine And.intro (j1) ?_; conv => whnf) | ((with_reducible refine And.intro ?hh ?_); (case hh => exact condA); conv => whnf) | fail))
  all_goals first | (exfalso; omega) | skip
  have hgs : ∀ ρ, SubQ ρ (.cells (ofL (arT (R.length + 1) (tOf x.2)) 0) true none) (.cells (ofL (arT (R.length + 1) (tOf x.2)) 0) true none) := fun ρ => arrV_sub (fun _ => rfl) (.inr rfl) (fun c _ => rfl)
  refine WpR.loopA (ι := Nat × Int × BS) [4] [0, 3, 4, 5, 8, 10] [2, 3, 4] [] 5 (fun p => [(11, .int .i64 p.1), (9, .int .i64 p.2.1)]) (fun p => [(2, .cells (ofL (arT (R.length + 1) (tOf p.2.2.2)) 0) true none), (3, .cells (ofL [grV 4 p.2.2.1.length, .sl 2 0 (R.length + 1) (R.length + 1) true] 0) true none), (4, grB 1 (gR eI p.2.2.1) p.2.2.1.length)]) (fun p => (A i).length - p.1) (fun p => p.1 ≤ (A i).length ∧ p.2.1 = (p.2.2.2.length : Int) - 1 ∧ p.2.2 = bAdds x p.1) ?_ ((0, a, x)) (⟨by omega, ja, rfl⟩) [] Back.auto
  clear hgs
  rintro ⟨j, b, y⟩ ⟨g1, ga, g2⟩
  dsimp only at g1 ga g2
  refine WpR.of_vc ?_
  obtain ⟨hl1, hl2⟩ := bAdds_len x j
  have hl3 := bAdds_mem x hb3 j
  rw [← g2] at hl1 hl2 hl3
  have hs : bAdds x (j + 1) = bAdd y := by show bAdd (bAdds x j) = _; rw [← g2]
  obtain ⟨S, D⟩ := y
  dsimp only at hl1 hl2 hl3 ga
  have hgs : ∀ ρ, SubQ ρ (.cells (ofL (arT (R.length + 1) (tOf ([] :: D))) 0) true none) (.cells (ofL (arT (R.length + 1) (tOf D)) 0) true none) := fun ρ => arrV_sub (fun _ => rfl) (.inr rfl) (fun c _ => by show tx _ = tx _; rw [tOf_nil])
  by_cases hj : j < (A i).length
  · (conv => whnf); (repeat' (first | ((with_reducible refine ifb_mk (fun hc => ?_) (fun hc => ?_)) <;> ((try simp only [decide_eq_true_eq, decide_eq_false_iff_not, Bool.not_eq_true', Bool.not_eq_false', Int.not_lt, Int.not_le, ne_eq, Decidable.not_not, beq_iff_eq, List.cons.injEq, and_true] at hc); (first | (exfalso; omega) | exact absurd True.intro hc | conv => whnf))) | ((with_reducible refine And.intro True.intro ?_); conv => whnf) | ((with_reducible refine grd_and ?_); refine And.intro (j1) ?_; conv => whnf) | ((with_reducible refine grd_and ?_); refine And.intro (hj) ?_; conv => whnf) | (refine AppX.gr (n := 1) (L := gR eI S) (len := S.length) rfl rfl (gI_len S) (gI_one S) Nat.zero_lt_one (by omega) ?_; conv => whnf) | ((with_reducible refine And.intro ?hh ?_); (case hh => exact condA); conv => whnf) | fail))
    all_goals first | (exfalso; omega) | skip
    refine ⟨(j + 1, b + 1, (b :: S, [] :: D)), [(4, 6)], by dsimp only; omega, ⟨by dsimp only; omega, by dsimp only; rw [ga, List.length_cons]; omega, ?_⟩, Back.auto⟩
    dsimp only
    rw [hs, ga]; rfl
  · have ej : j = (A i).length := by omega
    subst ej
    have hbi := hbs i
    rw [← j2, ← g2] at hbi
    have hci : ((T.drop i).take (i + 1 - i)).length ≤ 1 := chr_len T i
    by_cases hiT : i = T.length
    · have elm : l = S ∧ m = D := by
        rw [hiT] at j2 g2
        rw [← j2, ← g2] at hlm
        exact ⟨congrArg Prod.fst hlm, congrArg Prod.snd hlm⟩
      obtain ⟨rfl, rfl⟩ := elm
      have hB2 : ∀ ρ, SubQ ρ (.cells (ofL (arT (R.length + 1) (tOf m)) 0) true none) (.cells (ofL (arT (R.length + 1) (tOf m)) 0) true none) := fun ρ => arrV_sub (fun _ => rfl) (.inr rfl) (fun c _ => rfl)
      cases l with
      | nil =>
        (conv => whnf); (repeat' (first | ((with_reducible refine ifb_mk (fun hc => ?_) (fun hc => ?_)) <;> ((try simp only [decide_eq_true_eq, decide_eq_false_iff_not, Bool.not_eq_true', Bool.not_eq_false', Int.not_lt, Int.not_le, ne_eq, Decidable.not_not, beq_iff_eq, List.cons.injEq, and_true] at hc); (first | (exfalso; omega) | exact absurd True.intro hc | conv => whnf))) | ((with_reducible refine And.intro True.intro ?_); conv => whnf) | ((with_reducible refine grd_and ?_); refine And.intro (j1) ?_; conv => whnf) | ((with_reducible refine grd_and ?_); refine And.intro (hj) ?_; conv => whnf) | ((with_reducible refine And.intro ?hh ?_); (case hh => exact condA); conv => whnf) | fail))
        all_goals first | (exfalso; omega) | exact ⟨[2], rfl, rfl, rfl, ⟨⟨_, rfl, rfl, hB2 _⟩, hMapB _ _, rfl, trivial⟩, trivs⟩
      | cons y l =>
        (conv => whnf); (repeat' (first | ((with_reducible refine ifb_mk (fun hc => ?_) (fun hc => ?_)) <;> ((try simp only [decide_eq_true_eq, decide_eq_false_iff_not, Bool.not_eq_true', Bool.not_eq_false', Int.not_lt, Int.not_le, ne_eq, Decidable.not_not, beq_iff_eq, List.cons.injEq, and_true] at hc); (first | (exfalso; omega) | exact absurd True.intro hc | conv => whnf))) | ((with_reducible refine And.intro True.intro ?_); conv => whnf) | ((with_reducible refine grd_and ?_); refine And.intro (j1) ?_; conv => whnf) | ((with_reducible refine grd_and ?_); refine And.intro (hj) ?_; conv => whnf) | ((with_reducible refine And.intro ?hh ?_); (case hh => exact condA); conv => whnf) | fail))
        all_goals first | (exfalso; omega) | exact ⟨[4, 2], rfl, rfl, rfl, ⟨⟨_, rfl, rfl, SubQ.ofL rfl (gI_bare (y :: l)) (.inr rfl)⟩, ltB_ofLb (gI_bare (y :: l)), rfl, ⟨_, rfl, rfl, hB2 _⟩, hMapB _ _, rfl, trivial⟩, trivs⟩
    · cases hz : P i with
      | true =>
        have kH3 := fun h' => (hz ▸ kH h' i)
        rw [hz, if_pos rfl] at hbi
        clear hgs
        match D, hl1 with
        | [], hl1 => rw [List.length_nil] at hl1; omega
        | d :: ds, hl1 =>
          rw [List.length_cons] at hl1 ga
          have hd := hl3 d (List.mem_cons_self ..)
          have eb : b = (ds.length : Int) := by omega
          subst eb
          have hg1 : (ofL (arT (R.length + 1) (tOf (d :: ds))) 0).get (0 + ((ds.length : Nat) : Int).toNat * 1) = some (tx d) := by
            have := arrV_get (N := R.length + 1) (w := ds.length) (o := 0 + ((ds.length : Nat) : Int).toNat * 1) (f := fun i => tx (tOf (d :: ds) i)) (by omega) (by omega)
            rw [tOf_at] at this
            exact this
          have hgs : ∀ ρ, SubQ ρ (.cells (ofL (arT (R.length + 1) (tOf ((d ++ chr T i) :: ds))) 0) true none) (.cells ((ofL (arT (R.length + 1) (tOf (d :: ds))) 0).set (0 + ((ds.length : Nat) : Int).toNat * 1) (tx (d ++ chr T i))) true none) := fun ρ => arrV_set (p := ds.length) (fun _ => rfl) rfl (by omega) (fun c _ => by rw [tOf_set d]; split <;> rfl)
          (conv => whnf); (repeat' (first | ((with_reducible refine ifb_mk (fun hc => ?_) (fun hc => ?_)) <;> ((try simp only [decide_eq_true_eq, decide_eq_false_iff_not, Bool.not_eq_true', Bool.not_eq_false', Int.not_lt, Int.not_le, ne_eq, Decidable.not_not, beq_iff_eq, List.cons.injEq, and_true] at hc); (first | (exfalso; omega) | exact absurd True.intro hc | conv => whnf))) | ((with_reducible refine And.intro True.intro ?_); conv => whnf) | ((with_reducible refine grd_and ?_); refine And.intro (j1) ?_; conv => whnf) | ((with_reducible refine grd_and ?_); refine And.intro (hj) ?_; conv => whnf) | ((with_reducible refine CallX.all ?_); refine CallW.of_ok (kH3 _) ?_; conv => whnf) | ((with_reducible refine WpR.draw (id := 18) mixed [0, 1, 2, 3, 4, 5, 6, 7, 8, 9, 10, 11, 12, 13, 14, 15] [0, 1, 0, 0, 8, 0, 56, 120, 0, 0, 0, 1024, 3840, 8184, 16383, 32767] ?hh ?_); (case hh => kernel_rfl); conv => whnf) | ((with_reducible refine grd_and ?_); refine And.intro ((by show d.length + (List.take (i + 1 - i) (List.drop i T)).length ≤ 9223372036854775807; omega)) ?_; conv => whnf) | ((with_reducible refine grd_get ?_); refine som_mk (a := ?_) ?hh ?_; (case hh => exact hg1); conv => whnf) | ((with_reducible refine grd_putN ?_); refine som_mk (a := ?_) ?hh ?_; (case hh => exact putN_one hg1); conv => whnf) | ((with_reducible refine And.intro ?hh ?_); (case hh => exact condA); conv => whnf) | fail))
          all_goals first | (exfalso; omega) | skip
          exact ⟨(i + 1, (ds.length : Int), (S, (d ++ chr T i) :: ds)), [], by dsimp only; omega, ⟨by dsimp only; omega, by dsimp only; rw [List.length_cons]; omega, hbi.symm⟩, Back.auto⟩
      | false =>
        have kH3 := fun h' => (hz ▸ kH h' i)
        rw [hz, if_neg (by decide)] at hbi
        (conv => whnf); (repeat' (first | ((with_reducible refine ifb_mk (fun hc => ?_) (fun hc => ?_)) <;> ((try simp only [decide_eq_true_eq, decide_eq_false_iff_not, Bool.not_eq_true', Bool.not_eq_false', Int.not_lt, Int.not_le, ne_eq, Decidable.not_not, beq_iff_eq, List.cons.injEq, and_true] at hc); (first | (exfalso; omega) | exact absurd True.intro hc | conv => whnf))) | ((with_reducible refine And.intro True.intro ?_); conv => whnf) | ((with_reducible refine grd_and ?_); refine And.intro (j1) ?_; conv => whnf) | ((with_reducible refine grd_and ?_); refine And.intro (hj) ?_; conv => whnf) | ((with_reducible refine CallX.all ?_); refine CallW.of_ok (kH3 _) ?_; conv => whnf) | ((with_reducible refine And.intro ?hh ?_); (case hh => exact condA); conv => whnf) | fail))
        all_goals first | (exfalso; omega) | skip
        exact ⟨(i + 1, b + 1, bLeft (S, D)), [], by dsimp only; omega, ⟨by dsimp only; omega, by show b + 1 = ((([] : List UInt8) :: D).length : Int) - 1; rw [List.length_cons]; omega, hbi.symm⟩, Back.auto⟩
end Go.Proofs.Q

namespace Go.Proofs.Q
open Go.As
set_option maxRecDepth 20000
set_option linter.unusedVariables false
set_option linter.unusedSimpArgs false

section
variable (h : H) (T : List UInt8) (n : Nat) (s : Nat → Int) (k : Nat) (A : Nat → List UInt8) (x1 x2 : Bool)

/-- What turns marks back. -/
def bkA (T : List UInt8) (n : Nat) (s : Nat → Int) (A : Nat → List UInt8) : BS := bAdds (bkF T (stF n s) A T.length) (A T.length).length
def rdA (T : List UInt8) (n : Nat) (s : Nat → Int) (A : Nat → List UInt8) : List UInt8 := rdF T (stF n s) A T.length
theorem bkA_len : (bkA T n s A).2.length = (rdA T n s A).length + 1 := by
  unfold bkA rdA
  rw [(bAdds_len _ _).1, (bkF_len (T := T) (st := stF n s) (A := A) (Nat.le_refl _)).1, ← mkF_rd, List.length_append]
  omega
theorem back_ok (h1 : ckM T.length n s k A = 0) :
    CallOk Try.prog 58 [pageV n s k A x1 x2 T] h (marksV (bkA T n s A).1.length (iOf (bkA T n s A).1) (bkA T n s A).2.length (tOf (bkA T n s A).2) false false) h := by
  have hc := back_new h T n s k A x1 x2 h1 (bkA T n s A).1 (bkA T n s A).2 rfl
  have hl := bkA_len T n s A
  refine CallOk.freeze hc (FzL.agg (.cons (grFz (i := 0) eI_len eI_bare (fun b hb => ?_) (iG_of _)) (.cons (aFz ?_ (by omega) (tG_of _)) .nil))) (fun b hb => ?_)
  · rw [List.getElem?_append_left ((List.getElem?_eq_some_iff.1 hb).1)]; exact hb
  · rw [List.getElem?_append_right (Nat.le_refl _), Nat.sub_self]; rfl
  · rcases List.mem_append.1 hb with hb | hb
    · exact gNew_wr b hb
    · rw [List.mem_singleton.1 hb]
      obtain ⟨g, hg⟩ := aB_at (L := gR eT (bkA T n s A).2) (len := (bkA T n s A).2.length) (by omega)
      rw [hg]; rfl
theorem backR_ok (h1 : ckM T.length n s k A = 0) (hN : (rdA T n s A).length ≤ 12) :
    CallOk Try.prog 23 [tx T, marksV n s k A x1 x2] h (.tup [marksV (bkA T n s A).1.length (iOf (bkA T n s A).1) (bkA T n s A).2.length (tOf (bkA T n s A).2) false true, .int .i64 0]) h := by
  have hc := backR_new h T n s k A x1 x2 h1 (bkA T n s A).1 (bkA T n s A).2 rfl _ rfl hN
  rw [bkA_len]
  refine CallOk.freeze hc (FzL.tup (.cons (FzL.agg (.cons (grFz (i := 0) eI_len eI_bare (fun b hb => ?_) (iG_of _)) (.cons (arrFz (gg := none) (fun _ => rfl) ?_ (fun j _ => rfl)) .nil))) (.cons (.same rfl) .nil))) (fun b hb => ?_)
  · rw [List.getElem?_append_left ((List.getElem?_eq_some_iff.1 hb).1)]; exact hb
  · rw [List.getElem?_append_right (Nat.le_refl _), Nat.sub_self]; rfl
  · rcases List.mem_append.1 hb with hb | hb
    · exact gNew_wr b hb
    · rw [List.mem_singleton.1 hb]; rfl

/-- Back: the error. -/
def bkE (T : List UInt8) (n : Nat) (s : Nat → Int) (k : Nat) (A : Nat → List UInt8) : Int := if ckM T.length n s k A = 0 then (if (rdA T n s A).length ≤ 12 then 0 else 7) else ckM T.length n s k A
variable (hT : T.length ≤ 9223372036854775806) (hn : n ≤ 9223372036854775807) (hk : k ≤ 9223372036854775807)
include hT hn hk
theorem backP_err (h0 : bkE T n s k A ≠ 0) : CallOk Try.prog 22 [tx T, marksV n s k A x1 x2] h (.tup [.agg [.nils, .nils], .int .i64 (bkE T n s k A)]) h := by
  revert h0
  unfold bkE
  by_cases h1 : ckM T.length n s k A = 0
  · rw [if_pos h1]
    by_cases hN : (rdA T n s A).length ≤ 12
    · rw [if_pos hN]; intro h0; exact absurd rfl h0
    · rw [if_neg hN]
      intro _
      have k1 := fun h' => pageFor_ok h' T n s k A x1 x2 hn h1
      have k2 := fun h' => marked_ok h' T n s k A x1 x2 h1
      have k3 := fun h' sv hs => areTexts1_ok h' (rdF T (stF n s) A T.length) sv hs
      rw [decide_eq_false (show ¬ (rdF T (stF n s) A T.length).length ≤ 12 from hN)] at k3
      generalize rdF T (stF n s) A T.length = R at *
      clear hN h1
      refine CallOk.run0 Try.func22 rfl rfl rfl rfl rfl (WpR.of_vc ?_)
      (conv => whnf); (repeat' (first | ((with_reducible refine ifb_mk (fun hc => ?_) (fun hc => ?_)) <;> ((try simp only [decide_eq_true_eq, decide_eq_false_iff_not, Bool.not_eq_true', Bool.not_eq_false', Int.not_lt, Int.not_le, ne_eq, Decidable.not_not, beq_iff_eq, List.cons.injEq, and_true] at hc); (first | (exfalso; omega) | exact absurd True.intro hc | conv => whnf))) | ((with_reducible refine And.intro True.intro ?_); conv => whnf) | ((with_reducible refine CallX.all ?_); refine CallW.of_ok (k1 _) ?_; conv => whnf) | ((with_reducible refine CallX.all ?_); refine CallW.of_ok (k2 _) ?_; conv => whnf) | ((with_reducible refine CallX.all ?_); refine CallW.of_ok (k3 _ _ (SlC.own rfl)) ?_; conv => whnf) | ((with_reducible refine And.intro ?hh ?_); (case hh => exact condA); conv => whnf) | fail))
      (refine ⟨[], ?_, rfl, rfl, trivial, trivs⟩; simp only [renV, renL]; (first | done | rfl | (simp; done) | (simp; omega) | grind))
  · rw [if_neg h1]
    intro h0
    have k1 := fun h' => pageFor_err h' T n s k A x1 x2 hT hn hk h1
    generalize ckM T.length n s k A = e at *
    refine CallOk.run0 Try.func22 rfl rfl rfl rfl rfl (WpR.of_vc ?_)
    (conv => whnf); (repeat' (first | ((with_reducible refine ifb_mk (fun hc => ?_) (fun hc => ?_)) <;> ((try simp only [decide_eq_true_eq, decide_eq_false_iff_not, Bool.not_eq_true', Bool.not_eq_false', Int.not_lt, Int.not_le, ne_eq, Decidable.not_not, beq_iff_eq, List.cons.injEq, and_true] at hc); (first | (exfalso; omega) | exact absurd True.intro hc | conv => whnf))) | ((with_reducible refine And.intro True.intro ?_); conv => whnf) | ((with_reducible refine CallX.all ?_); refine CallW.of_ok (k1 _) ?_; conv => whnf) | ((with_reducible refine And.intro ?hh ?_); (case hh => exact condA); conv => whnf) | fail))
    all_goals first | exact absurd hc h0 | (refine ⟨[], ?_, rfl, rfl, trivial, trivs⟩; simp only [renV, renL]; (first | done | rfl | (simp; done) | (simp; omega) | grind))
omit hT hk in
theorem backP_ok (h1 : ckM T.length n s k A = 0) (hN : (rdA T n s A).length ≤ 12) :
    CallOk Try.prog 22 [tx T, marksV n s k A x1 x2] h (.tup [marksV (bkA T n s A).1.length (iOf (bkA T n s A).1) (bkA T n s A).2.length (tOf (bkA T n s A).2) false false, .int .i64 0]) h := by
  have k1 := fun h' => pageFor_ok h' T n s k A x1 x2 hn h1
  have k2 := fun h' => marked_ok h' T n s k A x1 x2 h1
  have k3 := fun h' sv hs => areTexts1_ok h' (rdF T (stF n s) A T.length) sv hs
  rw [decide_eq_true (show (rdF T (stF n s) A T.length).length ≤ 12 from hN)] at k3
  have k4 := fun h' => back_ok h' T n s k A x1 x2 h1
  generalize iOf (bkA T n s A).1 = s2 at *
  generalize tOf (bkA T n s A).2 = A2 at *
  generalize (bkA T n s A).1.length = n2 at *
  generalize (bkA T n s A).2.length = m2 at *
  generalize rdF T (stF n s) A T.length = R at *
  clear hN h1
  refine CallOk.run0 Try.func22 rfl rfl rfl rfl rfl (WpR.of_vc ?_)
  (conv => whnf); (repeat' (first | ((with_reducible refine ifb_mk (fun hc => ?_) (fun hc => ?_)) <;> ((try simp only [decide_eq_true_eq, decide_eq_false_iff_not, Bool.not_eq_true', Bool.not_eq_false', Int.not_lt, Int.not_le, ne_eq, Decidable.not_not, beq_iff_eq, List.cons.injEq, and_true] at hc); (first | (exfalso; omega) | exact absurd True.intro hc | conv => whnf))) | ((with_reducible refine And.intro True.intro ?_); conv => whnf) | ((with_reducible refine CallX.all ?_); refine CallW.of_ok (k1 _) ?_; conv => whnf) | ((with_reducible refine CallX.all ?_); refine CallW.of_ok (k2 _) ?_; conv => whnf) | ((with_reducible refine CallX.all ?_); refine CallW.of_ok (k3 _ _ (SlC.own rfl)) ?_; conv => whnf) | ((with_reducible refine CallX.all ?_); refine CallW.of_ok (k4 _) ?_; conv => whnf) | ((with_reducible refine And.intro ?hh ?_); (case hh => exact condA); conv => whnf) | fail))
  (refine ⟨[], ?_, rfl, rfl, trivial, trivs⟩; simp only [renV, renL]; (first | done | rfl | (simp; done) | (simp; omega) | grind))
theorem backR_err (h0 : bkE T n s k A ≠ 0) : CallOk Try.prog 23 [tx T, marksV n s k A x1 x2] h (.tup [.agg [.nils, .nils], .int .i64 (bkE T n s k A)]) h := by
  revert h0
  unfold bkE
  have k1 := fun h' => checkMarksR_ok h' T n s k A x1 x2 hT hn hk
  by_cases h1 : ckM T.length n s k A = 0
  · rw [if_pos h1]
    rw [h1] at k1
    by_cases hN : (rdA T n s A).length ≤ 12
    · rw [if_pos hN]; intro h0; exact absurd rfl h0
    · rw [if_neg hN]
      intro _
      have k2 := fun h' => readOf_ok h' T n s k A x1 x2 h1
      have k3 := fun h' => checkTextR_ok h' (rdF T (stF n s) A T.length)
      rw [if_neg (show ¬ (rdF T (stF n s) A T.length).length ≤ 12 from hN)] at k3
      generalize rdF T (stF n s) A T.length = R at *
      generalize n + lnF A T.length = cc at *
      clear hN h1
      refine CallOk.run0 Try.func23 rfl rfl rfl rfl rfl (WpR.of_vc ?_)
      (conv => whnf); (repeat' (first | ((with_reducible refine ifb_mk (fun hc => ?_) (fun hc => ?_)) <;> ((try simp only [decide_eq_true_eq, decide_eq_false_iff_not, Bool.not_eq_true', Bool.not_eq_false', Int.not_lt, Int.not_le, ne_eq, Decidable.not_not, beq_iff_eq, List.cons.injEq, and_true] at hc); (first | (exfalso; omega) | exact absurd True.intro hc | conv => whnf))) | ((with_reducible refine And.intro True.intro ?_); conv => whnf) | ((with_reducible refine CallX.all ?_); refine CallW.of_ok (k1 _) ?_; conv => whnf) | ((with_reducible refine CallX.all ?_); refine CallW.of_ok (k2 _) ?_; conv => whnf) | ((with_reducible refine CallX.all ?_); refine CallW.of_ok (k3 _) ?_; conv => whnf) | ((with_reducible refine And.intro ?hh ?_); (case hh => exact condA); conv => whnf) | fail))
      (refine ⟨[], ?_, rfl, rfl, trivial, trivs⟩; simp only [renV, renL]; (first | done | rfl | (simp; done) | (simp; omega) | grind))
  · rw [if_neg h1]
    intro h0
    generalize ckM T.length n s k A = e at *
    refine CallOk.run0 Try.func23 rfl rfl rfl rfl rfl (WpR.of_vc ?_)
    (conv => whnf); (repeat' (first | ((with_reducible refine ifb_mk (fun hc => ?_) (fun hc => ?_)) <;> ((try simp only [decide_eq_true_eq, decide_eq_false_iff_not, Bool.not_eq_true', Bool.not_eq_false', Int.not_lt, Int.not_le, ne_eq, Decidable.not_not, beq_iff_eq, List.cons.injEq, and_true] at hc); (first | (exfalso; omega) | exact absurd True.intro hc | conv => whnf))) | ((with_reducible refine And.intro True.intro ?_); conv => whnf) | ((with_reducible refine CallX.all ?_); refine CallW.of_ok (k1 _) ?_; conv => whnf) | ((with_reducible refine And.intro ?hh ?_); (case hh => exact condA); conv => whnf) | fail))
    all_goals first | exact absurd hc h0 | (refine ⟨[], ?_, rfl, rfl, trivial, trivs⟩; simp only [renV, renL]; (first | done | rfl | (simp; done) | (simp; omega) | grind))
omit hT hn hk
def lnS (A : Nat → List UInt8) : Nat → Nat
  | 0 => 0
  | i + 1 => lnS A i + (A i).length
theorem lnS_F (A : Nat → List UInt8) : ∀ i, lnS A (i + 1) = lnF A i
  | 0 => Nat.zero_add _
  | i + 1 => by show lnS A (i + 1) + (A (i + 1)).length = lnF A i + (A (i + 1)).length; rw [lnS_F]
theorem size_ok (h1 : ckM T.length n s k A = 0) : CallOk Try.prog 56 [pageV n s k A x1 x2 T] h (.int .i64 ((n + lnF A T.length : Nat) : Int)) h := by
  obtain ⟨a1, a2, a3, a4⟩ := ckM_n h1
  have hn := st_le a4
  have hl : ∀ i, i < k → lnS A (i + 1) ≤ 12 * (i + 1) := fun i hi => by rw [lnS_F]; exact lnF_le a3 hi
  have ls : ∀ i, lnS A (i + 1) = lnS A i + (A i).length := fun i => rfl
  have l0 : lnS A 0 = 0 := rfl
  rw [← lnS_F, ← a2]
  generalize lnS A = L at *
  clear h1 a3 a4
  refine CallOk.run0 Try.func56 rfl rfl rfl rfl rfl (WpR.of_vc ?_)
  (conv => whnf); (repeat' (first | ((with_reducible refine ifb_mk (fun hc => ?_) (fun hc => ?_)) <;> ((try simp only [decide_eq_true_eq, decide_eq_false_iff_not, Bool.not_eq_true', Bool.not_eq_false', Int.not_lt, Int.not_le, ne_eq, Decidable.not_not, beq_iff_eq, List.cons.injEq, and_true] at hc); (first | (exfalso; omega) | exact absurd True.intro hc | conv => whnf))) | ((with_reducible refine And.intro True.intro ?_); conv => whnf) | ((with_reducible refine And.intro ?hh ?_); (case hh => exact condA); conv => whnf) | fail))
  refine WpR.loopA (ι := Nat × Int) [] [12, 13] [] [] 1 (fun p => [(14, .int .i64 p.1), (3, .int .i64 p.2)]) (fun _ => []) (fun p => k - p.1) (fun p => p.1 ≤ k ∧ p.2 = ((n + L p.1 : Nat) : Int)) ?_ ((0, (n : Int))) (⟨Nat.zero_le _, by dsimp only; rw [l0]; rfl⟩) [] Back.auto
  rintro ⟨i, c⟩ ⟨j1, j2⟩
  dsimp only at j1 j2
  refine WpR.of_vc ?_
  by_cases hi : i < k
  · have q1 := hl i hi
    have q2 := ls i
    (conv => whnf); (repeat' (first | ((with_reducible refine ifb_mk (fun hc => ?_) (fun hc => ?_)) <;> ((try simp only [decide_eq_true_eq, decide_eq_false_iff_not, Bool.not_eq_true', Bool.not_eq_false', Int.not_lt, Int.not_le, ne_eq, Decidable.not_not, beq_iff_eq, List.cons.injEq, and_true] at hc); (first | (exfalso; omega) | exact absurd True.intro hc | conv => whnf))) | ((with_reducible refine And.intro True.intro ?_); conv => whnf) | ((with_reducible refine grd_and ?_); refine And.intro (hi) ?_; conv => whnf) | ((with_reducible refine And.intro ?hh ?_); (case hh => exact condA); conv => whnf) | fail))
    exact ⟨(i + 1, c + ((A i).length : Int)), [], by dsimp only; omega, ⟨by dsimp only; omega, by dsimp only; rw [q2, j2]; omega⟩, Back.auto⟩
  · have e : i = k := by omega
    subst e
    subst j2
    (conv => whnf); (repeat' (first | ((with_reducible refine ifb_mk (fun hc => ?_) (fun hc => ?_)) <;> ((try simp only [decide_eq_true_eq, decide_eq_false_iff_not, Bool.not_eq_true', Bool.not_eq_false', Int.not_lt, Int.not_le, ne_eq, Decidable.not_not, beq_iff_eq, List.cons.injEq, and_true] at hc); (first | (exfalso; omega) | exact absurd True.intro hc | conv => whnf))) | ((with_reducible refine And.intro True.intro ?_); conv => whnf) | ((with_reducible refine And.intro ?hh ?_); (case hh => exact condA); conv => whnf) | fail))
    (refine ⟨[], ?_, rfl, rfl, trivial, trivs⟩; simp only [renV, renL]; (first | done | rfl | (simp; done) | (simp; omega) | grind))
/-- Read: the marked text, the number of marks, the error. -/
theorem read_ok (h1 : ckM T.length n s k A = 0) : CallOk Try.prog 20 [tx T, marksV n s k A x1 x2] h (.tup [tx (rdA T n s A), .int .i64 ((n + lnF A T.length : Nat) : Int), .int .i64 0]) h := by
  have hn := st_le (ckM_n h1).2.2.2
  have hT := (ckM_n h1).1
  have k1 := fun h' => pageFor_ok h' T n s k A x1 x2 (by omega) h1
  have k2 := fun h' => marked_ok h' T n s k A x1 x2 h1
  have k3 := fun h' => size_ok h' T n s k A x1 x2 h1
  unfold rdA
  generalize rdF T (stF n s) A T.length = R at *
  generalize n + lnF A T.length = cc at *
  clear h1
  refine CallOk.run0 Try.func20 rfl rfl rfl rfl rfl (WpR.of_vc ?_)
  (conv => whnf); (repeat' (first | ((with_reducible refine ifb_mk (fun hc => ?_) (fun hc => ?_)) <;> ((try simp only [decide_eq_true_eq, decide_eq_false_iff_not, Bool.not_eq_true', Bool.not_eq_false', Int.not_lt, Int.not_le, ne_eq, Decidable.not_not, beq_iff_eq, List.cons.injEq, and_true] at hc); (first | (exfalso; omega) | exact absurd True.intro hc | conv => whnf))) | ((with_reducible refine And.intro True.intro ?_); conv => whnf) | ((with_reducible refine CallX.all ?_); refine CallW.of_ok (k1 _) ?_; conv => whnf) | ((with_reducible refine WpR.draw (id := 4) mixed [0, 2, 1, 3, 4, 5, 6] [0, 1, 0, 7, 15, 31, 63] ?hh ?_); (case hh => kernel_rfl); conv => whnf) | ((with_reducible refine grd_ex ?_); refine ex_ok (k2 _) ?_; conv => whnf) | ((with_reducible refine grd_ex ?_); refine ex_ok (k3 _) ?_; conv => whnf) | ((with_reducible refine And.intro ?hh ?_); (case hh => exact condA); conv => whnf) | fail))
  (refine ⟨[], ?_, rfl, rfl, trivial, trivs⟩; simp only [renV, renL]; (first | done | rfl | (simp; done) | (simp; omega) | grind))
theorem readR_ok (h1 : ckM T.length n s k A = 0) : CallOk Try.prog 21 [tx T, marksV n s k A x1 x2] h (.tup [tx (rdA T n s A), .int .i64 ((n + lnF A T.length : Nat) : Int), .int .i64 0]) h := by
  have hn := st_le (ckM_n h1).2.2.2
  have hT := (ckM_n h1).1
  have hk := (ckM_n h1).2.1
  have k1 := fun h' => checkMarksR_ok h' T n s k A x1 x2 (by omega) (by omega) (by omega)
  rw [h1] at k1
  have k2 := fun h' => readOf_ok h' T n s k A x1 x2 h1
  unfold rdA
  generalize rdF T (stF n s) A T.length = R at *
  generalize n + lnF A T.length = cc at *
  clear h1
  refine CallOk.run0 Try.func21 rfl rfl rfl rfl rfl (WpR.of_vc ?_)
  (conv => whnf); (repeat' (first | ((with_reducible refine ifb_mk (fun hc => ?_) (fun hc => ?_)) <;> ((try simp only [decide_eq_true_eq, decide_eq_false_iff_not, Bool.not_eq_true', Bool.not_eq_false', Int.not_lt, Int.not_le, ne_eq, Decidable.not_not, beq_iff_eq, List.cons.injEq, and_true] at hc); (first | (exfalso; omega) | exact absurd True.intro hc | conv => whnf))) | ((with_reducible refine And.intro True.intro ?_); conv => whnf) | ((with_reducible refine CallX.all ?_); refine CallW.of_ok (k1 _) ?_; conv => whnf) | ((with_reducible refine CallX.all ?_); refine CallW.of_ok (k2 _) ?_; conv => whnf) | ((with_reducible refine And.intro ?hh ?_); (case hh => exact condA); conv => whnf) | fail))
  (refine ⟨[], ?_, rfl, rfl, trivial, trivs⟩; simp only [renV, renL]; (first | done | rfl | (simp; done) | (simp; omega) | grind))
theorem read_err (hT : T.length ≤ 9223372036854775806) (hn : n ≤ 9223372036854775807) (hk : k ≤ 9223372036854775807) (h0 : ckM T.length n s k A ≠ 0) : CallOk Try.prog 20 [tx T, marksV n s k A x1 x2] h (.tup [tx [], .int .i64 0, .int .i64 (ckM T.length n s k A)]) h := by
  have k1 := fun h' => pageFor_err h' T n s k A x1 x2 hT hn hk h0
  generalize ckM T.length n s k A = e at *
  refine CallOk.run0 Try.func20 rfl rfl rfl rfl rfl (WpR.of_vc ?_)
  (conv => whnf); (repeat' (first | ((with_reducible refine ifb_mk (fun hc => ?_) (fun hc => ?_)) <;> ((try simp only [decide_eq_true_eq, decide_eq_false_iff_not, Bool.not_eq_true', Bool.not_eq_false', Int.not_lt, Int.not_le, ne_eq, Decidable.not_not, beq_iff_eq, List.cons.injEq, and_true] at hc); (first | (exfalso; omega) | exact absurd True.intro hc | conv => whnf))) | ((with_reducible refine And.intro True.intro ?_); conv => whnf) | ((with_reducible refine CallX.all ?_); refine CallW.of_ok (k1 _) ?_; conv => whnf) | ((with_reducible refine And.intro ?hh ?_); (case hh => exact condA); conv => whnf) | fail))
  all_goals first | exact absurd hc h0 | (refine ⟨[], ?_, rfl, rfl, trivial, trivs⟩; simp only [renV, renL]; (first | done | rfl | (simp; done) | (simp; omega) | grind))
theorem readR_err (hT : T.length ≤ 9223372036854775806) (hn : n ≤ 9223372036854775807) (hk : k ≤ 9223372036854775807) (h0 : ckM T.length n s k A ≠ 0) : CallOk Try.prog 21 [tx T, marksV n s k A x1 x2] h (.tup [tx [], .int .i64 0, .int .i64 (ckM T.length n s k A)]) h := by
  have k1 := fun h' => checkMarksR_ok h' T n s k A x1 x2 hT hn hk
  generalize ckM T.length n s k A = e at *
  refine CallOk.run0 Try.func21 rfl rfl rfl rfl rfl (WpR.of_vc ?_)
  (conv => whnf); (repeat' (first | ((with_reducible refine ifb_mk (fun hc => ?_) (fun hc => ?_)) <;> ((try simp only [decide_eq_true_eq, decide_eq_false_iff_not, Bool.not_eq_true', Bool.not_eq_false', Int.not_lt, Int.not_le, ne_eq, Decidable.not_not, beq_iff_eq, List.cons.injEq, and_true] at hc); (first | (exfalso; omega) | exact absurd True.intro hc | conv => whnf))) | ((with_reducible refine And.intro True.intro ?_); conv => whnf) | ((with_reducible refine CallX.all ?_); refine CallW.of_ok (k1 _) ?_; conv => whnf) | ((with_reducible refine And.intro ?hh ?_); (case hh => exact condA); conv => whnf) | fail))
  all_goals first | exact absurd hc h0 | (refine ⟨[], ?_, rfl, rfl, trivial, trivs⟩; simp only [renV, renL]; (first | done | rfl | (simp; done) | (simp; omega) | grind))
end
end Go.Proofs.Q

namespace Go.Proofs.Q
open Go.As
set_option maxRecDepth 20000
set_option linter.unusedVariables false
set_option linter.unusedSimpArgs false
set_option maxHeartbeats 2000000 in
/-- The end of a law on marks: answers that are equal. -/
theorem sheets_fin (hW : ∀ h, CallOk Try.prog 19 [] h (.bool true) h) (h : H) (T : List UInt8) (n : Nat) (s : Nat → Int) (k : Nat) (A : Nat → List UInt8) (e0 : Int) (R : List UInt8) (c e e' : Int)
    (m1 : Nat) (t1 : Nat → Int) (l1 : Nat) (C1 : Nat → List UInt8) (m2 : Nat) (t2 : Nat → Int) (l2 : Nat) (C2 : Nat → List UInt8) (z : Bool)
    (hL : T.length ≤ 20) (kG1 : ∀ h', CallOk Try.prog 18 [marksV n s k A false false] h' (.bool false) h')
    (k1 : ∀ h', CallOk Try.prog 24 [tx T, marksV n s k A false false] h' (.int .i64 e0) h') (k2 : ∀ h', CallOk Try.prog 25 [tx T, marksV n s k A false false] h' (.int .i64 e0) h')
    (k3 : ∀ h', CallOk Try.prog 20 [tx T, marksV n s k A false false] h' (.tup [tx R, .int .i64 c, .int .i64 e]) h') (k4 : ∀ h', CallOk Try.prog 21 [tx T, marksV n s k A false false] h' (.tup [tx R, .int .i64 c, .int .i64 e]) h')
    (k5 : ∀ h', CallOk Try.prog 22 [tx T, marksV n s k A false false] h' (.tup [marksV m1 t1 l1 C1 false false, .int .i64 e']) h') (k6 : ∀ h', CallOk Try.prog 23 [tx T, marksV n s k A false false] h' (.tup [marksV m2 t2 l2 C2 false z, .int .i64 e']) h')
    (k7 : ∀ h', CallOk Try.prog 26 [marksV m1 t1 l1 C1 false false, marksV m2 t2 l2 C2 false z] h' (.bool true) h') : CallOk Try.prog 3 [tx T, marksV n s k A false false] h (.bool true) h := by
  have kL := fun h' => long_ok h' T
  rw [decide_eq_false (show ¬ (20 : Int) < T.length by omega)] at kL
  refine CallOk.run0 Try.func3 rfl rfl rfl rfl rfl (WpR.of_vc ?_)
  (conv => whnf); (repeat' (first | ((with_reducible refine ifb_mk (fun hc => ?_) (fun hc => ?_)) <;> ((try simp only [decide_eq_true_eq, decide_eq_false_iff_not, Bool.not_eq_true', Bool.not_eq_false', Int.not_lt, Int.not_le, ne_eq, Decidable.not_not, beq_iff_eq, List.cons.injEq, and_true] at hc); (first | (exfalso; omega) | exact absurd True.intro hc | conv => whnf))) | ((with_reducible refine And.intro True.intro ?_); conv => whnf) | ((with_reducible refine CallX.all ?_); refine CallW.of_ok (kL _) ?_; conv => whnf) | ((with_reducible refine CallX.all ?_); refine CallW.of_ok (kG1 _) ?_; conv => whnf) | ((with_reducible refine CallX.all ?_); refine CallW.of_ok (k3 _) ?_; conv => whnf) | ((with_reducible refine CallX.all ?_); refine CallW.of_ok (k4 _) ?_; conv => whnf) | ((with_reducible refine CallX.all ?_); refine CallW.of_ok (k5 _) ?_; conv => whnf) | ((with_reducible refine CallX.all ?_); refine CallW.of_ok (k6 _) ?_; conv => whnf) | ((with_reducible refine WpR.draw (id := 7) mixed [0, 1, 3, 4, 2, 5, 6, 7, 8, 9, 10, 11, 12, 13, 14, 15, 16, 17, 18, 19, 20, 21, 22, 23, 24, 25, 26, 27, 28, 29, 30, 31, 32, 33, 34, 35] [0, 0, 3, 0, 0, 31, 63, 127, 255, 255, 1023, 2047, 4095, 8191, 8191, 32767, 65535, 131071, 262143, 262143, 1048575, 2097151, 4194303, 8388607, 8388607, 33554431, 67108863, 134217727, 268435455, 268435455, 1073741823, 2147483647, 4294967295, 8589934591, 17179869183, 34359738367] ?hh ?_); (case hh => kernel_rfl); conv => whnf) | ((with_reducible refine grd_ex ?_); refine ex_ok (k1 _) ?_; conv => whnf) | ((with_reducible refine grd_ex ?_); refine ex_ok (k2 _) ?_; conv => whnf) | ((with_reducible refine grd_ex ?_); refine ex_ok (k7 _) ?_; conv => whnf) | ((with_reducible refine grd_ex ?_); refine ex_ok (hW _) ?_; conv => whnf) | ((with_reducible refine And.intro ?hh ?_); (case hh => exact condA); conv => whnf) | fail))
  all_goals first | (exfalso; omega) | (refine ⟨[], ?_, rfl, rfl, trivial, trivs⟩; simp only [renV, renL]; (first | done | rfl | (simp; done) | (simp; omega) | grind))
theorem proofSheets_ok (hW : ∀ h, CallOk Try.prog 19 [] h (.bool true) h) (h : H) (T : List UInt8) (hT : T.length ≤ 9223372036854775807)
    (n : Nat) (s : Nat → Int) (k : Nat) (A : Nat → List UInt8) (hn : n ≤ 9223372036854775807) (hk : k ≤ 9223372036854775807) :
    CallOk Try.prog 3 [tx T, marksV n s k A false false] h (.bool true) h := by
  have kL := fun h' => long_ok h' T
  have kG1 := fun h' => great_ok h' n s k A false false hk
  by_cases h1 : T.length ≤ 20 ∧ grtB n k A = false
  · obtain ⟨hL, g1⟩ := h1
    obtain ⟨p1, p2, _⟩ := grt_n g1
    rw [g1] at kG1
    have kc := fun h' => checkMarks_ok h' T n s k A false false (by omega) hn hk
    have kc' := fun h' => checkMarksR_ok h' T n s k A false false (by omega) hn hk
    have kz : ∀ z h', CallOk Try.prog 26 [marksV 0 (fun _ => 0) 0 (fun _ => []) false false, marksV 0 (fun _ => 0) 0 (fun _ => []) false z] h' (.bool true) h' := fun z h' => by
      have := same_ok h' 0 (fun _ => 0) 0 (fun _ => []) false false 0 (fun _ => 0) 0 (fun _ => []) false z (by omega) (by omega)
      rw [eqF_refl, eqT_of (fun i hi => rfl)] at this
      exact this
    by_cases hc : ckM T.length n s k A = 0
    · by_cases hN : (rdA T n s A).length ≤ 12
      · have hb1 := (bkF_len (T := T) (st := stF n s) (A := A) (Nat.le_refl _)).2.1
        have hb2 := (bAdds_len (bkF T (stF n s) A T.length) (A T.length).length)
        have hb3 := bkA_len T n s A
        have hb4 : (bkA T n s A).1.length + 1 ≤ (bkA T n s A).2.length := by
          show (bAdds (bkF T (stF n s) A T.length) (A T.length).length).1.length + 1 ≤ (bAdds (bkF T (stF n s) A T.length) (A T.length).length).2.length
          omega
        refine sheets_fin hW h T n s k A _ _ _ 0 0 _ _ _ _ _ _ _ _ true hL kG1 kc kc' (fun h' => read_ok h' T n s k A _ _ hc) (fun h' => readR_ok h' T n s k A _ _ hc) (fun h' => backP_ok h' T n s k A _ _ hn hc hN) (fun h' => backR_ok h' T n s k A _ _ hc hN) (fun h' => ?_)
        have := same_ok h' (bkA T n s A).1.length (iOf (bkA T n s A).1) (bkA T n s A).2.length (tOf (bkA T n s A).2) false false (bkA T n s A).1.length (iOf (bkA T n s A).1) (bkA T n s A).2.length (tOf (bkA T n s A).2) false true (by omega) (by omega)
        rw [eqF_refl, eqT_of (fun i hi => rfl)] at this
        exact this
      · have h0 : bkE T n s k A ≠ 0 := by unfold bkE; rw [if_pos hc, if_neg hN]; decide
        exact sheets_fin hW h T n s k A _ _ _ 0 _ _ _ _ _ _ _ _ _ false hL kG1 kc kc' (fun h' => read_ok h' T n s k A _ _ hc) (fun h' => readR_ok h' T n s k A _ _ hc) (fun h' => zero_freeze (backP_err h' T n s k A _ _ (by omega) hn hk h0)) (fun h' => zero_freeze (backR_err h' T n s k A _ _ (by omega) hn hk h0)) (kz false)
    · have h0 : bkE T n s k A ≠ 0 := by unfold bkE; rw [if_neg hc]; exact hc
      exact sheets_fin hW h T n s k A _ _ _ _ _ _ _ _ _ _ _ _ _ false hL kG1 kc kc' (fun h' => read_err h' T n s k A _ _ (by omega) hn hk hc) (fun h' => readR_err h' T n s k A _ _ (by omega) hn hk hc) (fun h' => zero_freeze (backP_err h' T n s k A _ _ (by omega) hn hk h0)) (fun h' => zero_freeze (backR_err h' T n s k A _ _ (by omega) hn hk h0)) (kz false)
  · have h2 : ¬ T.length ≤ 20 ∨ T.length ≤ 20 ∧ grtB n k A = true := by
      by_cases hL : T.length ≤ 20
      · cases g1 : grtB n k A with
        | true => exact .inr ⟨hL, rfl⟩
        | false => exact absurd ⟨hL, g1⟩ h1
      · exact .inl hL
    clear h1
    rcases h2 with hL | ⟨hL, g1⟩
    · rw [decide_eq_true (show (20 : Int) < T.length by omega)] at kL
      refine CallOk.run0 Try.func3 rfl rfl rfl rfl rfl (WpR.of_vc ?_)
      (conv => whnf); (repeat' (first | ((with_reducible refine ifb_mk (fun hc => ?_) (fun hc => ?_)) <;> ((try simp only [decide_eq_true_eq, decide_eq_false_iff_not, Bool.not_eq_true', Bool.not_eq_false', Int.not_lt, Int.not_le, ne_eq, Decidable.not_not, beq_iff_eq, List.cons.injEq, and_true] at hc); (first | (exfalso; omega) | exact absurd True.intro hc | conv => whnf))) | ((with_reducible refine And.intro True.intro ?_); conv => whnf) | ((with_reducible refine CallX.all ?_); refine CallW.of_ok (kL _) ?_; conv => whnf) | ((with_reducible refine CallX.all ?_); refine CallW.of_ok (hW _) ?_; conv => whnf) | ((with_reducible refine And.intro ?hh ?_); (case hh => exact condA); conv => whnf) | fail))
      (refine ⟨[], ?_, rfl, rfl, trivial, trivs⟩; simp only [renV, renL]; (first | done | rfl | (simp; done) | (simp; omega) | grind))
    · rw [decide_eq_false (show ¬ (20 : Int) < T.length by omega)] at kL
      rw [g1] at kG1
      refine CallOk.run0 Try.func3 rfl rfl rfl rfl rfl (WpR.of_vc ?_)
      (conv => whnf); (repeat' (first | ((with_reducible refine ifb_mk (fun hc => ?_) (fun hc => ?_)) <;> ((try simp only [decide_eq_true_eq, decide_eq_false_iff_not, Bool.not_eq_true', Bool.not_eq_false', Int.not_lt, Int.not_le, ne_eq, Decidable.not_not, beq_iff_eq, List.cons.injEq, and_true] at hc); (first | (exfalso; omega) | exact absurd True.intro hc | conv => whnf))) | ((with_reducible refine And.intro True.intro ?_); conv => whnf) | ((with_reducible refine CallX.all ?_); refine CallW.of_ok (kL _) ?_; conv => whnf) | ((with_reducible refine CallX.all ?_); refine CallW.of_ok (kG1 _) ?_; conv => whnf) | ((with_reducible refine CallX.all ?_); refine CallW.of_ok (hW _) ?_; conv => whnf) | ((with_reducible refine And.intro ?hh ?_); (case hh => exact condA); conv => whnf) | fail))
      (refine ⟨[], ?_, rfl, rfl, trivial, trivs⟩; simp only [renV, renL]; (first | done | rfl | (simp; done) | (simp; omega) | grind))
end Go.Proofs.Q
