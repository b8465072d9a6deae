/- What the functions answer that the laws call, one after another (Thr). -/
import Derived.Test.YtgcnflpgolnjeaaAs6
import Derived.Test.YtgcnflpgolnjeaaChk
set_option linter.unusedVariables false
set_option linter.unusedSimpArgs false
namespace Go.Proofs.K
open Go.As
set_option maxRecDepth 20000
theorem index_ok (h : As.H) (k : Nat) (hk : k ≤ 9223372036854775807) (sx : Nat → Int) (ex : Bool) (v : Int) (R : Bool) (hR : R = anyF k fun j => decide (sx j = v)) :
    ∃ r : Int, (decide (0 ≤ r) = R) ∧ CallOk Try.prog 81 [.rsl ex 1 k (iG sx), .int .i64 v] h (.int .i64 r) h := by
  have hmin : ∀ m, m ≤ k → (∀ j, j < m → sx j ≠ v) ∨ ∃ d, d < m ∧ sx d = v ∧ ∀ j, j < d → sx j ≠ v := fun m => by
    induction m with
    | zero => exact fun _ => .inl fun j h => absurd h (Nat.not_lt_zero _)
    | succ m ih =>
      intro hm
      rcases ih (by omega) with h1 | ⟨d, h1, h2, h3⟩
      · by_cases e : sx m = v
        · exact .inr ⟨m, by omega, e, h1⟩
        · exact .inl fun j hj => by
            by_cases e2 : j = m
            · subst e2; exact e
            · exact h1 j (by omega)
      · exact .inr ⟨d, by omega, h2, h3⟩
  have hrun : ∀ (D : Nat) (r : Int), D ≤ k → (∀ j, j < D → sx j ≠ v) → (D < k → sx D = v ∧ r = D) → (D = k → r = -1) → CallOk Try.prog 81 [.rsl ex 1 k (iG sx), .int .i64 v] h (.int .i64 r) h := fun D r hD h1 h2 h3 => by
    refine CallOk.run0 Try.func81 rfl rfl rfl rfl rfl (WpR.of_vc ?_)
    (conv => whnf); (repeat' (first | ((with_reducible refine ifb_mk (fun hc => ?_) (fun hc => ?_)) <;> ((try simp only [decide_eq_true_eq, decide_eq_false_iff_not, Bool.not_eq_true', Bool.not_eq_false', Int.not_lt, Int.not_le, ne_eq, Decidable.not_not, beq_iff_eq, List.cons.injEq, and_true] at hc); (first | (exfalso; omega) | exact absurd True.intro hc | conv => whnf))) | ((with_reducible refine And.intro True.intro ?_); conv => whnf) | ((with_reducible refine And.intro ?hh ?_); (case hh => exact condA); conv => whnf) | fail))
    refine WpR.loopA (ι := Nat) [] [0, 1, 7] [] [] 0 (fun i => [(8, .int .i64 i)]) (fun _ => []) (fun i => k - i) (fun i => i ≤ D) ?_ (0) (Nat.zero_le _) [] Back.auto
    intro i hi
    refine WpR.of_vc ?_
    by_cases hik : i < k
    · by_cases e : i = D
      · subst e
        obtain ⟨e1, e2⟩ := h2 hik
        subst e2
        (conv => whnf); (repeat' (first | ((with_reducible refine ifb_mk (fun hc => ?_) (fun hc => ?_)) <;> ((try simp only [decide_eq_true_eq, decide_eq_false_iff_not, Bool.not_eq_true', Bool.not_eq_false', Int.not_lt, Int.not_le, ne_eq, Decidable.not_not, beq_iff_eq, List.cons.injEq, and_true] at hc); (first | (exfalso; omega) | exact absurd True.intro hc | conv => whnf))) | ((with_reducible refine And.intro True.intro ?_); conv => whnf) | ((with_reducible refine grd_and ?_); refine And.intro (hik) ?_; conv => whnf) | ((with_reducible refine And.intro ?hh ?_); (case hh => exact condA); conv => whnf) | fail))
        all_goals first | (exfalso; omega) | (refine ⟨[], ?_, rfl, rfl, trivial, trivs⟩; simp only [renV, renL]; (first | done | rfl | (simp; done) | (simp; omega) | grind))
      · have hne := h1 i (by omega)
        (conv => whnf); (repeat' (first | ((with_reducible refine ifb_mk (fun hc => ?_) (fun hc => ?_)) <;> ((try simp only [decide_eq_true_eq, decide_eq_false_iff_not, Bool.not_eq_true', Bool.not_eq_false', Int.not_lt, Int.not_le, ne_eq, Decidable.not_not, beq_iff_eq, List.cons.injEq, and_true] at hc); (first | (exfalso; omega) | exact absurd True.intro hc | conv => whnf))) | ((with_reducible refine And.intro True.intro ?_); conv => whnf) | ((with_reducible refine grd_and ?_); refine And.intro (hik) ?_; conv => whnf) | ((with_reducible refine And.intro ?hh ?_); (case hh => exact condA); conv => whnf) | fail))
        all_goals first | (exfalso; omega) | exact ⟨i + 1, [], by omega, by omega, Back.auto⟩
    · have e1 := h3 (by omega)
      subst e1
      (conv => whnf); (repeat' (first | ((with_reducible refine ifb_mk (fun hc => ?_) (fun hc => ?_)) <;> ((try simp only [decide_eq_true_eq, decide_eq_false_iff_not, Bool.not_eq_true', Bool.not_eq_false', Int.not_lt, Int.not_le, ne_eq, Decidable.not_not, beq_iff_eq, List.cons.injEq, and_true] at hc); (first | (exfalso; omega) | exact absurd True.intro hc | conv => whnf))) | ((with_reducible refine And.intro True.intro ?_); conv => whnf) | ((with_reducible refine grd_and ?_); refine And.intro (hik) ?_; conv => whnf) | ((with_reducible refine And.intro ?hh ?_); (case hh => exact condA); conv => whnf) | fail))
      all_goals first | (exfalso; omega) | (refine ⟨[], ?_, rfl, rfl, trivial, trivs⟩; simp only [renV, renL]; (first | done | rfl | (simp; done) | (simp; omega) | grind))
  rcases hmin k (Nat.le_refl _) with h1 | ⟨d, h1, h2, h3⟩
  · refine ⟨-1, ?_, hrun k (-1) (Nat.le_refl _) h1 (fun h => by omega) (fun _ => rfl)⟩
    rw [hR, anyF_f fun j hj => decide_eq_false (h1 j hj)]; rfl
  · refine ⟨d, ?_, hrun d d (by omega) h3 (fun _ => ⟨h2, rfl⟩) (fun h => by omega)⟩
    rw [hR, anyF_t h1 (decide_eq_true h2)]
    exact decide_eq_true (by omega)
def selB (k : Nat) (sx : Nat → Int) (i : Nat) : Bool := anyF k fun j => decide (sx j = (i : Int))
theorem contains_ok (h : As.H) (k : Nat) (hk : k ≤ 9223372036854775807) (sx : Nat → Int) (ex : Bool) (i : Nat) : CallOk Try.prog 63 [.rsl ex 1 k (iG sx), .int .i64 i] h (.bool (selB k sx i)) h := by
  unfold selB
  generalize hR : anyF k (fun j => decide (sx j = (i : Int))) = R
  have hx : ∃ r : Int, (decide (0 ≤ r) = R) ∧ ∀ h' : As.H, CallOk Try.prog 81 [.rsl ex 1 k (iG sx), .int .i64 i] h' (.int .i64 r) h' := by
    obtain ⟨r, h1, h2⟩ := index_ok As.H.empty k hk sx ex i R hR.symm
    exact ⟨r, h1, fun h' => CallOk.thaw h2 rfl h' (.cons (.same rfl) (.cons (.same rfl) .nil))⟩
  obtain ⟨r, h1, kI⟩ := hx
  rw [← h1]
  refine CallOk.run0 Try.func63 rfl rfl rfl rfl rfl (WpR.of_vc ?_)
  (conv => whnf); (repeat' (first | ((with_reducible refine ifb_mk (fun hc => ?_) (fun hc => ?_)) <;> ((try simp only [decide_eq_true_eq, decide_eq_false_iff_not, Bool.not_eq_true', Bool.not_eq_false', Int.not_lt, Int.not_le, ne_eq, Decidable.not_not, beq_iff_eq, List.cons.injEq, and_true] at hc); (first | (exfalso; omega) | exact absurd True.intro hc | conv => whnf))) | ((with_reducible refine And.intro True.intro ?_); conv => whnf) | ((with_reducible refine CallX.all ?_); refine CallW.of_ok (kI _) ?_; conv => whnf) | ((with_reducible refine And.intro ?hh ?_); (case hh => exact condA); conv => whnf) | fail))
  all_goals first | (refine ⟨[], ?_, rfl, rfl, trivial, trivs⟩; simp only [renV, renL]; (first | done | rfl | (simp; done) | (simp; omega) | grind)) | (exfalso; omega)
theorem throughF_ok (h : As.H) (q : Nat) (k : Nat) (hk : k ≤ 9223372036854775807) (sx : Nat → Int) (ex : Bool) (i : Nat) {w : Bool} {g : Option (Nat × Nat)} (hq : h.get q = some (.cells (ofL [.rsl ex 1 k (iG sx)] 0) w g)) : CallOk Try.prog 62 [.int .i64 i, .ptr q 0] h (.bool (selB k sx i)) h := by
  have k1 := fun h' => contains_ok h' k hk sx ex i
  have hB : ∀ v ∈ [V.rsl ex 1 k (iG sx)], bare0 v = true := by intro v hv; rw [List.mem_singleton.1 hv]; rfl
  refine CallOk.run Try.func62 rfl rfl (argsC := [.int .i64 i, .ptr 0 0]) (Nat.le_of_ble_eq_true rfl) [some (q, 0)] (.cons (.bare rfl) (.cons (.ptr (i := 0) rfl) .nil)) (one_view hq hB) rfl (WpR.of_vc ?_)
  (conv => whnf); (repeat' (first | ((with_reducible refine ifb_mk (fun hc => ?_) (fun hc => ?_)) <;> ((try simp only [decide_eq_true_eq, decide_eq_false_iff_not, Bool.not_eq_true', Bool.not_eq_false', Int.not_lt, Int.not_le, ne_eq, Decidable.not_not, beq_iff_eq, List.cons.injEq, and_true] at hc); (first | (exfalso; omega) | exact absurd True.intro hc | conv => whnf))) | ((with_reducible refine And.intro True.intro ?_); conv => whnf) | ((with_reducible refine CallX.all ?_); refine CallW.of_ok (k1 _) ?_; conv => whnf) | ((with_reducible refine And.intro ?hh ?_); (case hh => exact condA); conv => whnf) | fail))
  all_goals first | (refine ⟨[], ?_, rfl, rfl, trivial, trivs⟩; simp only [renV, renL]; (first | done | rfl | (simp; done) | (simp; omega) | grind)) | (exfalso; omega)
theorem two_bare {h : As.H} {s q : Nat} {L L2 : List V} {w w2 : Bool} {g g2 : Option (Nat × Nat)} (hL : ∀ v ∈ L, bare0 v = true) (hL2 : ∀ v ∈ L2, bare0 v = true) (hs : h.get s = some (.cells (ofL L 0) w g)) (hq : h.get q = some (.cells (ofL L2 0) w2 g2)) :
    ViewM h [some (s, 0), some (q, 0)] [.cells (ofL L 0) false none, .cells (ofL L2 0) false none] := by
  refine viewM_of ⟨⟨⟨rfl, rfl⟩, fun j o hj => ?_⟩, ⟨⟨rfl, rfl⟩, fun j o hj => ?_⟩, trivial⟩ (fun k k' j o o' hk hk' hmp => ?_)
  · cases hj
    refine ⟨_, _, _, hs, fun i d hd => ?_⟩
    rw [get_ofL, if_pos (Nat.zero_le _), Nat.sub_zero] at hd
    have hb := hL d (List.mem_of_getElem? hd)
    exact ⟨one_of_bare hb, d, by rw [Nat.zero_add]; exact get_ofL0 hd, .bare (by cases d <;> first | rfl | cases hb)⟩
  · cases hj
    refine ⟨_, _, _, hq, fun i d hd => ?_⟩
    rw [get_ofL, if_pos (Nat.zero_le _), Nat.sub_zero] at hd
    have hb := hL2 d (List.mem_of_getElem? hd)
    exact ⟨one_of_bare hb, d, by rw [Nat.zero_add]; exact get_ofL0 hd, .bare (by cases d <;> first | rfl | cases hb)⟩
  · obtain ⟨es, c, hg⟩ := hmp
    match k with
    | 0 => simp at hk; rw [← hk.1, hs] at hg; cases hg
    | 1 => simp at hk; rw [← hk.1, hq] at hg; cases hg
    | k + 2 => simp at hk
set_option maxHeartbeats 16000000 in
theorem throughC_ok (h : As.H) (s q : Nat) (k : Nat) (hk9 : k ≤ 9223372036854775807) (sx : Nat → Int) (ex2 : Bool) (D : Int) (ex : Bool) (n : Nat) (a b : Nat → Int) (l : Lg n a b) (h4 : cnF (selB k sx) n ≤ 4) (mk : Nat → Bool) {w : Bool} {gg : Option (Nat × Nat)} (hs : h.get s = some (.cells (ofL (shL D (.rsl ex 2 n (lkG a b)) mk) 0) w gg)) {w2 : Bool} {gg2 : Option (Nat × Nat)} (hq : h.get q = some (.cells (ofL [.rsl ex2 1 k (iG sx)] 0) w2 gg2)) :
    CallOk Try.prog 61 [.ptr s 0, .fn 62 [] [.ptr q 0]] h (.tup [crV (thP (cnF (selB k sx) n) (slF (selB k sx) a n) (slF (selB k sx) b n)), .bool (alW (cnF (selB k sx) n) (slF (selB k sx) a n) (slF (selB k sx) b n))]) h := by
  have kM := fun i (hi : i < n) (h' : As.H) (hq : h'.get 1 = some (.cells (ofL [.rsl ex2 1 k (iG sx)] 0) false none)) => throughF_ok h' 1 k hk9 sx ex2 i hq
  have hn := l.le
  generalize hP : selB k sx = P at *
  have kT := fun (h' : As.H) cap ex hcap gg hs => throughS_ok h' (cnF P n) (slF P a n) (slF P b n) (slF_dy h4 l.rg l.up) (slF_pl l.at') 3 cap ex hcap gg hs
  have hyes := fun i hi => slF_yes (p := P) (a := a) (i := i) hi
  have hyesb := fun i hi => (slF_yes (p := P) (a := b) (i := i) hi).2
  have hno := fun i hi => slF_no (p := P) (a := a) (i := i) hi
  have hnob := fun i hi => (slF_no (p := P) (a := b) (i := i) hi).2
  have hmono := fun i (hi : i ≤ n) => cnF_mono (p := P) hi
  have hz1 : slF P a 0 = fun _ => 0 := rfl
  have hz2 : slF P b 0 = fun _ => 0 := rfl
  have hz3 : cnF P 0 = 0 := rfl
  generalize thP (cnF P n) (slF P a n) (slF P b n) = T at *
  generalize alW (cnF P n) (slF P a n) (slF P b n) = W at *
  generalize slF P a = A at *
  generalize slF P b = B at *
  generalize cnF P = C at *
  have hMap : ∀ mk, ltB 4 (shB D (.rsl ex 2 n (lkG a b)) mk) := fun mk => ltB_ofLb (shL_bare rfl)
  have hMapA : ltB 4 (.cells (ofL (shL D (.rsl ex 2 n (lkG a b)) mk) 0) false none) := ltB_ofLb (shL_bare rfl)
  have hMapB : ltB 1000 (.cells (ofL (shL D (.rsl ex 2 n (lkG a b)) mk) 0) false none) := ltB_ofLb (shL_bare rfl)
  have hMap2 : ∀ (X Y : Nat → Int), ltB 4 (.cells (ofL (rmL X Y) 0) true none) := fun X Y => ltB_ofLb rmL_bare
  have hMapC : ∀ (X Y : Nat → Int), ltB 1000 (.cells (ofL (rmL X Y) 0) true none) := fun X Y => ltB_ofLb rmL_bare
  have hself0 : ∀ ρ : Nat → Nat, SubQ ρ (.cells (ofL (rmL (fun _ => 0) (fun _ => 0)) 0) true none) (.cells (ofL (rep 4 [V.int .i64 0, V.int .i64 0]) 0) true none) := fun ρ => SubQ.ofL rfl rmL_bare (.inl rfl)
  have hBare : ∀ v ∈ shL D (.rsl ex 2 n (lkG a b)) mk, bare0 v = true := shL_bare rfl
  refine CallOk.run Try.func61 rfl rfl (argsC := [.ptr 0 0, .fn 62 [] [.ptr 1 0]]) (Nat.le_of_ble_eq_true rfl) [some (s, 0), some (q, 0)] (.cons (.ptr (i := 0) rfl) (.cons (CaL.fn .nil (.cons (.ptr (i := 0) rfl) .nil)) .nil)) (two_bare (shL_bare rfl) (by intro v hv; rw [List.mem_singleton.1 hv]; rfl) hs hq) rfl (WpR.of_vc ?_)
  have hBq : ∀ v ∈ [V.rsl ex2 1 k (iG sx)], bare0 v = true := by intro v hv; rw [List.mem_singleton.1 hv]; rfl
  (conv => whnf); (repeat' (first | ((with_reducible refine ifb_mk (fun hc => ?_) (fun hc => ?_)) <;> ((try simp only [decide_eq_true_eq, decide_eq_false_iff_not, Bool.not_eq_true', Bool.not_eq_false', Int.not_lt, Int.not_le, ne_eq, Decidable.not_not, beq_iff_eq, List.cons.injEq, and_true] at hc); (first | (exfalso; omega) | exact absurd True.intro hc | conv => whnf))) | ((with_reducible refine And.intro True.intro ?_); conv => whnf) | ((with_reducible refine And.intro ?hh ?_); (case hh => exact condA); conv => whnf) | fail))
  refine WpR.loopA (ι := Nat × Nat × (Nat → Int) × (Nat → Int)) [] [0, 1, 4, 5, 15, 16] [3] [] 4 (fun q => [(17, .int .i64 q.1), (7, .sl 3 0 q.2.1 4 true)]) (fun q => [(3, .cells (ofL (rmL q.2.2.1 q.2.2.2) 0) true none)]) (fun q => n - q.1) (fun q => q.1 ≤ n ∧ q.2.1 = C q.1 ∧ q.2.2.1 = A q.1 ∧ q.2.2.2 = B q.1) ?_ ((0, 0, (fun _ => 0), (fun _ => 0))) (⟨Nat.zero_le _, hz3.symm, hz1.symm, hz2.symm⟩) [] Back.auto
  rintro ⟨i, kk, X, Y⟩ ⟨j1, j2, j3, j4⟩
  dsimp only at j1 j2 j3 j4
  refine WpR.of_vc ?_
  by_cases hi : i < n
  · have kMi := kM i hi
    cases hb : P i with
    | true =>
      rw [hb] at kMi
      have hy := hyes i hb
      have hyb := hyesb i hb
      have hm1 := hmono (i + 1) (by omega)
      rw [← j2, ← j3] at hy
      rw [← j2, ← j4] at hyb
      have hk4 : kk < 4 := by omega
      have hput := rm_put (X := X) (Y := Y) (X' := A (i + 1)) (Y' := B (i + 1)) (k := kk) (o := 0 + kk * 2) (x := a i) (y := b i) hk4 (by omega) hy.2 hyb
      (conv => whnf); (repeat' (first | ((with_reducible refine ifb_mk (fun hc => ?_) (fun hc => ?_)) <;> ((try simp only [decide_eq_true_eq, decide_eq_false_iff_not, Bool.not_eq_true', Bool.not_eq_false', Int.not_lt, Int.not_le, ne_eq, Decidable.not_not, beq_iff_eq, List.cons.injEq, and_true] at hc); (first | (exfalso; omega) | exact absurd True.intro hc | conv => whnf))) | ((with_reducible refine And.intro True.intro ?_); conv => whnf) | ((with_reducible refine grd_and ?_); refine And.intro (hi) ?_; conv => whnf) | ((with_reducible refine CallX.all ?_); refine CallW.of_ok (kMi _ rfl) ?_; conv => whnf) | (refine AppX.room (n := 1) (len := kk) rfl (by omega) hput ?_; conv => whnf) | ((with_reducible refine And.intro ?hh ?_); (case hh => exact condA); conv => whnf) | fail))
      all_goals first | (exfalso; omega) | exact ⟨(i + 1, kk + 1, A (i + 1), B (i + 1)), [], by dsimp only; omega, ⟨by dsimp only; omega, hy.1.symm, rfl, rfl⟩, Back.auto⟩
    | false =>
      rw [hb] at kMi
      have hy := hno i hb
      have hyb := hnob i hb
      (conv => whnf); (repeat' (first | ((with_reducible refine ifb_mk (fun hc => ?_) (fun hc => ?_)) <;> ((try simp only [decide_eq_true_eq, decide_eq_false_iff_not, Bool.not_eq_true', Bool.not_eq_false', Int.not_lt, Int.not_le, ne_eq, Decidable.not_not, beq_iff_eq, List.cons.injEq, and_true] at hc); (first | (exfalso; omega) | exact absurd True.intro hc | conv => whnf))) | ((with_reducible refine And.intro True.intro ?_); conv => whnf) | ((with_reducible refine grd_and ?_); refine And.intro (hi) ?_; conv => whnf) | ((with_reducible refine CallX.all ?_); refine CallW.of_ok (kMi _ rfl) ?_; conv => whnf) | ((with_reducible refine And.intro ?hh ?_); (case hh => exact condA); conv => whnf) | fail))
      all_goals first | (exfalso; omega) | exact ⟨(i + 1, kk, X, Y), [], by dsimp only; omega, ⟨by dsimp only; omega, j2.trans hy.1.symm, j3.trans hy.2.symm, j4.trans hyb.symm⟩, Back.auto⟩
  · have e : i = n := by omega
    subst e
    rw [← j2, ← j3, ← j4] at kT
    have hk4 : kk ≤ 4 := by omega
    (conv => whnf); (repeat' (first | ((with_reducible refine ifb_mk (fun hc => ?_) (fun hc => ?_)) <;> ((try simp only [decide_eq_true_eq, decide_eq_false_iff_not, Bool.not_eq_true', Bool.not_eq_false', Int.not_lt, Int.not_le, ne_eq, Decidable.not_not, beq_iff_eq, List.cons.injEq, and_true] at hc); (first | (exfalso; omega) | exact absurd True.intro hc | conv => whnf))) | ((with_reducible refine And.intro True.intro ?_); conv => whnf) | ((with_reducible refine grd_and ?_); refine And.intro (hi) ?_; conv => whnf) | ((with_reducible refine CallX.all ?_); refine CallW.of_ok (kT _ _ _ hk4 _ rfl) ?_; conv => whnf) | ((with_reducible refine And.intro ?hh ?_); (case hh => exact condA); conv => whnf) | fail))
    all_goals first | (exfalso; omega) | (refine ⟨[], ?_, rfl, rfl, trivial, trivs⟩; simp only [renV, renL]; (first | done | rfl | (simp; done) | (simp; omega) | grind))
def incB (n k : Nat) (sx : Nat → Int) : Bool := allF k (fun i => decide (0 < i → sx (i - 1) < sx i)) && wiR 0 ((n : Int) - 1) k sx
theorem withinR_ok (h : As.H) (a b : Int) (n : Nat) (s : Nat → Int) (ex : Bool) (hn : n ≤ 9223372036854775807) : CallOk Try.prog 69 [.int .i64 a, .int .i64 b, .rsl ex 1 n (iG s)] h (.bool (wiR a b n s)) h := by
  refine CallOk.run0 Try.func69 rfl rfl rfl rfl rfl (WpR.of_vc ?_)
  (conv => whnf); (repeat' (first | ((with_reducible refine ifb_mk (fun hc => ?_) (fun hc => ?_)) <;> ((try simp only [decide_eq_true_eq, decide_eq_false_iff_not, Bool.not_eq_true', Bool.not_eq_false', Int.not_lt, Int.not_le, ne_eq, Decidable.not_not, beq_iff_eq, List.cons.injEq, and_true] at hc); (first | (exfalso; omega) | exact absurd True.intro hc | conv => whnf))) | ((with_reducible refine And.intro True.intro ?_); conv => whnf) | ((with_reducible refine And.intro ?hh ?_); (case hh => exact condA); conv => whnf) | fail))
  refine WpR.loopA (ι := Nat) [] [0, 1, 9, 10] [] [] 0 (fun i => [(11, .int .i64 i)]) (fun _ => []) (fun i => n - i) (fun i => i ≤ n ∧ ∀ j, j < i → decide (a ≤ s j ∧ s j ≤ b) = true) ?_ (0) (⟨Nat.zero_le _, fun j hj => by omega⟩) [] Back.auto
  rintro i ⟨h1, hP⟩
  refine WpR.of_vc ?_
  by_cases hi : i < n
  · cases ht : decide (a ≤ s i ∧ s i ≤ b) with
    | true =>
      have ht' : a ≤ s i ∧ s i ≤ b := of_decide_eq_true ht
      (conv => whnf); (repeat' (first | ((with_reducible refine ifb_mk (fun hc => ?_) (fun hc => ?_)) <;> ((try simp only [decide_eq_true_eq, decide_eq_false_iff_not, Bool.not_eq_true', Bool.not_eq_false', Int.not_lt, Int.not_le, ne_eq, Decidable.not_not, beq_iff_eq, List.cons.injEq, and_true] at hc); (first | (exfalso; omega) | exact absurd True.intro hc | conv => whnf))) | ((with_reducible refine And.intro True.intro ?_); conv => whnf) | ((with_reducible refine grd_and ?_); refine And.intro (hi) ?_; conv => whnf) | ((with_reducible refine And.intro ?hh ?_); (case hh => exact condA); conv => whnf) | fail))
      all_goals first | (exfalso; omega) | exact ⟨i + 1, [], by omega, ⟨by omega, below_succ hP ht⟩, Back.auto⟩
    | false =>
      have ht' : ¬ (a ≤ s i ∧ s i ≤ b) := of_decide_eq_false ht
      have e : wiR a b n s = false := allF_f (p := fun i => decide (a ≤ s i ∧ s i ≤ b)) hi ht
      rw [e]
      (conv => whnf); (repeat' (first | ((with_reducible refine ifb_mk (fun hc => ?_) (fun hc => ?_)) <;> ((try simp only [decide_eq_true_eq, decide_eq_false_iff_not, Bool.not_eq_true', Bool.not_eq_false', Int.not_lt, Int.not_le, ne_eq, Decidable.not_not, beq_iff_eq, List.cons.injEq, and_true] at hc); (first | (exfalso; omega) | exact absurd True.intro hc | conv => whnf))) | ((with_reducible refine And.intro True.intro ?_); conv => whnf) | ((with_reducible refine grd_and ?_); refine And.intro (hi) ?_; conv => whnf) | ((with_reducible refine And.intro ?hh ?_); (case hh => exact condA); conv => whnf) | fail))
      all_goals first | (refine ⟨[], ?_, rfl, rfl, trivial, trivs⟩; simp only [renV, renL]; (first | done | rfl | (simp; done) | (simp; omega) | grind)) | (exfalso; omega)
  · (conv => whnf); (repeat' (first | ((with_reducible refine ifb_mk (fun hc => ?_) (fun hc => ?_)) <;> ((try simp only [decide_eq_true_eq, decide_eq_false_iff_not, Bool.not_eq_true', Bool.not_eq_false', Int.not_lt, Int.not_le, ne_eq, Decidable.not_not, beq_iff_eq, List.cons.injEq, and_true] at hc); (first | (exfalso; omega) | exact absurd True.intro hc | conv => whnf))) | ((with_reducible refine And.intro True.intro ?_); conv => whnf) | ((with_reducible refine And.intro ?hh ?_); (case hh => exact condA); conv => whnf) | fail))
    have e : wiR a b n s = true := allF_t fun j hj => hP j (by omega)
    rw [e]
    (refine ⟨[], ?_, rfl, rfl, trivial, trivs⟩; simp only [renV, renL]; (first | done | rfl | (simp; done) | (simp; omega) | grind))
theorem increasing_ok (h : As.H) (s : Nat) (D : Int) (ex ex2 : Bool) (n : Nat) (hn : n ≤ 12) (a b : Nat → Int) (mk : Nat → Bool) {w : Bool} {gg : Option (Nat × Nat)} (hs : h.get s = some (.cells (ofL (shL D (.rsl ex 2 n (lkG a b)) mk) 0) w gg)) (k : Nat) (hk : k ≤ 9223372036854775807) (sx : Nat → Int) :
    CallOk Try.prog 60 [.ptr s 0, .rsl ex2 1 k (iG sx)] h (.bool (incB n k sx)) h := by
  have kW := fun h' => withinR_ok h' 0 ((n : Int) - 1) k sx ex2 hk
  have hf := @allF_f k
  have ht := @allF_t k
  have ho : ∀ i, (fun i => decide (0 < i → sx (i - 1) < sx i)) i = decide (0 < i → sx (i - 1) < sx i) := fun i => rfl
  unfold incB
  generalize hod : (fun i => decide (0 < i → sx (i - 1) < sx i)) = od at *
  generalize hy : allF k od = y at *
  generalize wiR 0 ((n : Int) - 1) k sx = z at *
  have hBare : ∀ v ∈ shL D (.rsl ex 2 n (lkG a b)) mk, bare0 v = true := shL_bare rfl
  have hMap : ∀ k, ltB k (.cells (ofL (shL D (.rsl ex 2 n (lkG a b)) mk) 0) false none) := fun k => ltB_ofLb hBare
  refine CallOk.run Try.func60 rfl rfl (argsC := [.ptr 0 0, .rsl ex2 1 k (iG sx)]) (Nat.le_of_ble_eq_true rfl) [some (s, 0)] (.cons (.ptr (i := 0) rfl) (.cons (.lt0 rfl) .nil)) (one_view hs (shL_bare rfl)) rfl (WpR.of_vc ?_)
  (conv => whnf); (repeat' (first | ((with_reducible refine ifb_mk (fun hc => ?_) (fun hc => ?_)) <;> ((try simp only [decide_eq_true_eq, decide_eq_false_iff_not, Bool.not_eq_true', Bool.not_eq_false', Int.not_lt, Int.not_le, ne_eq, Decidable.not_not, beq_iff_eq, List.cons.injEq, and_true] at hc); (first | (exfalso; omega) | exact absurd True.intro hc | conv => whnf))) | ((with_reducible refine And.intro True.intro ?_); conv => whnf) | ((with_reducible refine And.intro ?hh ?_); (case hh => exact condA); conv => whnf) | fail))
  refine WpR.loopA (ι := Nat) [] [0, 1, 7, 8] [] [] 1 (fun i => [(9, .int .i64 i)]) (fun _ => []) (fun i => k - i) (fun i => i ≤ k ∧ ∀ j, j < i → od j = true) ?_ (0) (⟨Nat.zero_le _, fun j hj => by omega⟩) [] Back.auto
  rintro i ⟨j1, j2⟩
  refine WpR.of_vc ?_
  by_cases hi : i < k
  · have ho := ho i
    by_cases h0 : 0 < i
    · have hi1 : i - 1 < k := by omega
      have e1 : ((i : Int) - 1) = ((i - 1 : Nat) : Int) := by omega
      by_cases hw : sx (i - 1) < sx i
      · have hok : od i = true := by rw [ho]; exact decide_eq_true fun _ => hw
        (conv => whnf); (repeat' (first | ((with_reducible refine ifb_mk (fun hc => ?_) (fun hc => ?_)) <;> ((try simp only [decide_eq_true_eq, decide_eq_false_iff_not, Bool.not_eq_true', Bool.not_eq_false', Int.not_lt, Int.not_le, ne_eq, Decidable.not_not, beq_iff_eq, List.cons.injEq, and_true] at hc); (first | (exfalso; omega) | exact absurd True.intro hc | conv => whnf))) | ((with_reducible refine And.intro True.intro ?_); conv => whnf) | ((with_reducible refine grd_and ?_); refine And.intro (hi) ?_; conv => whnf) | ((with_reducible refine grd_and ?_); refine And.intro (hi1) ?_; conv => whnf) | (((with_reducible refine idxP_mk (k := i - 1) ?hh ?_); (case hh => exact e1)); conv => whnf) | ((with_reducible refine And.intro ?hh ?_); (case hh => exact condA); conv => whnf) | fail))
        all_goals first | (exfalso; omega) | exact ⟨i + 1, [], by omega, ⟨by omega, below_succ j2 hok⟩, Back.auto⟩
      · have ey : y = false := by rw [← hy]; exact hf hi (by rw [ho]; exact decide_eq_false (fun hc => hw (hc h0)))
        subst ey
        rw [Bool.false_and]
        (conv => whnf); (repeat' (first | ((with_reducible refine ifb_mk (fun hc => ?_) (fun hc => ?_)) <;> ((try simp only [decide_eq_true_eq, decide_eq_false_iff_not, Bool.not_eq_true', Bool.not_eq_false', Int.not_lt, Int.not_le, ne_eq, Decidable.not_not, beq_iff_eq, List.cons.injEq, and_true] at hc); (first | (exfalso; omega) | exact absurd True.intro hc | conv => whnf))) | ((with_reducible refine And.intro True.intro ?_); conv => whnf) | ((with_reducible refine grd_and ?_); refine And.intro (hi) ?_; conv => whnf) | ((with_reducible refine grd_and ?_); refine And.intro (hi1) ?_; conv => whnf) | (((with_reducible refine idxP_mk (k := i - 1) ?hh ?_); (case hh => exact e1)); conv => whnf) | ((with_reducible refine And.intro ?hh ?_); (case hh => exact condA); conv => whnf) | fail))
        all_goals first | (refine ⟨[], ?_, rfl, rfl, trivial, trivs⟩; simp only [renV, renL]; (first | done | rfl | (simp; done) | (simp; omega) | grind)) | (exfalso; omega)
    · have hok : od i = true := by rw [ho]; exact decide_eq_true fun hc => absurd hc h0
      (conv => whnf); (repeat' (first | ((with_reducible refine ifb_mk (fun hc => ?_) (fun hc => ?_)) <;> ((try simp only [decide_eq_true_eq, decide_eq_false_iff_not, Bool.not_eq_true', Bool.not_eq_false', Int.not_lt, Int.not_le, ne_eq, Decidable.not_not, beq_iff_eq, List.cons.injEq, and_true] at hc); (first | (exfalso; omega) | exact absurd True.intro hc | conv => whnf))) | ((with_reducible refine And.intro True.intro ?_); conv => whnf) | ((with_reducible refine grd_and ?_); refine And.intro (hi) ?_; conv => whnf) | ((with_reducible refine And.intro ?hh ?_); (case hh => exact condA); conv => whnf) | fail))
      all_goals first | (exfalso; omega) | exact ⟨i + 1, [], by omega, ⟨by omega, below_succ j2 hok⟩, Back.auto⟩
  · have ey : y = true := by rw [← hy]; exact ht fun j hj => j2 j (by omega)
    subst ey
    rw [Bool.true_and]
    (conv => whnf); (repeat' (first | ((with_reducible refine ifb_mk (fun hc => ?_) (fun hc => ?_)) <;> ((try simp only [decide_eq_true_eq, decide_eq_false_iff_not, Bool.not_eq_true', Bool.not_eq_false', Int.not_lt, Int.not_le, ne_eq, Decidable.not_not, beq_iff_eq, List.cons.injEq, and_true] at hc); (first | (exfalso; omega) | exact absurd True.intro hc | conv => whnf))) | ((with_reducible refine And.intro True.intro ?_); conv => whnf) | ((with_reducible refine grd_and ?_); refine And.intro (hi) ?_; conv => whnf) | ((with_reducible refine CallX.all ?_); refine CallW.of_ok (kW _) ?_; conv => whnf) | ((with_reducible refine And.intro ?hh ?_); (case hh => exact condA); conv => whnf) | fail))
    all_goals first | (refine ⟨[], ?_, rfl, rfl, trivial, trivs⟩; simp only [renV, renL]; (first | done | rfl | (simp; done) | (simp; omega) | grind)) | (exfalso; omega)
end Go.Proofs.K
