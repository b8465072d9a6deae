/- What the functions answer that the laws call, one after another (Alk). -/
import Derived.Test.YtjkgnkhbbnmgbaaAs6
import Derived.Test.YtjkgnkhbbnmgbaaLst
import Derived.Test.YtjkgnkhbbnmgbaaMv

set_option linter.unusedVariables false
namespace Go.Proofs.P
open Go.As
set_option maxRecDepth 20000
set_option linter.unusedVariables false
set_option linter.unusedSimpArgs false

/-! ### Plates that are alike -/

theorem c3_anti (a b : Int) : c3 b a = - c3 a b := by
  unfold c3
  by_cases h1 : a < b <;> by_cases h2 : b < a <;> simp [h1, h2] <;> omega
theorem lexC_anti : ∀ A B : List Int, lexC B A = - lexC A B
  | a :: A, b :: B => by
    unfold lexC
    rw [c3_anti a b]
    by_cases h : c3 a b = 0
    · rw [if_pos (by omega), if_pos h]; exact lexC_anti A B
    · rw [if_neg (by omega), if_neg h]
  | [], [] => rfl
  | [], _ :: _ => rfl
  | _ :: _, [] => rfl
theorem c3_zero {a b : Int} (h : c3 a b = 0) : a = b := by
  unfold c3 at h
  split at h
  · omega
  · split at h
    · omega
    · omega
theorem c3_neg {a b : Int} : c3 a b < 0 ↔ a < b := by
  unfold c3
  split
  · omega
  · split <;> omega
theorem lexC_eq : ∀ {A B : List Int}, A.length = B.length → lexC A B = 0 → A = B
  | a :: A, b :: B, hl, h => by
    unfold lexC at h
    by_cases h0 : c3 a b = 0
    · rw [if_pos h0] at h
      rw [c3_zero h0, lexC_eq (by simpa using hl) h]
    · rw [if_neg h0] at h; exact absurd h h0
  | [], [], _, _ => rfl
  | [], _ :: _, hl, _ => by cases hl
  | _ :: _, [], hl, _ => by cases hl
theorem lexC_trans : ∀ {A B C : List Int}, B.length = C.length → lexC A B < 0 → lexC B C ≤ 0 → lexC A C < 0
  | a :: A, b :: B, c :: C, hl, h1, h2 => by
    unfold lexC at h1 h2 ⊢
    by_cases h3 : c3 a b = 0
    · have e := c3_zero h3
      subst e
      rw [if_pos h3] at h1
      by_cases h4 : c3 a c = 0
      · rw [if_pos h4] at h2 ⊢
        exact lexC_trans (by simpa using hl) h1 h2
      · rw [if_neg h4] at h2 ⊢; omega
    · rw [if_neg h3] at h1
      have g1 := c3_neg.1 h1
      have g2 : b ≤ c := by
        by_cases h4 : c3 b c = 0
        · have := c3_zero h4; omega
        · rw [if_neg h4] at h2
          have := c3_neg.1 (show c3 b c < 0 by omega)
          omega
      have g3 : c3 a c < 0 := c3_neg.2 (by omega)
      rw [if_neg (by omega)]; exact g3
  | [], _, _, _, h1, _ => by unfold lexC at h1; omega
  | _ :: _, [], _, _, h1, _ => by unfold lexC at h1; omega
  | _ :: _, _ :: _, [], hl, _, _ => by cases hl
theorem lst_min {n : Nat} {B : List Bool} {D : List Int} (h0 : B.getD 0 false = true) : ∀ i, B.getD (lst n B D i) false = true ∧ ∀ j, j < i → B.getD j false = true → lexC (movL n (lst n B D i) D) (movL n j D) ≤ 0
  | 0 => ⟨h0, fun j hj => by omega⟩
  | i + 1 => by
    obtain ⟨g1, g2⟩ := lst_min (n := n) (D := D) h0 i
    by_cases hc : B.getD i false = true ∧ lexC (movL n i D) (movL n (lst n B D i) D) < 0
    · have e : lst n B D (i + 1) = i := by show ite _ _ _ = i; exact if_pos hc
      rw [e]
      refine ⟨hc.1, fun j hj hb => ?_⟩
      rcases Nat.lt_or_ge j i with h | h
      · have := lexC_trans (by rw [movL_len, movL_len]) hc.2 (g2 j h hb)
        omega
      · have : j = i := by omega
        subst this
        rw [lexC_self]; exact Int.le_refl _
    · have e : lst n B D (i + 1) = lst n B D i := by show ite _ _ _ = _; exact if_neg hc
      rw [e]
      refine ⟨g1, fun j hj hb => ?_⟩
      rcases Nat.lt_or_ge j i with h | h
      · exact g2 j h hb
      · have : j = i := by omega
        subst this
        have : ¬ lexC (movL n j D) (movL n (lst n B D j) D) < 0 := fun h => hc ⟨hb, h⟩
        rw [lexC_anti] at this
        omega
theorem lst_le {n : Nat} {B : List Bool} {D : List Int} (hg : Grp B) {j : Nat} (hj : j < 8) (hb : B.getD j false = true) : lexC (movL n (lst n B D 8) D) (movL n j D) ≤ 0 := (lst_min hg.zero 8).2 j hj hb
theorem lst_in {n : Nat} {B : List Bool} {D : List Int} (hg : Grp B) : B.getD (lst n B D 8) false = true := (lst_min hg.zero 8).1
theorem least_eq {n a : Nat} {B : List Bool} {D : List Int} (hg : Grp B) (hn : n ≤ 8) (ha : a < 8) (hb : B.getD a false = true) (hD : D.length = n * n) :
    movL n (lst n B (movL n a D) 8) (movL n a D) = movL n (lst n B D 8) D := by
  have hE : (movL n a D).length = n * n := by rw [movL_len]; exact hD
  have i1 := lst_in (n := n) (D := D) hg
  have i2 := lst_in (n := n) (D := movL n a D) hg
  have l1 := lst_lt n B D 8 (Nat.le_refl _)
  have l2 := lst_lt n B (movL n a D) 8 (Nat.le_refl _)
  have e1 : lexC (movL n (lst n B D 8) D) (movL n (lst n B (movL n a D) 8) (movL n a D)) ≤ 0 := by
    rw [mov_mov hn ha l2 hD]
    exact lst_le hg (aft_lt ha l2) (hg.aft _ _ ha l2 hb i2)
  have e3 : movL n (lst n B D 8) D = movL n (aftN (invN a) (lst n B D 8)) (movL n a D) := by
    rw [← mov_mov hn (inv_lt ha) l1 hE, mov_mov hn ha (inv_lt ha) hD, (aft_inv ha).1, mov_zero]
  have e2 : lexC (movL n (lst n B (movL n a D) 8) (movL n a D)) (movL n (lst n B D 8) D) ≤ 0 := by
    rw [e3]
    exact lst_le hg (aft_lt (inv_lt ha) l1) (hg.aft _ _ (inv_lt ha) l1 (hg.inv _ ha hb) i1)
  rw [lexC_anti] at e2
  exact (lexC_eq (by rw [movL_len, movL_len, movL_len]) (by omega)).symm
theorem least_to {n : Nat} {B : List Bool} {D E : List Int} (hg : Grp B) (hn : n ≤ 8) (hD : D.length = n * n) (hE : E.length = n * n) (h : movL n (lst n B D 8) D = movL n (lst n B E 8) E) : ∃ a, a < 8 ∧ B.getD a false = true ∧ movL n a D = E := by
  have l1 := lst_lt n B D 8 (Nat.le_refl _)
  have l2 := lst_lt n B E 8 (Nat.le_refl _)
  refine ⟨aftN (lst n B D 8) (invN (lst n B E 8)), aft_lt l1 (inv_lt l2), hg.aft _ _ l1 (inv_lt l2) (lst_in hg) (hg.inv _ l2 (lst_in hg)), ?_⟩
  rw [← mov_mov hn l1 (inv_lt l2) hD, h, mov_mov hn l2 (inv_lt l2) hE, (aft_inv l2).1, mov_zero]
theorem lst_lst {n : Nat} {B : List Bool} {D : List Int} (hg : Grp B) (hn : n ≤ 8) (hD : D.length = n * n) : ∀ i, i ≤ 8 → lst n B (movL n (lst n B D 8) D) i = 0
  | 0, _ => rfl
  | i + 1, hi => by
    have l1 := lst_lt n B D 8 (Nat.le_refl _)
    have ih := lst_lst hg hn hD i (by omega)
    show ite _ _ _ = 0
    rw [ih]
    refine if_neg fun h => ?_
    obtain ⟨hb, hc⟩ := h
    rw [mov_zero, mov_mov hn l1 (by omega) hD, lexC_anti] at hc
    have := lst_le (n := n) (D := D) hg (aft_lt l1 (show i < 8 by omega)) (hg.aft _ _ l1 (by omega) (lst_in hg) hb)
    omega

/-- the first motion that is reached and comes to the other plate -/
def cfB (n n2 : Nat) (B : List Bool) (D E : List Int) (i : Nat) : Bool := B.getD i false && comB n n2 i D E
def fnB (c : Nat → Bool) : Nat → Bool
  | 0 => false
  | i + 1 => fnB c i || c i
def fsN (c : Nat → Bool) : Nat → Nat
  | 0 => 0
  | i + 1 => if fnB c i = true then fsN c i else if c i = true then i else 0
theorem fs_in (c : Nat → Bool) : ∀ i, fnB c i = true → fsN c i < i ∧ c (fsN c i) = true
  | 0, h => by cases h
  | i + 1, h => by
    by_cases h1 : fnB c i = true
    · have e : fsN c (i + 1) = fsN c i := if_pos h1
      rw [e]
      have := fs_in c i h1
      exact ⟨by omega, this.2⟩
    · have h2 : c i = true := by
        have : (fnB c i || c i) = true := h
        rw [Bool.or_eq_true] at this
        exact this.resolve_left h1
      have e : fsN c (i + 1) = i := by show ite _ _ (ite _ _ _) = i; rw [if_neg h1, if_pos h2]
      rw [e]
      exact ⟨by omega, h2⟩
theorem fs_none (c : Nat → Bool) : ∀ i, fnB c i = false → fsN c i = 0 ∧ ∀ j, j < i → c j = false
  | 0, _ => ⟨rfl, fun j hj => by omega⟩
  | i + 1, h => by
    have h' : (fnB c i || c i) = false := h
    rw [Bool.or_eq_false_iff] at h'
    have ih := fs_none c i h'.1
    refine ⟨by show ite _ _ (ite _ _ _) = 0; rw [if_neg (by rw [h'.1]; decide), if_neg (by rw [h'.2]; decide)], fun j hj => ?_⟩
    rcases Nat.lt_or_ge j i with h | h
    · exact ih.2 j h
    · have : j = i := by omega
      subst this; exact h'.2
theorem cf_yes {n n2 i : Nat} {B : List Bool} {D E : List Int} (hn : n ≤ 8) (hi : i < 8) (hD : D.length = n * n) (hE : E.length = n2 * n2) (h : cfB n n2 B D E i = true) : n = n2 ∧ B.getD i false = true ∧ movL n i D = E := by
  unfold cfB at h
  rw [Bool.and_eq_true] at h
  by_cases hnn : n = n2
  · subst hnn
    have h2 := h.2
    rw [comB_eq hn hi hD hE, decide_eq_true_eq] at h2
    exact ⟨rfl, h.1, h2⟩
  · have h2 := h.2
    unfold comB at h2
    rw [decide_eq_false hnn, Bool.false_and] at h2
    cases h2
theorem cf_of {n i : Nat} {B : List Bool} {D E : List Int} (hn : n ≤ 8) (hi : i < 8) (hD : D.length = n * n) (hE : E.length = n * n) (hb : B.getD i false = true) (h : movL n i D = E) : cfB n n B D E i = true := by
  unfold cfB
  rw [hb, Bool.true_and, comB_eq hn hi hD hE, decide_eq_true_eq]
  exact h
/-- alike means that the least ones are the same -/
theorem alike_iff {n n2 : Nat} {B : List Bool} {D E : List Int} (hg : Grp B) (hn : n ≤ 8) (hD : D.length = n * n) (hE : E.length = n2 * n2) :
    fnB (cfB n n2 B D E) 8 = (decide ((n : Int) = n2) && decide (movL n (lst n B D 8) D = movL n2 (lst n2 B E 8) E)) := by
  cases h : fnB (cfB n n2 B D E) 8 with
  | true =>
    obtain ⟨h1, h2⟩ := fs_in _ 8 h
    obtain ⟨rfl, h3, h4⟩ := cf_yes hn h1 hD hE h2
    have := least_eq hg hn h1 h3 hD
    rw [h4] at this
    rw [decide_eq_true rfl, decide_eq_true this.symm]; rfl
  | false =>
    have hN := (fs_none _ 8 h).2
    by_cases hnn : n = n2
    · subst hnn
      rw [decide_eq_true rfl, Bool.true_and]
      refine (decide_eq_false fun he => ?_).symm
      obtain ⟨a, h1, h2, h3⟩ := least_to hg hn hD hE he
      have := cf_of hn h1 hD hE h2 h3
      rw [hN a h1] at this
      cases this
    · rw [decide_eq_false (by omega), Bool.false_and]
theorem alike_mov {n a : Nat} {B : List Bool} {D : List Int} (hg : Grp B) (hn : n ≤ 8) (ha : a < 8) (hb : B.getD a false = true) (hD : D.length = n * n) : fnB (cfB n n B (movL n a D) D) 8 = true := by
  rw [alike_iff hg hn (by rw [movL_len]; exact hD) hD, least_eq hg hn ha hb hD, decide_eq_true rfl, decide_eq_true rfl]; rfl
end Go.Proofs.P

namespace Go.Proofs.P
open Go.As
set_option maxRecDepth 20000
set_option linter.unusedVariables false
set_option linter.unusedSimpArgs false

theorem viewMc3 {h : H} {l1 l2 l3 : List V} {o1 o2 o3} (b1 : ∀ v ∈ l1, bare0 v = true) (h1 : Vw1 h l1 o1) (b2 : ∀ v ∈ l2, bare0 v = true) (h2 : Vw1 h l2 o2) (b3 : ∀ v ∈ l3, bare0 v = true) (h3 : Vw1 h l3 o3) :
    ViewM h [o1, o2, o3] [.cells (ofL l1 0) false none, .cells (ofL l2 0) false none, .cells (ofL l3 0) false none] :=
  viewM_of ⟨viewM1 b1 h1, viewM1 b2 h2, viewM1 b3 h3, trivial⟩ (fun k k' j o o' hk hk' ⟨es, c, hg⟩ => by
    match k with
    | 0 => simp at hk; exact (h1.noMap hk hg).elim
    | 1 => simp at hk; exact (h2.noMap hk hg).elim
    | 2 => simp at hk; exact (h3.noMap hk hg).elim
    | k + 3 => simp at hk)

set_option maxHeartbeats 8000000 in
theorem alikeP_ok (h : H) (n n2 : Nat) (hn : 1 ≤ n ∧ n ≤ 8) (hn2 : 1 ≤ n2 ∧ n2 ≤ 8) (D E : List Int) (hD : D.length = n * n) (hE : E.length = n2 * n2) (hw : wi 0 3 D = true) (hw2 : wi 0 3 E = true)
    (b1 o1 c1 : Nat) (e1 : Bool) (hs1 : SlC h (iVs D) D.length (.sl b1 o1 D.length c1 e1)) (b2 o2 c2 : Nat) (e2 : Bool) (hs2 : SlC h (iVs E) E.length (.sl b2 o2 E.length c2 e2)) (K : List Int) (Kn : List Nat) (hK : Kd K Kn) (hk : akB (-1) K = true) (kv : V) (hkv : SlC h (iVs K) K.length kv) :
    CallOk Try.prog 45 [plateV n (.sl b1 o1 D.length c1 e1), plateV n2 (.sl b2 o2 E.length c2 e2), kv] h (.tup [.int .i64 (fsN (cfB n n2 (reachB Kn) D E) 8 : Nat), .int .i64 (if fnB (cfB n n2 (reachB Kn) D E) 8 = true then 0 else 5)]) h := by
  obtain ⟨v1, s1, q1, ca1, w1⟩ := hs1.view 0
  obtain ⟨v2, s2, q2, ca2, w2⟩ := hs2.view 1
  obtain ⟨v3, s3, q3, ca3, w3⟩ := hkv.view 2
  have hN : 1 ≤ D.length ∧ D.length ≤ 64 := by
    rw [hD]
    have h1 : 1 * 1 ≤ n * n := Nat.mul_le_mul hn.1 hn.1
    have h2 : n * n ≤ 8 * 8 := Nat.mul_le_mul hn.2 hn.2
    omega
  have hN2 : 1 ≤ E.length ∧ E.length ≤ 64 := by
    rw [hE]
    have h1 : 1 * 1 ≤ n2 * n2 := Nat.mul_le_mul hn2.1 hn2.1
    have h2 : n2 * n2 ≤ 8 * 8 := Nat.mul_le_mul hn2.2 hn2.2
    omega
  obtain ⟨cp1, ex1, rfl⟩ : ∃ cap ex, s1 = .sl 0 0 D.length cap ex := by
    cases q1 with
    | nil h0 => omega
    | sl => exact ⟨_, _, rfl⟩
  obtain ⟨cp2, ex2, rfl⟩ : ∃ cap ex, s2 = .sl 1 0 E.length cap ex := by
    cases q2 with
    | nil h0 => omega
    | sl => exact ⟨_, _, rfl⟩
  have hB1 := @iVs_bare D
  have hB2 := @iVs_bare E
  have hB3 := @iVs_bare K
  have hlr := reachB_len hK hk
  have kR := fun h' kv hs' => reachedFor_ok h' K Kn hK hk kv hs'
  have kcl : K.length ≤ 8 := by have := hK.len; rw [hK.eq, List.length_map]; omega
  generalize reachB Kn = B at *
  obtain ⟨t0, t1, t2, t3, t4, t5, t6, t7, rfl⟩ := ex8 hlr
  obtain ⟨c, hcdef⟩ : ∃ c, cfB n n2 [t0, t1, t2, t3, t4, t5, t6, t7] D E = c := ⟨_, rfl⟩
  have kc : ∀ i, c i = ([t0, t1, t2, t3, t4, t5, t6, t7].getD i false && comB n n2 i D E) := fun i => by rw [← hcdef]; rfl
  rw [hcdef]
  clear hcdef
  have kF : ∀ i, fnB c (i + 1) = (fnB c i || c i) := fun i => rfl
  have kS : ∀ i, fsN c (i + 1) = if fnB c i = true then fsN c i else if c i = true then i else 0 := fun i => rfl
  have kI := fs_in c
  have kF0 : fnB c 0 = false := rfl
  have kS0 : fsN c 0 = 0 := rfl
  have kN : ∀ i, fnB c i = false → fsN c i = 0 := fun i h => (fs_none c i h).1
  generalize fnB c = F at *
  generalize fsN c = G at *
  obtain ⟨m8, hm8⟩ : ∃ m, G 8 = m := ⟨_, rfl⟩
  obtain ⟨f8, hf8⟩ : ∃ m, F 8 = m := ⟨_, rfl⟩
  rw [hm8, hf8]
  refine CallOk.run Try.func45 rfl rfl (argsC := [plateV n (.sl 0 0 D.length cp1 ex1), plateV n2 (.sl 1 0 E.length cp2 ex2), s3]) (Nat.le_of_ble_eq_true rfl) [v1, v2, v3] (.cons (CaL.agg (.cons (.bare rfl) (.cons (ca1 _ rfl) .nil))) (.cons (CaL.agg (.cons (.bare rfl) (.cons (ca2 _ rfl) .nil))) (.cons (ca3 _ rfl) .nil))) (viewMc3 hB1 w1 hB2 w2 hB3 w3) rfl (WpR.of_vc ?_)
  cases q3
  all_goals
    (conv => whnf); (repeat' (first | ((with_reducible refine ifb_mk (fun hc => ?_) (fun hc => ?_)) <;> ((try simp only [decide_eq_true_eq, decide_eq_false_iff_not, Bool.not_eq_true', Bool.not_eq_false', Int.not_lt, Int.not_le, ne_eq, Decidable.not_not, beq_iff_eq, List.cons.injEq, and_true] at hc); (first | (exfalso; omega) | conv => whnf))) | ((with_reducible refine And.intro True.intro ?_); conv => whnf) | ((with_reducible refine CallX.all ?_); refine tableFor_new _ n hn D hD hw 0 0 cp1 ex1 (SlC.own rfl) ?_; conv => whnf) | ((with_reducible refine CallX.all ?_); refine tableFor_new _ n2 hn2 E hE hw2 1 0 cp2 ex2 (SlC.own rfl) ?_; conv => whnf) | ((with_reducible refine CallX.all ?_); refine CallW.of_ok (kR _ _ (by first | exact SlC.own rfl | exact iNil (by omega))) ?_; conv => whnf) | ((with_reducible refine CallX.all (f := 65) ?_); refine CallW.inline Try.func65 rfl rfl (Nat.le_of_ble_eq_true rfl) (WpR.of_vc ?_); conv => whnf) | ((with_reducible refine CallX.all (f := 87) ?_); refine CallW.inline Try.func87 rfl rfl (Nat.le_of_ble_eq_true rfl) (WpR.of_vc ?_); conv => whnf) | ((with_reducible refine RangeX.all ?_); conv => whnf) | ((with_reducible refine CallW.inline (f := 101) Try.func101 rfl rfl (Nat.le_of_ble_eq_true rfl) (WpR.of_vc ?_)); conv => whnf) | ((with_reducible refine And.intro ?hh ?_); (case hh => (unfold InR; (try dsimp only); omega)); conv => whnf) | ((with_reducible refine And.intro ?hh ?_); (case hh => ((try dsimp only); omega)); conv => whnf) | ((with_reducible refine And.intro ?hh ?_); (case hh => ((conv => whnf); (repeat' (first | exact True.intro | rfl | refine And.intro ?_ ?_)); done)); conv => whnf) | fail))
    · have hMap : ∀ i : Nat, ltB 16 (.cells (ofL [.int .i64 (G i : Nat)] 0) true none) := fun i => ltB_ofL (fun v hv => by rw [List.mem_singleton] at hv; subst hv; rfl)
      have hMap2 : ∀ i : Nat, ltB 16 (.cells (ofL [.bool (F i)] 0) true none) := fun i => ltB_ofL (fun v hv => by rw [List.mem_singleton] at hv; subst hv; rfl)
      have hMm : ltB 16 (.map (esP n D (nzL D)) D.length) := ltB_esP
      have hMm2 : ltB 16 (.map (esP n2 E (nzL E)) E.length) := ltB_esP
      have hbi0 : ∀ (i : Nat), ∀ v ∈ [V.int .i64 (G i : Nat)], bare0 v = true := fun i v hv => by rw [List.mem_singleton] at hv; subst hv; rfl
      have hbb : ∀ (b : Bool), ∀ v ∈ [V.bool b], bare0 v = true := fun i v hv => by rw [List.mem_singleton] at hv; subst hv; rfl
      have hq1 : SubQ (rho []) (.cells (ofL [.int .i64 (G 0 : Nat)] 0) true none) (.cells (ofL [.int .i64 0] 0) true none) := by rw [kS0]; exact SubQ.ofL rfl (fun v hv => by rw [List.mem_singleton] at hv; subst hv; rfl) (.inl rfl)
      have hq2 : SubQ (rho []) (.cells (ofL [.bool (F 0)] 0) true none) (.cells (ofL [.bool false] 0) true none) := by rw [kF0]; exact SubQ.ofL rfl (fun v hv => by rw [List.mem_singleton] at hv; subst hv; rfl) (.inl rfl)
      refine WpR.loopD (ι := Nat) [] [0, 1] [12, 13] [] 16 (fun i => [(4, .int .i64 i)]) (fun i => [(12, .cells (ofL [.int .i64 (G i : Nat)] 0) true none), (13, .cells (ofL [.bool (F i)] 0) true none)]) (fun i => 8 - i) (fun i => i ≤ 8) ?_ (0) (Nat.zero_le _) [] ⟨rfl, rfl, (by (repeat' (first | exact True.intro | rfl | refine And.intro ?_ ?_))), (by (repeat' (first | exact True.intro | rfl | refine And.intro ?_ ?_))), (by (repeat' (first | exact True.intro | rfl | refine And.intro ?_ ?_))), ⟨.inr ⟨_, rfl, hq1⟩, ⟨.inr ⟨_, rfl, hq2⟩, trivial⟩⟩, rfl, rfl⟩ rfl rfl rfl (fun _ => rfl) (by (repeat' (first | exact True.intro | refine And.intro ?_ ?_ | exact avV_nil _ | rfl))) (by (repeat' (first | exact True.intro | (with_reducible exact avB_nil _) | ((with_reducible refine avB_all ?_); rfl) | ((with_reducible refine avB_ofLb ?_); exact (by first | exact bare0_ints | assumption | exact bVs_bare | exact iVs_bare | exact mVs_bare | (intro v hv; (repeat (rcases List.mem_cons.1 hv with rfl | hv; exact rfl)); cases hv))) | ((with_reducible refine ltB_all ?_); rfl) | ((with_reducible refine ltB_ofLb ?_); exact (by first | exact bare0_ints | assumption | exact bVs_bare | exact iVs_bare | exact mVs_bare | (intro v hv; (repeat (rcases List.mem_cons.1 hv with rfl | hv; exact rfl)); cases hv))) | ((with_reducible refine ltB_loop ?_ ?_) <;> rfl) | (with_reducible exact hMap _) | (with_reducible exact hMap2 _) | (with_reducible exact ltB_encL) | (with_reducible exact ltB_map0) | ((with_reducible refine grB_lt ?_ _); exact (by first | exact bare0_ints | assumption | exact bVs_bare | exact iVs_bare | exact mVs_bare | (intro v hv; (repeat (rcases List.mem_cons.1 hv with rfl | hv; exact rfl)); cases hv))) | (with_reducible assumption) | refine And.intro ?_ ?_ | exact (by first | exact True.intro | exact ltB_all rfl | exact ltB_ofLb (by first | exact bare0_ints | assumption | exact bVs_bare | exact iVs_bare | exact mVs_bare | (intro v hv; (repeat (rcases List.mem_cons.1 hv with rfl | hv; exact rfl)); cases hv)) | exact ltB_loop rfl rfl | exact hMap _ | exact hMap2 _ | exact grB_lt (by first | exact bare0_ints | assumption | exact bVs_bare | exact iVs_bare | exact mVs_bare | (intro v hv; (repeat (rcases List.mem_cons.1 hv with rfl | hv; exact rfl)); cases hv)) _ | exact ltB_encL | exact ltB_map0 | assumption)))) (fun _ _ => (by (repeat' (first | exact True.intro | rfl | refine And.intro ?_ ?_ | exact (by decide) | exact (by first | exact True.intro | exact hMap _ | exact hMap2 _ | exact grB_lt (by first | exact bare0_ints | assumption | exact bVs_bare | exact iVs_bare | exact mVs_bare | (intro v hv; (repeat (rcases List.mem_cons.1 hv with rfl | hv; exact rfl)); cases hv)) _ | exact ltB_all rfl | exact ltB_ofLb (by first | exact bare0_ints | assumption | exact bVs_bare | exact iVs_bare | exact mVs_bare | (intro v hv; (repeat (rcases List.mem_cons.1 hv with rfl | hv; exact rfl)); cases hv)) | exact ltB_loop rfl rfl | exact ltB_encL | exact ltB_map0 | assumption))))) (fun _ _ => (by (repeat' (first | exact True.intro | rfl | refine And.intro ?_ ?_ | exact (by decide) | exact (by first | exact True.intro | exact hMap _ | exact hMap2 _ | exact grB_lt (by first | exact bare0_ints | assumption | exact bVs_bare | exact iVs_bare | exact mVs_bare | (intro v hv; (repeat (rcases List.mem_cons.1 hv with rfl | hv; exact rfl)); cases hv)) _ | exact ltB_all rfl | exact ltB_ofLb (by first | exact bare0_ints | assumption | exact bVs_bare | exact iVs_bare | exact mVs_bare | (intro v hv; (repeat (rcases List.mem_cons.1 hv with rfl | hv; exact rfl)); cases hv)) | exact ltB_loop rfl rfl | exact ltB_encL | exact ltB_map0 | assumption))))) (fun _ _ => (by (repeat' (first | exact True.intro | rfl | refine And.intro ?_ ?_)))) rfl
      rintro i i1
      refine WpR.of_vc ?_
      by_cases hi : i < 8
      · obtain ⟨bi, hbi⟩ : ∃ bi, [t0, t1, t2, t3, t4, t5, t6, t7][i]? = some bi := ⟨_, List.getElem?_eq_getElem hi⟩
        have kH := fun h' => has8_ok h' [t0, t1, t2, t3, t4, t5, t6, t7] rfl i bi hbi
        have kci := kc i
        rw [List.getD_eq_getElem?_getD, hbi] at kci
        have kCo := fun h' hs1 hs2 hj hj2 => comesTo_ok h' n n2 i hn hn2 hi D E hD hE (iVs D) (iVs E) iVs_bare iVs_bare 0 0 cp1 ex1 1 0 cp2 ex2 hs1 hs2 5 7 (by decide) hj hj2
        generalize comB n n2 i D E = cb at *
        have stay : c i = false → F (i + 1) = F i ∧ G (i + 1) = G i := fun h => by
          rw [kF, kS, h, Bool.or_false]
          refine ⟨rfl, ?_⟩
          cases hF : F i with
          | true => exact if_pos rfl
          | false => rw [kN i hF]; rfl
        cases bi with
        | false =>
          obtain ⟨eF, eG⟩ := stay kci
          (conv => whnf); (repeat' (first | ((with_reducible refine ifb_mk (fun hc => ?_) (fun hc => ?_)) <;> ((try simp only [decide_eq_true_eq, decide_eq_false_iff_not, Bool.not_eq_true', Bool.not_eq_false', Int.not_lt, Int.not_le, ne_eq, Decidable.not_not, beq_iff_eq, List.cons.injEq, and_true] at hc); (first | (exfalso; omega) | conv => whnf))) | ((with_reducible refine And.intro True.intro ?_); conv => whnf) | ((with_reducible refine CallX.all (f := 91) ?_); refine CallW.inline Try.func91 rfl rfl (Nat.le_of_ble_eq_true rfl) (WpR.of_vc ?_); conv => whnf) | ((with_reducible refine CallX.all ?_); refine CallW.of_ok (kH _) ?_; conv => whnf) | ((with_reducible refine And.intro ?hh ?_); (case hh => (unfold InR; (try dsimp only); omega)); conv => whnf) | ((with_reducible refine And.intro ?hh ?_); (case hh => ((try dsimp only); omega)); conv => whnf) | ((with_reducible refine And.intro ?hh ?_); (case hh => ((conv => whnf); (repeat' (first | exact True.intro | rfl | refine And.intro ?_ ?_)); done)); conv => whnf) | fail))
          exact ⟨i + 1, [], by omega, by omega, ⟨rfl, rfl, (by (repeat' (first | exact True.intro | rfl | refine And.intro ?_ ?_))), (by (repeat' (first | exact True.intro | rfl | refine And.intro ?_ ?_))), (by (repeat' (first | exact True.intro | rfl | refine And.intro ?_ ?_))), ⟨.inr ⟨_, rfl, SubQ.ofL (by rw [eG]) (hbi0 _) (.inl rfl)⟩, ⟨.inr ⟨_, rfl, SubQ.ofL (by rw [eF]) (hbb _) (.inl rfl)⟩, trivial⟩⟩, rfl, rfl⟩⟩
        | true =>
          have kci2 : c i = cb := kci
          cases cb with
          | false =>
            obtain ⟨eF, eG⟩ := stay kci2
            (conv => whnf); (repeat' (first | ((with_reducible refine ifb_mk (fun hc => ?_) (fun hc => ?_)) <;> ((try simp only [decide_eq_true_eq, decide_eq_false_iff_not, Bool.not_eq_true', Bool.not_eq_false', Int.not_lt, Int.not_le, ne_eq, Decidable.not_not, beq_iff_eq, List.cons.injEq, and_true] at hc); (first | (exfalso; omega) | conv => whnf))) | ((with_reducible refine And.intro True.intro ?_); conv => whnf) | ((with_reducible refine CallX.all (f := 91) ?_); refine CallW.inline Try.func91 rfl rfl (Nat.le_of_ble_eq_true rfl) (WpR.of_vc ?_); conv => whnf) | ((with_reducible refine CallX.all ?_); refine CallW.of_ok (kH _) ?_; conv => whnf) | ((with_reducible refine CallX.all ?_); refine CallW.of_ok (kCo _ (SlC.own rfl) (SlC.own rfl) rfl rfl) ?_; conv => whnf) | ((with_reducible refine And.intro ?hh ?_); (case hh => (unfold InR; (try dsimp only); omega)); conv => whnf) | ((with_reducible refine And.intro ?hh ?_); (case hh => ((try dsimp only); omega)); conv => whnf) | ((with_reducible refine And.intro ?hh ?_); (case hh => ((conv => whnf); (repeat' (first | exact True.intro | rfl | refine And.intro ?_ ?_)); done)); conv => whnf) | fail))
            exact ⟨i + 1, [], by omega, by omega, ⟨rfl, rfl, (by (repeat' (first | exact True.intro | rfl | refine And.intro ?_ ?_))), (by (repeat' (first | exact True.intro | rfl | refine And.intro ?_ ?_))), (by (repeat' (first | exact True.intro | rfl | refine And.intro ?_ ?_))), ⟨.inr ⟨_, rfl, SubQ.ofL (by rw [eG]) (hbi0 _) (.inl rfl)⟩, ⟨.inr ⟨_, rfl, SubQ.ofL (by rw [eF]) (hbb _) (.inl rfl)⟩, trivial⟩⟩, rfl, rfl⟩⟩
          | true =>
            cases hF : F i with
            | true =>
              have eF : F (i + 1) = true := by rw [kF, hF]; rfl
              have eG : G (i + 1) = G i := by rw [kS, hF]; exact if_pos rfl
              have hlt := (kI i hF).1
              have kCm := fun h' => compare_ok h' i (G i)
              have e1 : c3 (i : Int) (G i : Nat) = 1 := by unfold c3; rw [if_neg (by omega), if_pos (by omega)]
              rw [e1] at kCm
              (conv => whnf); (repeat' (first | ((with_reducible refine ifb_mk (fun hc => ?_) (fun hc => ?_)) <;> ((try simp only [decide_eq_true_eq, decide_eq_false_iff_not, Bool.not_eq_true', Bool.not_eq_false', Int.not_lt, Int.not_le, ne_eq, Decidable.not_not, beq_iff_eq, List.cons.injEq, and_true] at hc); (first | (exfalso; omega) | conv => whnf))) | ((with_reducible refine And.intro True.intro ?_); conv => whnf) | ((with_reducible refine CallX.all (f := 91) ?_); refine CallW.inline Try.func91 rfl rfl (Nat.le_of_ble_eq_true rfl) (WpR.of_vc ?_); conv => whnf) | ((with_reducible refine CallX.all ?_); refine CallW.of_ok (kH _) ?_; conv => whnf) | ((with_reducible refine CallX.all ?_); refine CallW.of_ok (kCo _ (SlC.own rfl) (SlC.own rfl) rfl rfl) ?_; conv => whnf) | ((with_reducible refine And.intro ?hh ?_); (case hh => (unfold InR; (try dsimp only); omega)); conv => whnf) | ((with_reducible refine And.intro ?hh ?_); (case hh => ((try dsimp only); omega)); conv => whnf) | ((with_reducible refine And.intro ?hh ?_); (case hh => ((conv => whnf); (repeat' (first | exact True.intro | rfl | refine And.intro ?_ ?_)); done)); conv => whnf) | fail))
              refine YldX.all ?_
              refine YldW.inline rfl rfl rfl (WpR.of_vc ?_)
              conv => whnf
              refine ⟨rfl, _, rfl, rfl, WpR.of_vc ?_⟩
              (conv => whnf); (repeat' (first | ((with_reducible refine ifb_mk (fun hc => ?_) (fun hc => ?_)) <;> ((try simp only [decide_eq_true_eq, decide_eq_false_iff_not, Bool.not_eq_true', Bool.not_eq_false', Int.not_lt, Int.not_le, ne_eq, Decidable.not_not, beq_iff_eq, List.cons.injEq, and_true] at hc); (first | (exfalso; omega) | conv => whnf))) | ((with_reducible refine And.intro True.intro ?_); conv => whnf) | ((with_reducible refine CallX.all ?_); refine CallW.of_ok (kCm _) ?_; conv => whnf) | ((with_reducible refine And.intro ?hh ?_); (case hh => (unfold InR; (try dsimp only); omega)); conv => whnf) | ((with_reducible refine And.intro ?hh ?_); (case hh => ((try dsimp only); omega)); conv => whnf) | ((with_reducible refine And.intro ?hh ?_); (case hh => ((conv => whnf); (repeat' (first | exact True.intro | rfl | refine And.intro ?_ ?_)); done)); conv => whnf) | fail))
              refine ⟨_, _, rfl, ?_⟩
              (conv => whnf); (repeat' (first | ((with_reducible refine ifb_mk (fun hc => ?_) (fun hc => ?_)) <;> ((try simp only [decide_eq_true_eq, decide_eq_false_iff_not, Bool.not_eq_true', Bool.not_eq_false', Int.not_lt, Int.not_le, ne_eq, Decidable.not_not, beq_iff_eq, List.cons.injEq, and_true] at hc); (first | (exfalso; omega) | conv => whnf))) | ((with_reducible refine And.intro True.intro ?_); conv => whnf) | ((with_reducible refine And.intro ?hh ?_); (case hh => (unfold InR; (try dsimp only); omega)); conv => whnf) | ((with_reducible refine And.intro ?hh ?_); (case hh => ((try dsimp only); omega)); conv => whnf) | ((with_reducible refine And.intro ?hh ?_); (case hh => ((conv => whnf); (repeat' (first | exact True.intro | rfl | refine And.intro ?_ ?_)); done)); conv => whnf) | fail))
              exact ⟨i + 1, [], by omega, by omega, ⟨rfl, rfl, (by (repeat' (first | exact True.intro | rfl | refine And.intro ?_ ?_))), (by (repeat' (first | exact True.intro | rfl | refine And.intro ?_ ?_))), (by (repeat' (first | exact True.intro | rfl | refine And.intro ?_ ?_))), ⟨.inr ⟨_, rfl, SubQ.ofL (by rw [eG]) (hbi0 _) (.inl rfl)⟩, ⟨.inr ⟨_, rfl, SubQ.ofL (by rw [eF]) (hbb _) (.inl rfl)⟩, trivial⟩⟩, rfl, rfl⟩⟩
            | false =>
              have eF : F (i + 1) = true := by rw [kF, kci2]; exact Bool.or_true _
              have eG : G (i + 1) = i := by rw [kS, hF, kci2]; rfl
              (conv => whnf); (repeat' (first | ((with_reducible refine ifb_mk (fun hc => ?_) (fun hc => ?_)) <;> ((try simp only [decide_eq_true_eq, decide_eq_false_iff_not, Bool.not_eq_true', Bool.not_eq_false', Int.not_lt, Int.not_le, ne_eq, Decidable.not_not, beq_iff_eq, List.cons.injEq, and_true] at hc); (first | (exfalso; omega) | conv => whnf))) | ((with_reducible refine And.intro True.intro ?_); conv => whnf) | ((with_reducible refine CallX.all (f := 91) ?_); refine CallW.inline Try.func91 rfl rfl (Nat.le_of_ble_eq_true rfl) (WpR.of_vc ?_); conv => whnf) | ((with_reducible refine CallX.all ?_); refine CallW.of_ok (kH _) ?_; conv => whnf) | ((with_reducible refine CallX.all ?_); refine CallW.of_ok (kCo _ (SlC.own rfl) (SlC.own rfl) rfl rfl) ?_; conv => whnf) | ((with_reducible refine And.intro ?hh ?_); (case hh => (unfold InR; (try dsimp only); omega)); conv => whnf) | ((with_reducible refine And.intro ?hh ?_); (case hh => ((try dsimp only); omega)); conv => whnf) | ((with_reducible refine And.intro ?hh ?_); (case hh => ((conv => whnf); (repeat' (first | exact True.intro | rfl | refine And.intro ?_ ?_)); done)); conv => whnf) | fail))
              refine YldX.all ?_
              refine YldW.inline rfl rfl rfl (WpR.of_vc ?_)
              conv => whnf
              refine ⟨rfl, _, rfl, rfl, WpR.of_vc ?_⟩
              (conv => whnf); (repeat' (first | ((with_reducible refine ifb_mk (fun hc => ?_) (fun hc => ?_)) <;> ((try simp only [decide_eq_true_eq, decide_eq_false_iff_not, Bool.not_eq_true', Bool.not_eq_false', Int.not_lt, Int.not_le, ne_eq, Decidable.not_not, beq_iff_eq, List.cons.injEq, and_true] at hc); (first | (exfalso; omega) | conv => whnf))) | ((with_reducible refine And.intro True.intro ?_); conv => whnf) | ((with_reducible refine And.intro ?hh ?_); (case hh => (unfold InR; (try dsimp only); omega)); conv => whnf) | ((with_reducible refine And.intro ?hh ?_); (case hh => ((try dsimp only); omega)); conv => whnf) | ((with_reducible refine And.intro ?hh ?_); (case hh => ((conv => whnf); (repeat' (first | exact True.intro | rfl | refine And.intro ?_ ?_)); done)); conv => whnf) | fail))
              refine ⟨_, _, rfl, ?_⟩
              (conv => whnf); (repeat' (first | ((with_reducible refine ifb_mk (fun hc => ?_) (fun hc => ?_)) <;> ((try simp only [decide_eq_true_eq, decide_eq_false_iff_not, Bool.not_eq_true', Bool.not_eq_false', Int.not_lt, Int.not_le, ne_eq, Decidable.not_not, beq_iff_eq, List.cons.injEq, and_true] at hc); (first | (exfalso; omega) | conv => whnf))) | ((with_reducible refine And.intro True.intro ?_); conv => whnf) | ((with_reducible refine And.intro ?hh ?_); (case hh => (unfold InR; (try dsimp only); omega)); conv => whnf) | ((with_reducible refine And.intro ?hh ?_); (case hh => ((try dsimp only); omega)); conv => whnf) | ((with_reducible refine And.intro ?hh ?_); (case hh => ((conv => whnf); (repeat' (first | exact True.intro | rfl | refine And.intro ?_ ?_)); done)); conv => whnf) | fail))
              exact ⟨i + 1, [], by omega, by omega, ⟨rfl, rfl, (by (repeat' (first | exact True.intro | rfl | refine And.intro ?_ ?_))), (by (repeat' (first | exact True.intro | rfl | refine And.intro ?_ ?_))), (by (repeat' (first | exact True.intro | rfl | refine And.intro ?_ ?_))), ⟨.inr ⟨_, rfl, by rw [eG]; exact SubQ.fin (by (conv => whnf); (repeat' (first | exact True.intro | rfl | refine And.intro ?_ ?_)); done) (fun h => h) (.inl rfl)⟩, ⟨.inr ⟨_, rfl, by rw [eF]; exact SubQ.fin (by (conv => whnf); (repeat' (first | exact True.intro | rfl | refine And.intro ?_ ?_)); done) (fun h => h) (.inl rfl)⟩, trivial⟩⟩, rfl, rfl⟩⟩
      · have e : i = 8 := by omega
        subst e
        rw [hm8, hf8]
        cases f8 with
        | true =>
          (conv => whnf); (repeat' (first | ((with_reducible refine ifb_mk (fun hc => ?_) (fun hc => ?_)) <;> ((try simp only [decide_eq_true_eq, decide_eq_false_iff_not, Bool.not_eq_true', Bool.not_eq_false', Int.not_lt, Int.not_le, ne_eq, Decidable.not_not, beq_iff_eq, List.cons.injEq, and_true] at hc); (first | (exfalso; omega) | conv => whnf))) | ((with_reducible refine And.intro True.intro ?_); conv => whnf) | ((with_reducible refine WpR.draw (id := 7) mixed [0, 1, 2, 3] [0, 0, 1, 7] ?hh ?_); (case hh => kernel_rfl); conv => whnf) | ((with_reducible refine And.intro ?hh ?_); (case hh => (unfold InR; (try dsimp only); omega)); conv => whnf) | ((with_reducible refine And.intro ?hh ?_); (case hh => ((try dsimp only); omega)); conv => whnf) | ((with_reducible refine And.intro ?hh ?_); (case hh => ((conv => whnf); (repeat' (first | exact True.intro | rfl | refine And.intro ?_ ?_)); done)); conv => whnf) | fail))
          all_goals first | exact True.intro | (refine ⟨[], ?_, rfl, rfl, trivial, (by (repeat' (first | exact True.intro | rfl | refine And.intro ?_ ?_)))⟩; simp only [renV, renL]; (first | done | rfl | simp | grind)) | trace_state
        | false =>
          have e0 := kN 8 hf8
          rw [hm8] at e0
          subst e0
          (conv => whnf); (repeat' (first | ((with_reducible refine ifb_mk (fun hc => ?_) (fun hc => ?_)) <;> ((try simp only [decide_eq_true_eq, decide_eq_false_iff_not, Bool.not_eq_true', Bool.not_eq_false', Int.not_lt, Int.not_le, ne_eq, Decidable.not_not, beq_iff_eq, List.cons.injEq, and_true] at hc); (first | (exfalso; omega) | conv => whnf))) | ((with_reducible refine And.intro True.intro ?_); conv => whnf) | ((with_reducible refine WpR.draw (id := 7) mixed [0, 1, 2, 3] [0, 0, 1, 7] ?hh ?_); (case hh => kernel_rfl); conv => whnf) | ((with_reducible refine And.intro ?hh ?_); (case hh => (unfold InR; (try dsimp only); omega)); conv => whnf) | ((with_reducible refine And.intro ?hh ?_); (case hh => ((try dsimp only); omega)); conv => whnf) | ((with_reducible refine And.intro ?hh ?_); (case hh => ((conv => whnf); (repeat' (first | exact True.intro | rfl | refine And.intro ?_ ?_)); done)); conv => whnf) | fail))
          all_goals first | exact True.intro | (refine ⟨[], ?_, rfl, rfl, trivial, (by (repeat' (first | exact True.intro | rfl | refine And.intro ?_ ?_)))⟩; simp only [renV, renL]; (first | done | rfl | simp | grind)) | trace_state
end Go.Proofs.P

namespace Go.Proofs.P
open Go.As
set_option maxRecDepth 20000
set_option linter.unusedVariables false
set_option linter.unusedSimpArgs false

/-! ### behind: is a list behind another one? -/

theorem lexC_drop {A B : List Int} {i : Nat} {x y : Int} (hx : A[i]? = some x) (hy : B[i]? = some y) : lexC (A.drop i) (B.drop i) = if c3 x y = 0 then lexC (A.drop (i + 1)) (B.drop (i + 1)) else c3 x y := by
  rw [drop_at hx, drop_at hy]; rfl
set_option maxHeartbeats 2000000 in
theorem behind_ok (h : H) (A B : List Int) (b1 o1 c1 : Nat) (e1 : Bool) (b2 o2 c2 : Nat) (e2 : Bool) (h0 : 1 ≤ A.length) (hl : A.length ≤ 9223372036854775807) (hl2 : A.length = B.length) (h1 : SlC h (iVs A) A.length (.sl b1 o1 A.length c1 e1)) (h2 : SlC h (iVs B) B.length (.sl b2 o2 B.length c2 e2)) :
    CallOk Try.prog 57 [.sl b1 o1 A.length c1 e1, .sl b2 o2 B.length c2 e2] h (.bool (decide (0 < lexC A B))) h := by
  obtain ⟨v1, s1, q1, ca1, w1⟩ := h1.view 0
  obtain ⟨v2, s2, q2, ca2, w2⟩ := h2.view 1
  obtain ⟨cp1, ex1, rfl⟩ : ∃ cap ex, s1 = .sl 0 0 A.length cap ex := by
    cases q1 with
    | nil h0 => omega
    | sl => exact ⟨_, _, rfl⟩
  obtain ⟨cp2, ex2, rfl⟩ : ∃ cap ex, s2 = .sl 1 0 B.length cap ex := by
    cases q2 with
    | nil h0 => omega
    | sl => exact ⟨_, _, rfl⟩
  have hB1 := @iVs_bare A
  have hB2 := @iVs_bare B
  refine CallOk.run Try.func57 rfl rfl (argsC := [.sl 0 0 A.length cp1 ex1, .sl 1 0 B.length cp2 ex2]) (Nat.le_of_ble_eq_true rfl) [v1, v2] (.cons (ca1 _ rfl) (.cons (ca2 _ rfl) .nil)) (viewMc2 iVs_bare w1 iVs_bare w2) rfl (WpR.of_vc ?_)
  (conv => whnf); (repeat' (first | ((with_reducible refine ifb_mk (fun hc => ?_) (fun hc => ?_)) <;> ((try simp only [decide_eq_true_eq, decide_eq_false_iff_not, Bool.not_eq_true', Bool.not_eq_false', Int.not_lt, Int.not_le, ne_eq, Decidable.not_not, beq_iff_eq, List.cons.injEq, and_true] at hc); (first | (exfalso; omega) | conv => whnf))) | ((with_reducible refine And.intro True.intro ?_); conv => whnf) | ((with_reducible refine And.intro ?hh ?_); (case hh => (unfold InR; (try dsimp only); omega)); conv => whnf) | ((with_reducible refine And.intro ?hh ?_); (case hh => ((try dsimp only); omega)); conv => whnf) | ((with_reducible refine And.intro ?hh ?_); (case hh => ((conv => whnf); (repeat' (first | exact True.intro | rfl | refine And.intro ?_ ?_)); done)); conv => whnf) | fail))
  show WpR Try.prog _ _ _ _ ⟨_, _, _, ⟨_, 2, 0⟩⟩ _
  refine WpR.loopD (ι := Nat) [] [0, 1] [] [] 2 (fun i => [(5, .int .i64 i)]) (fun _ => []) (fun i => A.length - i) (fun i => i ≤ A.length ∧ lexC A B = lexC (A.drop i) (B.drop i)) ?_ (0) (⟨Nat.zero_le _, rfl⟩) [] ⟨rfl, rfl, (by (repeat' (first | exact True.intro | rfl | refine And.intro ?_ ?_))), (by (repeat' (first | exact True.intro | rfl | refine And.intro ?_ ?_))), (by (repeat' (first | exact True.intro | rfl | refine And.intro ?_ ?_))), (by (repeat' (first | exact True.intro | exact Or.inl rfl | refine And.intro ?_ ?_ | refine Or.inr ⟨_, rfl, ?_⟩ | exact SubQ.same (n := 1000) (Y := []) (fun _ _ _ => rfl) (by first | exact True.intro | exact ltB_all rfl | exact ltB_ofLb (by first | exact bare0_ints | assumption | exact bVs_bare | exact iVs_bare | exact mVs_bare | (intro v hv; (repeat (rcases List.mem_cons.1 hv with rfl | hv; exact rfl)); cases hv)) | exact ltB_loop rfl rfl | exact hMap _ | exact hMap2 _ | exact grB_lt (by first | exact bare0_ints | assumption | exact bVs_bare | exact iVs_bare | exact mVs_bare | (intro v hv; (repeat (rcases List.mem_cons.1 hv with rfl | hv; exact rfl)); cases hv)) _ | exact ltB_encL | exact ltB_map0 | assumption) (avB_nil _) rfl | exact SubQ.ofL (by first | rfl | simp) (by first | exact bare0_ints | assumption | exact bVs_bare | exact iVs_bare | exact mVs_bare | (intro v hv; (repeat (rcases List.mem_cons.1 hv with rfl | hv; exact rfl)); cases hv)) (by first | exact Or.inl rfl | exact Or.inr rfl) | exact SubQ.fin (by (conv => whnf); (repeat' (first | exact True.intro | rfl | refine And.intro ?_ ?_)); done) (fun h => h) (by first | exact Or.inl rfl | exact Or.inr rfl)))), rfl, rfl⟩ rfl rfl rfl (fun _ => rfl) (by (repeat' (first | exact True.intro | refine And.intro ?_ ?_ | exact avV_nil _ | rfl))) (by (repeat' (first | exact True.intro | (with_reducible exact avB_nil _) | ((with_reducible refine avB_all ?_); rfl) | ((with_reducible refine avB_ofLb ?_); exact (by first | exact bare0_ints | assumption | exact bVs_bare | exact iVs_bare | exact mVs_bare | (intro v hv; (repeat (rcases List.mem_cons.1 hv with rfl | hv; exact rfl)); cases hv))) | ((with_reducible refine ltB_all ?_); rfl) | ((with_reducible refine ltB_ofLb ?_); exact (by first | exact bare0_ints | assumption | exact bVs_bare | exact iVs_bare | exact mVs_bare | (intro v hv; (repeat (rcases List.mem_cons.1 hv with rfl | hv; exact rfl)); cases hv))) | ((with_reducible refine ltB_loop ?_ ?_) <;> rfl) | (with_reducible exact hMap _) | (with_reducible exact hMap2 _) | (with_reducible exact ltB_encL) | (with_reducible exact ltB_map0) | ((with_reducible refine grB_lt ?_ _); exact (by first | exact bare0_ints | assumption | exact bVs_bare | exact iVs_bare | exact mVs_bare | (intro v hv; (repeat (rcases List.mem_cons.1 hv with rfl | hv; exact rfl)); cases hv))) | (with_reducible assumption) | refine And.intro ?_ ?_ | exact (by first | exact True.intro | exact ltB_all rfl | exact ltB_ofLb (by first | exact bare0_ints | assumption | exact bVs_bare | exact iVs_bare | exact mVs_bare | (intro v hv; (repeat (rcases List.mem_cons.1 hv with rfl | hv; exact rfl)); cases hv)) | exact ltB_loop rfl rfl | exact hMap _ | exact hMap2 _ | exact grB_lt (by first | exact bare0_ints | assumption | exact bVs_bare | exact iVs_bare | exact mVs_bare | (intro v hv; (repeat (rcases List.mem_cons.1 hv with rfl | hv; exact rfl)); cases hv)) _ | exact ltB_encL | exact ltB_map0 | assumption)))) (fun _ _ => (by (repeat' (first | exact True.intro | rfl | refine And.intro ?_ ?_ | exact (by decide) | exact (by first | exact True.intro | exact hMap _ | exact hMap2 _ | exact grB_lt (by first | exact bare0_ints | assumption | exact bVs_bare | exact iVs_bare | exact mVs_bare | (intro v hv; (repeat (rcases List.mem_cons.1 hv with rfl | hv; exact rfl)); cases hv)) _ | exact ltB_all rfl | exact ltB_ofLb (by first | exact bare0_ints | assumption | exact bVs_bare | exact iVs_bare | exact mVs_bare | (intro v hv; (repeat (rcases List.mem_cons.1 hv with rfl | hv; exact rfl)); cases hv)) | exact ltB_loop rfl rfl | exact ltB_encL | exact ltB_map0 | assumption))))) (fun _ _ => (by (repeat' (first | exact True.intro | rfl | refine And.intro ?_ ?_ | exact (by decide) | exact (by first | exact True.intro | exact hMap _ | exact hMap2 _ | exact grB_lt (by first | exact bare0_ints | assumption | exact bVs_bare | exact iVs_bare | exact mVs_bare | (intro v hv; (repeat (rcases List.mem_cons.1 hv with rfl | hv; exact rfl)); cases hv)) _ | exact ltB_all rfl | exact ltB_ofLb (by first | exact bare0_ints | assumption | exact bVs_bare | exact iVs_bare | exact mVs_bare | (intro v hv; (repeat (rcases List.mem_cons.1 hv with rfl | hv; exact rfl)); cases hv)) | exact ltB_loop rfl rfl | exact ltB_encL | exact ltB_map0 | assumption))))) (fun _ _ => (by (repeat' (first | exact True.intro | rfl | refine And.intro ?_ ?_)))) rfl
  rintro i ⟨j1, j2⟩
  refine WpR.of_vc ?_
  cases hx : A[i]? with
  | some x =>
    have hlt := (List.getElem?_eq_some_iff.1 hx).1
    obtain ⟨y, hy⟩ : ∃ y, B[i]? = some y := ⟨_, List.getElem?_eq_getElem (by omega)⟩
    rw [lexC_drop hx hy] at j2
    (conv => whnf); (repeat' (first | ((with_reducible refine ifb_mk (fun hc => ?_) (fun hc => ?_)) <;> ((try simp only [decide_eq_true_eq, decide_eq_false_iff_not, Bool.not_eq_true', Bool.not_eq_false', Int.not_lt, Int.not_le, ne_eq, Decidable.not_not, beq_iff_eq, List.cons.injEq, and_true] at hc); (first | (exfalso; omega) | conv => whnf))) | ((with_reducible refine And.intro True.intro ?_); conv => whnf) | ((with_reducible refine grd_get ?_); refine som_mk (a := ?_) ?hh ?_; (case hh => exact iGet hx); conv => whnf) | ((with_reducible refine grd_get ?_); refine som_mk (a := ?_) ?hh ?_; (case hh => exact iGet hy); conv => whnf) | ((with_reducible refine WpR.draw (id := 6) mixed [0, 1, 2, 3, 4, 5, 6, 7, 8] [0, 0, 3, 7, 0, 0, 48, 112, 255] ?hh ?_); (case hh => kernel_rfl); conv => whnf) | ((with_reducible refine WpR.draw (id := 7) mixed [0, 1, 2, 3, 4, 5, 6, 7, 8, 9] [0, 0, 3, 7, 0, 0, 48, 112, 255, 511] ?hh ?_); (case hh => kernel_rfl); conv => whnf) | ((with_reducible refine And.intro ?hh ?_); (case hh => (unfold InR; (try dsimp only); omega)); conv => whnf) | ((with_reducible refine And.intro ?hh ?_); (case hh => ((try dsimp only); omega)); conv => whnf) | ((with_reducible refine And.intro ?hh ?_); (case hh => ((conv => whnf); (repeat' (first | exact True.intro | rfl | refine And.intro ?_ ?_)); done)); conv => whnf) | fail))
    · have e : decide (0 < lexC A B) = decide (y < x) := by
        rw [j2, if_neg (fun h => hc (c3_zero h))]
        unfold c3
        by_cases h1 : x < y
        · rw [if_pos h1]; simp; omega
        · rw [if_neg h1]
          by_cases h2 : y < x
          · rw [if_pos h2]; simp [h2]
          · exact absurd (show x = y by omega) hc
      rw [e]; (refine ⟨[], ?_, rfl, rfl, trivial, (by (repeat' (first | exact True.intro | rfl | refine And.intro ?_ ?_)))⟩; simp only [renV, renL]; (first | done | rfl | simp | grind))
    · have hxy : x = y := by omega
      subst hxy
      have e0 : c3 x x = 0 := c3_self x
      rw [if_pos e0] at j2
      exact ⟨i + 1, [], by omega, ⟨by omega, j2⟩, ⟨rfl, rfl, (by (repeat' (first | exact True.intro | rfl | refine And.intro ?_ ?_))), (by (repeat' (first | exact True.intro | rfl | refine And.intro ?_ ?_))), (by (repeat' (first | exact True.intro | rfl | refine And.intro ?_ ?_))), (by (repeat' (first | exact True.intro | exact Or.inl rfl | refine And.intro ?_ ?_ | refine Or.inr ⟨_, rfl, ?_⟩ | exact SubQ.same (n := 1000) (Y := []) (fun _ _ _ => rfl) (by first | exact True.intro | exact ltB_all rfl | exact ltB_ofLb (by first | exact bare0_ints | assumption | exact bVs_bare | exact iVs_bare | exact mVs_bare | (intro v hv; (repeat (rcases List.mem_cons.1 hv with rfl | hv; exact rfl)); cases hv)) | exact ltB_loop rfl rfl | exact hMap _ | exact hMap2 _ | exact grB_lt (by first | exact bare0_ints | assumption | exact bVs_bare | exact iVs_bare | exact mVs_bare | (intro v hv; (repeat (rcases List.mem_cons.1 hv with rfl | hv; exact rfl)); cases hv)) _ | exact ltB_encL | exact ltB_map0 | assumption) (avB_nil _) rfl | exact SubQ.ofL (by first | rfl | simp) (by first | exact bare0_ints | assumption | exact bVs_bare | exact iVs_bare | exact mVs_bare | (intro v hv; (repeat (rcases List.mem_cons.1 hv with rfl | hv; exact rfl)); cases hv)) (by first | exact Or.inl rfl | exact Or.inr rfl) | exact SubQ.fin (by (conv => whnf); (repeat' (first | exact True.intro | rfl | refine And.intro ?_ ?_)); done) (fun h => h) (by first | exact Or.inl rfl | exact Or.inr rfl)))), rfl, rfl⟩⟩
  | none =>
    have hlen : A.length ≤ i := by simpa using hx
    have e : lexC A B = 0 := by rw [j2, List.drop_eq_nil_of_le hlen]; rfl
    rw [e]
    (conv => whnf); (repeat' (first | ((with_reducible refine ifb_mk (fun hc => ?_) (fun hc => ?_)) <;> ((try simp only [decide_eq_true_eq, decide_eq_false_iff_not, Bool.not_eq_true', Bool.not_eq_false', Int.not_lt, Int.not_le, ne_eq, Decidable.not_not, beq_iff_eq, List.cons.injEq, and_true] at hc); (first | (exfalso; omega) | conv => whnf))) | ((with_reducible refine And.intro True.intro ?_); conv => whnf) | ((with_reducible refine And.intro ?hh ?_); (case hh => (unfold InR; (try dsimp only); omega)); conv => whnf) | ((with_reducible refine And.intro ?hh ?_); (case hh => ((try dsimp only); omega)); conv => whnf) | ((with_reducible refine And.intro ?hh ?_); (case hh => ((conv => whnf); (repeat' (first | exact True.intro | rfl | refine And.intro ?_ ?_)); done)); conv => whnf) | fail))
    (refine ⟨[], ?_, rfl, rfl, trivial, (by (repeat' (first | exact True.intro | rfl | refine And.intro ?_ ?_)))⟩; simp only [renV, renL]; (first | done | rfl | simp | grind))

/-! ### The reference reads kinds -/

set_option maxHeartbeats 2000000 in
theorem checkKinds_ok (h : H) (L : List Int) (lv : V) (hl : L.length ≤ 8) (hk : akB (-1) L = true) (hs : SlC h (iVs L) L.length lv) : CallOk Try.prog 58 [lv] h (.int .i64 0) h := by
  obtain ⟨vo, svC, hsv, hca, hvw⟩ := hs.view 0
  have hB := @iVs_bare L
  refine CallOk.run Try.func58 rfl rfl (argsC := [svC]) (Nat.le_of_ble_eq_true rfl) [vo] (.cons (hca _ rfl) .nil) (viewMc1 iVs_bare hvw) rfl (WpR.of_vc ?_)
  cases hsv with
  | nil h0 =>
    have e : L = [] := List.eq_nil_of_length_eq_zero h0
    subst e
    (conv => whnf); (repeat' (first | ((with_reducible refine ifb_mk (fun hc => ?_) (fun hc => ?_)) <;> ((try simp only [decide_eq_true_eq, decide_eq_false_iff_not, Bool.not_eq_true', Bool.not_eq_false', Int.not_lt, Int.not_le, ne_eq, Decidable.not_not, beq_iff_eq, List.cons.injEq, and_true] at hc); (first | (exfalso; omega) | conv => whnf))) | ((with_reducible refine And.intro True.intro ?_); conv => whnf) | ((with_reducible refine WpR.loopU 2 ?_); conv => whnf) | ((with_reducible refine And.intro ?hh ?_); (case hh => (unfold InR; (try dsimp only); omega)); conv => whnf) | ((with_reducible refine And.intro ?hh ?_); (case hh => ((try dsimp only); omega)); conv => whnf) | ((with_reducible refine And.intro ?hh ?_); (case hh => ((conv => whnf); (repeat' (first | exact True.intro | rfl | refine And.intro ?_ ?_)); done)); conv => whnf) | fail))
    (refine ⟨[], ?_, rfl, rfl, trivial, (by (repeat' (first | exact True.intro | rfl | refine And.intro ?_ ?_)))⟩; simp only [renV, renL]; (first | done | rfl | simp | grind))
  | @sl cap ex =>
    (conv => whnf); (repeat' (first | ((with_reducible refine ifb_mk (fun hc => ?_) (fun hc => ?_)) <;> ((try simp only [decide_eq_true_eq, decide_eq_false_iff_not, Bool.not_eq_true', Bool.not_eq_false', Int.not_lt, Int.not_le, ne_eq, Decidable.not_not, beq_iff_eq, List.cons.injEq, and_true] at hc); (first | (exfalso; omega) | conv => whnf))) | ((with_reducible refine And.intro True.intro ?_); conv => whnf) | ((with_reducible refine And.intro ?hh ?_); (case hh => (unfold InR; (try dsimp only); omega)); conv => whnf) | ((with_reducible refine And.intro ?hh ?_); (case hh => ((try dsimp only); omega)); conv => whnf) | ((with_reducible refine And.intro ?hh ?_); (case hh => ((conv => whnf); (repeat' (first | exact True.intro | rfl | refine And.intro ?_ ?_)); done)); conv => whnf) | fail))
    show WpR Try.prog _ _ _ _ ⟨_, _, _, ⟨_, 1, 0⟩⟩ _
    refine WpR.loopD (ι := Nat) [] [0] [] [] 1 (fun i => [(3, .int .i64 i)]) (fun _ => []) (fun i => L.length - i) (fun i => i ≤ L.length ∧ akB (if i = 0 then -1 else L.getD (i - 1) 0) (L.drop i) = true ∧ (i ≠ 0 → -1 ≤ L.getD (i - 1) 0)) ?_ (0) (⟨Nat.zero_le _, hk, fun h => absurd rfl h⟩) [] ⟨rfl, rfl, (by (repeat' (first | exact True.intro | rfl | refine And.intro ?_ ?_))), (by (repeat' (first | exact True.intro | rfl | refine And.intro ?_ ?_))), (by (repeat' (first | exact True.intro | rfl | refine And.intro ?_ ?_))), (by (repeat' (first | exact True.intro | exact Or.inl rfl | refine And.intro ?_ ?_ | refine Or.inr ⟨_, rfl, ?_⟩ | exact SubQ.same (n := 1000) (Y := []) (fun _ _ _ => rfl) (by first | exact True.intro | exact ltB_all rfl | exact ltB_ofLb (by first | exact bare0_ints | assumption | exact bVs_bare | exact iVs_bare | exact mVs_bare | (intro v hv; (repeat (rcases List.mem_cons.1 hv with rfl | hv; exact rfl)); cases hv)) | exact ltB_loop rfl rfl | exact hMap _ | exact hMap2 _ | exact grB_lt (by first | exact bare0_ints | assumption | exact bVs_bare | exact iVs_bare | exact mVs_bare | (intro v hv; (repeat (rcases List.mem_cons.1 hv with rfl | hv; exact rfl)); cases hv)) _ | exact ltB_encL | exact ltB_map0 | assumption) (avB_nil _) rfl | exact SubQ.ofL (by first | rfl | simp) (by first | exact bare0_ints | assumption | exact bVs_bare | exact iVs_bare | exact mVs_bare | (intro v hv; (repeat (rcases List.mem_cons.1 hv with rfl | hv; exact rfl)); cases hv)) (by first | exact Or.inl rfl | exact Or.inr rfl) | exact SubQ.fin (by (conv => whnf); (repeat' (first | exact True.intro | rfl | refine And.intro ?_ ?_)); done) (fun h => h) (by first | exact Or.inl rfl | exact Or.inr rfl)))), rfl, rfl⟩ rfl rfl rfl (fun _ => rfl) (by (repeat' (first | exact True.intro | refine And.intro ?_ ?_ | exact avV_nil _ | rfl))) (by (repeat' (first | exact True.intro | (with_reducible exact avB_nil _) | ((with_reducible refine avB_all ?_); rfl) | ((with_reducible refine avB_ofLb ?_); exact (by first | exact bare0_ints | assumption | exact bVs_bare | exact iVs_bare | exact mVs_bare | (intro v hv; (repeat (rcases List.mem_cons.1 hv with rfl | hv; exact rfl)); cases hv))) | ((with_reducible refine ltB_all ?_); rfl) | ((with_reducible refine ltB_ofLb ?_); exact (by first | exact bare0_ints | assumption | exact bVs_bare | exact iVs_bare | exact mVs_bare | (intro v hv; (repeat (rcases List.mem_cons.1 hv with rfl | hv; exact rfl)); cases hv))) | ((with_reducible refine ltB_loop ?_ ?_) <;> rfl) | (with_reducible exact hMap _) | (with_reducible exact hMap2 _) | (with_reducible exact ltB_encL) | (with_reducible exact ltB_map0) | ((with_reducible refine grB_lt ?_ _); exact (by first | exact bare0_ints | assumption | exact bVs_bare | exact iVs_bare | exact mVs_bare | (intro v hv; (repeat (rcases List.mem_cons.1 hv with rfl | hv; exact rfl)); cases hv))) | (with_reducible assumption) | refine And.intro ?_ ?_ | exact (by first | exact True.intro | exact ltB_all rfl | exact ltB_ofLb (by first | exact bare0_ints | assumption | exact bVs_bare | exact iVs_bare | exact mVs_bare | (intro v hv; (repeat (rcases List.mem_cons.1 hv with rfl | hv; exact rfl)); cases hv)) | exact ltB_loop rfl rfl | exact hMap _ | exact hMap2 _ | exact grB_lt (by first | exact bare0_ints | assumption | exact bVs_bare | exact iVs_bare | exact mVs_bare | (intro v hv; (repeat (rcases List.mem_cons.1 hv with rfl | hv; exact rfl)); cases hv)) _ | exact ltB_encL | exact ltB_map0 | assumption)))) (fun _ _ => (by (repeat' (first | exact True.intro | rfl | refine And.intro ?_ ?_ | exact (by decide) | exact (by first | exact True.intro | exact hMap _ | exact hMap2 _ | exact grB_lt (by first | exact bare0_ints | assumption | exact bVs_bare | exact iVs_bare | exact mVs_bare | (intro v hv; (repeat (rcases List.mem_cons.1 hv with rfl | hv; exact rfl)); cases hv)) _ | exact ltB_all rfl | exact ltB_ofLb (by first | exact bare0_ints | assumption | exact bVs_bare | exact iVs_bare | exact mVs_bare | (intro v hv; (repeat (rcases List.mem_cons.1 hv with rfl | hv; exact rfl)); cases hv)) | exact ltB_loop rfl rfl | exact ltB_encL | exact ltB_map0 | assumption))))) (fun _ _ => (by (repeat' (first | exact True.intro | rfl | refine And.intro ?_ ?_ | exact (by decide) | exact (by first | exact True.intro | exact hMap _ | exact hMap2 _ | exact grB_lt (by first | exact bare0_ints | assumption | exact bVs_bare | exact iVs_bare | exact mVs_bare | (intro v hv; (repeat (rcases List.mem_cons.1 hv with rfl | hv; exact rfl)); cases hv)) _ | exact ltB_all rfl | exact ltB_ofLb (by first | exact bare0_ints | assumption | exact bVs_bare | exact iVs_bare | exact mVs_bare | (intro v hv; (repeat (rcases List.mem_cons.1 hv with rfl | hv; exact rfl)); cases hv)) | exact ltB_loop rfl rfl | exact ltB_encL | exact ltB_map0 | assumption))))) (fun _ _ => (by (repeat' (first | exact True.intro | rfl | refine And.intro ?_ ?_)))) rfl
    rintro i ⟨h1, hP, hQ⟩
    refine WpR.of_vc ?_
    cases hx : L[i]? with
    | some y =>
      have hlt := (List.getElem?_eq_some_iff.1 hx).1
      rw [drop_at hx] at hP
      unfold akB at hP
      rw [Bool.and_eq_true, decide_eq_true_eq] at hP
      obtain ⟨⟨hy1, hy2⟩, hP2⟩ := hP
      have hy0 : 0 ≤ y := by
        by_cases h0 : i = 0
        · rw [if_pos h0] at hy1; omega
        · rw [if_neg h0] at hy1; have := hQ h0; omega
      have kM := fun h' => isMotion_ok h' y
      rw [decide_eq_true (by omega)] at kM
      have hnext : L.getD (i + 1 - 1) 0 = y := by rw [Nat.add_sub_cancel, List.getD_eq_getElem?_getD, hx]; rfl
      have hJ : i + 1 ≤ L.length ∧ akB (if i + 1 = 0 then -1 else L.getD (i + 1 - 1) 0) (L.drop (i + 1)) = true ∧ (i + 1 ≠ 0 → -1 ≤ L.getD (i + 1 - 1) 0) := by
        rw [if_neg (by omega), hnext]
        exact ⟨by omega, hP2, fun _ => by omega⟩
      rcases Nat.eq_zero_or_pos i with h0 | h0
      · subst h0
        (conv => whnf); (repeat' (first | ((with_reducible refine ifb_mk (fun hc => ?_) (fun hc => ?_)) <;> ((try simp only [decide_eq_true_eq, decide_eq_false_iff_not, Bool.not_eq_true', Bool.not_eq_false', Int.not_lt, Int.not_le, ne_eq, Decidable.not_not, beq_iff_eq, List.cons.injEq, and_true] at hc); (first | (exfalso; omega) | conv => whnf))) | ((with_reducible refine And.intro True.intro ?_); conv => whnf) | ((with_reducible refine grd_get ?_); refine som_mk (a := ?_) ?hh ?_; (case hh => exact iGet hx); conv => whnf) | ((with_reducible refine WpR.draw (id := 4) mixed [0, 1, 2, 3, 4, 5, 6, 7, 8, 9, 10, 11, 12, 13, 14, 15, 16, 17, 18, 19, 20, 21] [0, 0, 3, 7, 15, 31, 63, 127, 255, 511, 1023, 1023, 4095, 8191, 1023, 1023, 33791, 115711, 246783, 524287, 1048575, 2097151] ?hh ?_); (case hh => kernel_rfl); conv => whnf) | ((with_reducible refine grd_ex ?_); refine ex_ok (kM _) ?_; conv => whnf) | ((with_reducible refine And.intro ?hh ?_); (case hh => (unfold InR; (try dsimp only); omega)); conv => whnf) | ((with_reducible refine And.intro ?hh ?_); (case hh => ((try dsimp only); omega)); conv => whnf) | ((with_reducible refine And.intro ?hh ?_); (case hh => ((conv => whnf); (repeat' (first | exact True.intro | rfl | refine And.intro ?_ ?_)); done)); conv => whnf) | fail))
        exact ⟨0 + 1, [], by omega, hJ, ⟨rfl, rfl, (by (repeat' (first | exact True.intro | rfl | refine And.intro ?_ ?_))), (by (repeat' (first | exact True.intro | rfl | refine And.intro ?_ ?_))), (by (repeat' (first | exact True.intro | rfl | refine And.intro ?_ ?_))), (by (repeat' (first | exact True.intro | exact Or.inl rfl | refine And.intro ?_ ?_ | refine Or.inr ⟨_, rfl, ?_⟩ | exact SubQ.same (n := 1000) (Y := []) (fun _ _ _ => rfl) (by first | exact True.intro | exact ltB_all rfl | exact ltB_ofLb (by first | exact bare0_ints | assumption | exact bVs_bare | exact iVs_bare | exact mVs_bare | (intro v hv; (repeat (rcases List.mem_cons.1 hv with rfl | hv; exact rfl)); cases hv)) | exact ltB_loop rfl rfl | exact hMap _ | exact hMap2 _ | exact grB_lt (by first | exact bare0_ints | assumption | exact bVs_bare | exact iVs_bare | exact mVs_bare | (intro v hv; (repeat (rcases List.mem_cons.1 hv with rfl | hv; exact rfl)); cases hv)) _ | exact ltB_encL | exact ltB_map0 | assumption) (avB_nil _) rfl | exact SubQ.ofL (by first | rfl | simp) (by first | exact bare0_ints | assumption | exact bVs_bare | exact iVs_bare | exact mVs_bare | (intro v hv; (repeat (rcases List.mem_cons.1 hv with rfl | hv; exact rfl)); cases hv)) (by first | exact Or.inl rfl | exact Or.inr rfl) | exact SubQ.fin (by (conv => whnf); (repeat' (first | exact True.intro | rfl | refine And.intro ?_ ?_)); done) (fun h => h) (by first | exact Or.inl rfl | exact Or.inr rfl)))), rfl, rfl⟩⟩
      · obtain ⟨x, hx'⟩ : ∃ x, L[i - 1]? = some x := ⟨_, List.getElem?_eq_getElem (by omega)⟩
        have hxy : x + 1 ≤ y := by
          rw [if_neg (by omega), List.getD_eq_getElem?_getD, hx'] at hy1
          exact hy1
        have gT : (ofL (iVs L) 0).get (0 + ((i : Int) - 1).toNat * 1) = some (.int .i64 x) := by
          rw [show ((i : Int) - 1).toNat = i - 1 from by omega, show 0 + (i - 1) * 1 = i - 1 from by omega]
          exact get_ofL0 (by unfold iVs; rw [List.getElem?_map]; simp [hx'])
        (conv => whnf); (repeat' (first | ((with_reducible refine ifb_mk (fun hc => ?_) (fun hc => ?_)) <;> ((try simp only [decide_eq_true_eq, decide_eq_false_iff_not, Bool.not_eq_true', Bool.not_eq_false', Int.not_lt, Int.not_le, ne_eq, Decidable.not_not, beq_iff_eq, List.cons.injEq, and_true] at hc); (first | (exfalso; omega) | conv => whnf))) | ((with_reducible refine And.intro True.intro ?_); conv => whnf) | ((with_reducible refine grd_get ?_); refine som_mk (a := ?_) ?hh ?_; (case hh => exact iGet hx); conv => whnf) | ((with_reducible refine grd_get ?_); refine som_mk (a := ?_) ?hh ?_; (case hh => exact gT); conv => whnf) | ((with_reducible refine WpR.draw (id := 4) mixed [0, 1, 2, 3, 4, 5, 6, 7, 8, 9, 10, 11, 12, 13, 14, 15, 16, 17, 18, 19, 20, 21] [0, 0, 3, 7, 15, 31, 63, 127, 255, 511, 1023, 1023, 4095, 8191, 1023, 1023, 33791, 115711, 246783, 524287, 1048575, 2097151] ?hh ?_); (case hh => kernel_rfl); conv => whnf) | ((with_reducible refine grd_ex ?_); refine ex_ok (kM _) ?_; conv => whnf) | ((with_reducible refine And.intro ?hh ?_); (case hh => (unfold InR; (try dsimp only); omega)); conv => whnf) | ((with_reducible refine And.intro ?hh ?_); (case hh => ((try dsimp only); omega)); conv => whnf) | ((with_reducible refine And.intro ?hh ?_); (case hh => ((conv => whnf); (repeat' (first | exact True.intro | rfl | refine And.intro ?_ ?_)); done)); conv => whnf) | fail))
        exact ⟨i + 1, [], by omega, hJ, ⟨rfl, rfl, (by (repeat' (first | exact True.intro | rfl | refine And.intro ?_ ?_))), (by (repeat' (first | exact True.intro | rfl | refine And.intro ?_ ?_))), (by (repeat' (first | exact True.intro | rfl | refine And.intro ?_ ?_))), (by (repeat' (first | exact True.intro | exact Or.inl rfl | refine And.intro ?_ ?_ | refine Or.inr ⟨_, rfl, ?_⟩ | exact SubQ.same (n := 1000) (Y := []) (fun _ _ _ => rfl) (by first | exact True.intro | exact ltB_all rfl | exact ltB_ofLb (by first | exact bare0_ints | assumption | exact bVs_bare | exact iVs_bare | exact mVs_bare | (intro v hv; (repeat (rcases List.mem_cons.1 hv with rfl | hv; exact rfl)); cases hv)) | exact ltB_loop rfl rfl | exact hMap _ | exact hMap2 _ | exact grB_lt (by first | exact bare0_ints | assumption | exact bVs_bare | exact iVs_bare | exact mVs_bare | (intro v hv; (repeat (rcases List.mem_cons.1 hv with rfl | hv; exact rfl)); cases hv)) _ | exact ltB_encL | exact ltB_map0 | assumption) (avB_nil _) rfl | exact SubQ.ofL (by first | rfl | simp) (by first | exact bare0_ints | assumption | exact bVs_bare | exact iVs_bare | exact mVs_bare | (intro v hv; (repeat (rcases List.mem_cons.1 hv with rfl | hv; exact rfl)); cases hv)) (by first | exact Or.inl rfl | exact Or.inr rfl) | exact SubQ.fin (by (conv => whnf); (repeat' (first | exact True.intro | rfl | refine And.intro ?_ ?_)); done) (fun h => h) (by first | exact Or.inl rfl | exact Or.inr rfl)))), rfl, rfl⟩⟩
    | none =>
      have hlen : L.length ≤ i := by simpa using hx
      (conv => whnf); (repeat' (first | ((with_reducible refine ifb_mk (fun hc => ?_) (fun hc => ?_)) <;> ((try simp only [decide_eq_true_eq, decide_eq_false_iff_not, Bool.not_eq_true', Bool.not_eq_false', Int.not_lt, Int.not_le, ne_eq, Decidable.not_not, beq_iff_eq, List.cons.injEq, and_true] at hc); (first | (exfalso; omega) | conv => whnf))) | ((with_reducible refine And.intro True.intro ?_); conv => whnf) | ((with_reducible refine And.intro ?hh ?_); (case hh => (unfold InR; (try dsimp only); omega)); conv => whnf) | ((with_reducible refine And.intro ?hh ?_); (case hh => ((try dsimp only); omega)); conv => whnf) | ((with_reducible refine And.intro ?hh ?_); (case hh => ((conv => whnf); (repeat' (first | exact True.intro | rfl | refine And.intro ?_ ?_)); done)); conv => whnf) | fail))
      (refine ⟨[], ?_, rfl, rfl, trivial, (by (repeat' (first | exact True.intro | rfl | refine And.intro ?_ ?_)))⟩; simp only [renV, renL]; (first | done | rfl | simp | grind))
end Go.Proofs.P
