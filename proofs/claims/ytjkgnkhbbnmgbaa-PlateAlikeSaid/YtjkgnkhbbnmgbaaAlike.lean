/- What the functions answer that the laws call, one after another (Alike). -/
import Derived.Test.YtjkgnkhbbnmgbaaAs6
import Derived.Test.YtjkgnkhbbnmgbaaLst
import Derived.Test.YtjkgnkhbbnmgbaaMv
import Derived.Test.YtjkgnkhbbnmgbaaKept

set_option linter.unusedVariables false
namespace Go.Proofs.P
open Go.As
set_option maxRecDepth 20000
set_option linter.unusedVariables false
set_option linter.unusedSimpArgs false

/-! ### Plates that are alike -/

theorem c3_anti (a b : Int) : c3 b a = - c3 a b := by
  unfold c3
  by_cases h1 : a < b <;> by_cases h2 : b < a <;> simp [h1, h2] <;> omega
theorem lexC_anti : ∀ A B : List Int, lexC B A = - lexC A B
  | a :: A, b :: B => by
    unfold lexC
    rw [c3_anti a b]
    by_cases h : c3 a b = 0
    · rw [if_pos (by omega), if_pos h]; exact lexC_anti A B
    · rw [if_neg (by omega), if_neg h]
  | [], [] => rfl
  | [], _ :: _ => rfl
  | _ :: _, [] => rfl
theorem c3_zero {a b : Int} (h : c3 a b = 0) : a = b := by
  unfold c3 at h
  split at h
  · omega
  · split at h
    · omega
    · omega
theorem c3_neg {a b : Int} : c3 a b < 0 ↔ a < b := by
  unfold c3
  split
  · omega
  · split <;> omega
theorem lexC_eq : ∀ {A B : List Int}, A.length = B.length → lexC A B = 0 → A = B
  | a :: A, b :: B, hl, h => by
    unfold lexC at h
    by_cases h0 : c3 a b = 0
    · rw [if_pos h0] at h
      rw [c3_zero h0, lexC_eq (by simpa using hl) h]
    · rw [if_neg h0] at h; exact absurd h h0
  | [], [], _, _ => rfl
  | [], _ :: _, hl, _ => by cases hl
  | _ :: _, [], hl, _ => by cases hl
theorem lexC_trans : ∀ {A B C : List Int}, B.length = C.length → lexC A B < 0 → lexC B C ≤ 0 → lexC A C < 0
  | a :: A, b :: B, c :: C, hl, h1, h2 => by
    unfold lexC at h1 h2 ⊢
    by_cases h3 : c3 a b = 0
    · have e := c3_zero h3
      subst e
      rw [if_pos h3] at h1
      by_cases h4 : c3 a c = 0
      · rw [if_pos h4] at h2 ⊢
        exact lexC_trans (by simpa using hl) h1 h2
      · rw [if_neg h4] at h2 ⊢; omega
    · rw [if_neg h3] at h1
      have g1 := c3_neg.1 h1
      have g2 : b ≤ c := by
        by_cases h4 : c3 b c = 0
        · have := c3_zero h4; omega
        · rw [if_neg h4] at h2
          have := c3_neg.1 (show c3 b c < 0 by omega)
          omega
      have g3 : c3 a c < 0 := c3_neg.2 (by omega)
      rw [if_neg (by omega)]; exact g3
  | [], _, _, _, h1, _ => by unfold lexC at h1; omega
  | _ :: _, [], _, _, h1, _ => by unfold lexC at h1; omega
  | _ :: _, _ :: _, [], hl, _, _ => by cases hl
theorem lst_min {n : Nat} {B : List Bool} {D : List Int} (h0 : B.getD 0 false = true) : ∀ i, B.getD (lst n B D i) false = true ∧ ∀ j, j < i → B.getD j false = true → lexC (movL n (lst n B D i) D) (movL n j D) ≤ 0
  | 0 => ⟨h0, fun j hj => by omega⟩
  | i + 1 => by
    obtain ⟨g1, g2⟩ := lst_min (n := n) (D := D) h0 i
    by_cases hc : B.getD i false = true ∧ lexC (movL n i D) (movL n (lst n B D i) D) < 0
    · have e : lst n B D (i + 1) = i := by show ite _ _ _ = i; exact if_pos hc
      rw [e]
      refine ⟨hc.1, fun j hj hb => ?_⟩
      rcases Nat.lt_or_ge j i with h | h
      · have := lexC_trans (by rw [movL_len, movL_len]) hc.2 (g2 j h hb)
        omega
      · have : j = i := by omega
        subst this
        rw [lexC_self]; exact Int.le_refl _
    · have e : lst n B D (i + 1) = lst n B D i := by show ite _ _ _ = _; exact if_neg hc
      rw [e]
      refine ⟨g1, fun j hj hb => ?_⟩
      rcases Nat.lt_or_ge j i with h | h
      · exact g2 j h hb
      · have : j = i := by omega
        subst this
        have : ¬ lexC (movL n j D) (movL n (lst n B D j) D) < 0 := fun h => hc ⟨hb, h⟩
        rw [lexC_anti] at this
        omega
theorem lst_le {n : Nat} {B : List Bool} {D : List Int} (hg : Grp B) {j : Nat} (hj : j < 8) (hb : B.getD j false = true) : lexC (movL n (lst n B D 8) D) (movL n j D) ≤ 0 := (lst_min hg.zero 8).2 j hj hb
theorem lst_in {n : Nat} {B : List Bool} {D : List Int} (hg : Grp B) : B.getD (lst n B D 8) false = true := (lst_min hg.zero 8).1
theorem least_eq {n a : Nat} {B : List Bool} {D : List Int} (hg : Grp B) (hn : n ≤ 8) (ha : a < 8) (hb : B.getD a false = true) (hD : D.length = n * n) :
    movL n (lst n B (movL n a D) 8) (movL n a D) = movL n (lst n B D 8) D := by
  have hE : (movL n a D).length = n * n := by rw [movL_len]; exact hD
  have i1 := lst_in (n := n) (D := D) hg
  have i2 := lst_in (n := n) (D := movL n a D) hg
  have l1 := lst_lt n B D 8 (Nat.le_refl _)
  have l2 := lst_lt n B (movL n a D) 8 (Nat.le_refl _)
  have e1 : lexC (movL n (lst n B D 8) D) (movL n (lst n B (movL n a D) 8) (movL n a D)) ≤ 0 := by
    rw [mov_mov hn ha l2 hD]
    exact lst_le hg (aft_lt ha l2) (hg.aft _ _ ha l2 hb i2)
  have e3 : movL n (lst n B D 8) D = movL n (aftN (invN a) (lst n B D 8)) (movL n a D) := by
    rw [← mov_mov hn (inv_lt ha) l1 hE, mov_mov hn ha (inv_lt ha) hD, (aft_inv ha).1, mov_zero]
  have e2 : lexC (movL n (lst n B (movL n a D) 8) (movL n a D)) (movL n (lst n B D 8) D) ≤ 0 := by
    rw [e3]
    exact lst_le hg (aft_lt (inv_lt ha) l1) (hg.aft _ _ (inv_lt ha) l1 (hg.inv _ ha hb) i1)
  rw [lexC_anti] at e2
  exact (lexC_eq (by rw [movL_len, movL_len, movL_len]) (by omega)).symm
theorem least_to {n : Nat} {B : List Bool} {D E : List Int} (hg : Grp B) (hn : n ≤ 8) (hD : D.length = n * n) (hE : E.length = n * n) (h : movL n (lst n B D 8) D = movL n (lst n B E 8) E) : ∃ a, a < 8 ∧ B.getD a false = true ∧ movL n a D = E := by
  have l1 := lst_lt n B D 8 (Nat.le_refl _)
  have l2 := lst_lt n B E 8 (Nat.le_refl _)
  refine ⟨aftN (lst n B D 8) (invN (lst n B E 8)), aft_lt l1 (inv_lt l2), hg.aft _ _ l1 (inv_lt l2) (lst_in hg) (hg.inv _ l2 (lst_in hg)), ?_⟩
  rw [← mov_mov hn l1 (inv_lt l2) hD, h, mov_mov hn l2 (inv_lt l2) hE, (aft_inv l2).1, mov_zero]
theorem lst_lst {n : Nat} {B : List Bool} {D : List Int} (hg : Grp B) (hn : n ≤ 8) (hD : D.length = n * n) : ∀ i, i ≤ 8 → lst n B (movL n (lst n B D 8) D) i = 0
  | 0, _ => rfl
  | i + 1, hi => by
    have l1 := lst_lt n B D 8 (Nat.le_refl _)
    have ih := lst_lst hg hn hD i (by omega)
    show ite _ _ _ = 0
    rw [ih]
    refine if_neg fun h => ?_
    obtain ⟨hb, hc⟩ := h
    rw [mov_zero, mov_mov hn l1 (by omega) hD, lexC_anti] at hc
    have := lst_le (n := n) (D := D) hg (aft_lt l1 (show i < 8 by omega)) (hg.aft _ _ l1 (by omega) (lst_in hg) hb)
    omega

/-- the first motion that is reached and comes to the other plate -/
def cfB (n n2 : Nat) (B : List Bool) (D E : List Int) (i : Nat) : Bool := B.getD i false && comB n n2 i D E
def fnB (c : Nat → Bool) : Nat → Bool
  | 0 => false
  | i + 1 => fnB c i || c i
def fsN (c : Nat → Bool) : Nat → Nat
  | 0 => 0
  | i + 1 => if fnB c i = true then fsN c i else if c i = true then i else 0
theorem fs_in (c : Nat → Bool) : ∀ i, fnB c i = true → fsN c i < i ∧ c (fsN c i) = true
  | 0, h => by cases h
  | i + 1, h => by
    by_cases h1 : fnB c i = true
    · have e : fsN c (i + 1) = fsN c i := if_pos h1
      rw [e]
      have := fs_in c i h1
      exact ⟨by omega, this.2⟩
    · have h2 : c i = true := by
        have : (fnB c i || c i) = true := h
        rw [Bool.or_eq_true] at this
        exact this.resolve_left h1
      have e : fsN c (i + 1) = i := by show ite _ _ (ite _ _ _) = i; rw [if_neg h1, if_pos h2]
      rw [e]
      exact ⟨by omega, h2⟩
theorem fs_none (c : Nat → Bool) : ∀ i, fnB c i = false → fsN c i = 0 ∧ ∀ j, j < i → c j = false
  | 0, _ => ⟨rfl, fun j hj => by omega⟩
  | i + 1, h => by
    have h' : (fnB c i || c i) = false := h
    rw [Bool.or_eq_false_iff] at h'
    have ih := fs_none c i h'.1
    refine ⟨by show ite _ _ (ite _ _ _) = 0; rw [if_neg (by rw [h'.1]; decide), if_neg (by rw [h'.2]; decide)], fun j hj => ?_⟩
    rcases Nat.lt_or_ge j i with h | h
    · exact ih.2 j h
    · have : j = i := by omega
      subst this; exact h'.2
theorem cf_yes {n n2 i : Nat} {B : List Bool} {D E : List Int} (hn : n ≤ 8) (hi : i < 8) (hD : D.length = n * n) (hE : E.length = n2 * n2) (h : cfB n n2 B D E i = true) : n = n2 ∧ B.getD i false = true ∧ movL n i D = E := by
  unfold cfB at h
  rw [Bool.and_eq_true] at h
  by_cases hnn : n = n2
  · subst hnn
    have h2 := h.2
    rw [comB_eq hn hi hD hE, decide_eq_true_eq] at h2
    exact ⟨rfl, h.1, h2⟩
  · have h2 := h.2
    unfold comB at h2
    rw [decide_eq_false hnn, Bool.false_and] at h2
    cases h2
theorem cf_of {n i : Nat} {B : List Bool} {D E : List Int} (hn : n ≤ 8) (hi : i < 8) (hD : D.length = n * n) (hE : E.length = n * n) (hb : B.getD i false = true) (h : movL n i D = E) : cfB n n B D E i = true := by
  unfold cfB
  rw [hb, Bool.true_and, comB_eq hn hi hD hE, decide_eq_true_eq]
  exact h
/-- alike means that the least ones are the same -/
theorem alike_iff {n n2 : Nat} {B : List Bool} {D E : List Int} (hg : Grp B) (hn : n ≤ 8) (hD : D.length = n * n) (hE : E.length = n2 * n2) :
    fnB (cfB n n2 B D E) 8 = (decide ((n : Int) = n2) && decide (movL n (lst n B D 8) D = movL n2 (lst n2 B E 8) E)) := by
  cases h : fnB (cfB n n2 B D E) 8 with
  | true =>
    obtain ⟨h1, h2⟩ := fs_in _ 8 h
    obtain ⟨rfl, h3, h4⟩ := cf_yes hn h1 hD hE h2
    have := least_eq hg hn h1 h3 hD
    rw [h4] at this
    rw [decide_eq_true rfl, decide_eq_true this.symm]; rfl
  | false =>
    have hN := (fs_none _ 8 h).2
    by_cases hnn : n = n2
    · subst hnn
      rw [decide_eq_true rfl, Bool.true_and]
      refine (decide_eq_false fun he => ?_).symm
      obtain ⟨a, h1, h2, h3⟩ := least_to hg hn hD hE he
      have := cf_of hn h1 hD hE h2 h3
      rw [hN a h1] at this
      cases this
    · rw [decide_eq_false (by omega), Bool.false_and]
theorem alike_mov {n a : Nat} {B : List Bool} {D : List Int} (hg : Grp B) (hn : n ≤ 8) (ha : a < 8) (hb : B.getD a false = true) (hD : D.length = n * n) : fnB (cfB n n B (movL n a D) D) 8 = true := by
  rw [alike_iff hg hn (by rw [movL_len]; exact hD) hD, least_eq hg hn ha hb hD, decide_eq_true rfl, decide_eq_true rfl]; rfl
end Go.Proofs.P

namespace Go.Proofs.P
open Go.As
set_option maxRecDepth 20000
set_option linter.unusedVariables false
set_option linter.unusedSimpArgs false

theorem viewMc3 {h : H} {l1 l2 l3 : List V} {o1 o2 o3} (b1 : ∀ v ∈ l1, bare0 v = true) (h1 : Vw1 h l1 o1) (b2 : ∀ v ∈ l2, bare0 v = true) (h2 : Vw1 h l2 o2) (b3 : ∀ v ∈ l3, bare0 v = true) (h3 : Vw1 h l3 o3) :
    ViewM h [o1, o2, o3] [.cells (ofL l1 0) false none, .cells (ofL l2 0) false none, .cells (ofL l3 0) false none] :=
  viewM_of ⟨viewM1 b1 h1, viewM1 b2 h2, viewM1 b3 h3, trivial⟩ (fun k k' j o o' hk hk' ⟨es, c, hg⟩ => by
    match k with
    | 0 => simp at hk; exact (h1.noMap hk hg).elim
    | 1 => simp at hk; exact (h2.noMap hk hg).elim
    | 2 => simp at hk; exact (h3.noMap hk hg).elim
    | k + 3 => simp at hk)

set_option maxHeartbeats 8000000 in
theorem alikeP_ok (h : H) (n n2 : Nat) (hn : 1 ≤ n ∧ n ≤ 8) (hn2 : 1 ≤ n2 ∧ n2 ≤ 8) (D E : List Int) (hD : D.length = n * n) (hE : E.length = n2 * n2) (hw : wi 0 3 D = true) (hw2 : wi 0 3 E = true)
    (b1 o1 c1 : Nat) (e1 : Bool) (hs1 : SlC h (iVs D) D.length (.sl b1 o1 D.length c1 e1)) (b2 o2 c2 : Nat) (e2 : Bool) (hs2 : SlC h (iVs E) E.length (.sl b2 o2 E.length c2 e2)) (K : List Int) (Kn : List Nat) (hK : Kd K Kn) (hk : akB (-1) K = true) (kv : V) (hkv : SlC h (iVs K) K.length kv) :
    CallOk Try.prog 45 [plateV n (.sl b1 o1 D.length c1 e1), plateV n2 (.sl b2 o2 E.length c2 e2), kv] h (.tup [.int .i64 (fsN (cfB n n2 (reachB Kn) D E) 8 : Nat), .int .i64 (if fnB (cfB n n2 (reachB Kn) D E) 8 = true then 0 else 5)]) h := by
  obtain ⟨v1, s1, q1, ca1, w1⟩ := hs1.view 0
  obtain ⟨v2, s2, q2, ca2, w2⟩ := hs2.view 1
  obtain ⟨v3, s3, q3, ca3, w3⟩ := hkv.view 2
  have hN : 1 ≤ D.length ∧ D.length ≤ 64 := by
    rw [hD]
    have h1 : 1 * 1 ≤ n * n := Nat.mul_le_mul hn.1 hn.1
    have h2 : n * n ≤ 8 * 8 := Nat.mul_le_mul hn.2 hn.2
    omega
  have hN2 : 1 ≤ E.length ∧ E.length ≤ 64 := by
    rw [hE]
    have h1 : 1 * 1 ≤ n2 * n2 := Nat.mul_le_mul hn2.1 hn2.1
    have h2 : n2 * n2 ≤ 8 * 8 := Nat.mul_le_mul hn2.2 hn2.2
    omega
  obtain ⟨cp1, ex1, rfl⟩ : ∃ cap ex, s1 = .sl 0 0 D.length cap ex := by
    cases q1 with
    | nil h0 => omega
    | sl => exact ⟨_, _, rfl⟩
  obtain ⟨cp2, ex2, rfl⟩ : ∃ cap ex, s2 = .sl 1 0 E.length cap ex := by
    cases q2 with
    | nil h0 => omega
    | sl => exact ⟨_, _, rfl⟩
  have hB1 := @iVs_bare D
  have hB2 := @iVs_bare E
  have hB3 := @iVs_bare K
  have hlr := reachB_len hK hk
  have kR := fun h' kv hs' => reachedFor_ok h' K Kn hK hk kv hs'
  have kcl : K.length ≤ 8 := by have := hK.len; rw [hK.eq, List.length_map]; omega
  generalize reachB Kn = B at *
  obtain ⟨t0, t1, t2, t3, t4, t5, t6, t7, rfl⟩ := ex8 hlr
  obtain ⟨c, hcdef⟩ : ∃ c, cfB n n2 [t0, t1, t2, t3, t4, t5, t6, t7] D E = c := ⟨_, rfl⟩
  have kc : ∀ i, c i = ([t0, t1, t2, t3, t4, t5, t6, t7].getD i false && comB n n2 i D E) := fun i => by rw [← hcdef]; rfl
  rw [hcdef]
  clear hcdef
  have kF : ∀ i, fnB c (i + 1) = (fnB c i || c i) := fun i => rfl
  have kS : ∀ i, fsN c (i + 1) = if fnB c i = true then fsN c i else if c i = true then i else 0 := fun i => rfl
  have kI := fs_in c
  have kF0 : fnB c 0 = false := rfl
  have kS0 : fsN c 0 = 0 := rfl
  have kN : ∀ i, fnB c i = false → fsN c i = 0 := fun i h => (fs_none c i h).1
  generalize fnB c = F at *
  generalize fsN c = G at *
  obtain ⟨m8, hm8⟩ : ∃ m, G 8 = m := ⟨_, rfl⟩
  obtain ⟨f8, hf8⟩ : ∃ m, F 8 = m := ⟨_, rfl⟩
  rw [hm8, hf8]
  refine CallOk.run Try.func45 rfl rfl (argsC := [plateV n (.sl 0 0 D.length cp1 ex1), plateV n2 (.sl 1 0 E.length cp2 ex2), s3]) (Nat.le_of_ble_eq_true rfl) [v1, v2, v3] (.cons (CaL.agg (.cons (.bare rfl) (.cons (ca1 _ rfl) .nil))) (.cons (CaL.agg (.cons (.bare rfl) (.cons (ca2 _ rfl) .nil))) (.cons (ca3 _ rfl) .nil))) (viewMc3 hB1 w1 hB2 w2 hB3 w3) rfl (WpR.of_vc ?_)
  cases q3
  all_goals
    (conv => whnf); (repeat' (first | ((with_reducible refine ifb_mk (fun hc => ?_) (fun hc => ?_)) <;> ((try simp only [decide_eq_true_eq, decide_eq_false_iff_not, Bool.not_eq_true', Bool.not_eq_false', Int.not_lt, Int.not_le, ne_eq, Decidable.not_not, beq_iff_eq, List.cons.injEq, and_true] at hc); (first | (exfalso; omega) | conv => whnf))) | ((with_reducible refine And.intro True.intro ?_); conv => whnf) | ((with_reducible refine CallX.all ?_); refine tableFor_new _ n hn D hD hw 0 0 cp1 ex1 (SlC.own rfl) ?_; conv => whnf) | ((with_reducible refine CallX.all ?_); refine tableFor_new _ n2 hn2 E hE hw2 1 0 cp2 ex2 (SlC.own rfl) ?_; conv => whnf) | ((with_reducible refine CallX.all ?_); refine CallW.of_ok (kR _ _ (by first | exact SlC.own rfl | exact iNil (by omega))) ?_; conv => whnf) | ((with_reducible refine CallX.all (f := 65) ?_); refine CallW.inline Try.func65 rfl rfl (Nat.le_of_ble_eq_true rfl) (WpR.of_vc ?_); conv => whnf) | ((with_reducible refine CallX.all (f := 87) ?_); refine CallW.inline Try.func87 rfl rfl (Nat.le_of_ble_eq_true rfl) (WpR.of_vc ?_); conv => whnf) | ((with_reducible refine RangeX.all ?_); conv => whnf) | ((with_reducible refine CallW.inline (f := 101) Try.func101 rfl rfl (Nat.le_of_ble_eq_true rfl) (WpR.of_vc ?_)); conv => whnf) | ((with_reducible refine And.intro ?hh ?_); (case hh => (unfold InR; (try dsimp only); omega)); conv => whnf) | ((with_reducible refine And.intro ?hh ?_); (case hh => ((try dsimp only); omega)); conv => whnf) | ((with_reducible refine And.intro ?hh ?_); (case hh => ((conv => whnf); (repeat' (first | exact True.intro | rfl | refine And.intro ?_ ?_)); done)); conv => whnf) | fail))
    · have hMap : ∀ i : Nat, ltB 16 (.cells (ofL [.int .i64 (G i : Nat)] 0) true none) := fun i => ltB_ofL (fun v hv => by rw [List.mem_singleton] at hv; subst hv; rfl)
      have hMap2 : ∀ i : Nat, ltB 16 (.cells (ofL [.bool (F i)] 0) true none) := fun i => ltB_ofL (fun v hv => by rw [List.mem_singleton] at hv; subst hv; rfl)
      have hMm : ltB 16 (.map (esP n D (nzL D)) D.length) := ltB_esP
      have hMm2 : ltB 16 (.map (esP n2 E (nzL E)) E.length) := ltB_esP
      have hbi0 : ∀ (i : Nat), ∀ v ∈ [V.int .i64 (G i : Nat)], bare0 v = true := fun i v hv => by rw [List.mem_singleton] at hv; subst hv; rfl
      have hbb : ∀ (b : Bool), ∀ v ∈ [V.bool b], bare0 v = true := fun i v hv => by rw [List.mem_singleton] at hv; subst hv; rfl
      have hq1 : SubQ (rho []) (.cells (ofL [.int .i64 (G 0 : Nat)] 0) true none) (.cells (ofL [.int .i64 0] 0) true none) := by rw [kS0]; exact SubQ.ofL rfl (fun v hv => by rw [List.mem_singleton] at hv; subst hv; rfl) (.inl rfl)
      have hq2 : SubQ (rho []) (.cells (ofL [.bool (F 0)] 0) true none) (.cells (ofL [.bool false] 0) true none) := by rw [kF0]; exact SubQ.ofL rfl (fun v hv => by rw [List.mem_singleton] at hv; subst hv; rfl) (.inl rfl)
      refine WpR.loopD (ι := Nat) [] [0, 1] [12, 13] [] 16 (fun i => [(4, .int .i64 i)]) (fun i => [(12, .cells (ofL [.int .i64 (G i : Nat)] 0) true none), (13, .cells (ofL [.bool (F i)] 0) true none)]) (fun i => 8 - i) (fun i => i ≤ 8) ?_ (0) (Nat.zero_le _) [] ⟨rfl, rfl, (by (repeat' (first | exact True.intro | rfl | refine And.intro ?_ ?_))), (by (repeat' (first | exact True.intro | rfl | refine And.intro ?_ ?_))), (by (repeat' (first | exact True.intro | rfl | refine And.intro ?_ ?_))), ⟨.inr ⟨_, rfl, hq1⟩, ⟨.inr ⟨_, rfl, hq2⟩, trivial⟩⟩, rfl, rfl⟩ rfl rfl rfl (fun _ => rfl) (by (repeat' (first | exact True.intro | refine And.intro ?_ ?_ | exact avV_nil _ | rfl))) (by (repeat' (first | exact True.intro | (with_reducible exact avB_nil _) | ((with_reducible refine avB_all ?_); rfl) | ((with_reducible refine avB_ofLb ?_); exact (by first | exact bare0_ints | assumption | exact bVs_bare | exact iVs_bare | exact mVs_bare | (intro v hv; (repeat (rcases List.mem_cons.1 hv with rfl | hv; exact rfl)); cases hv))) | ((with_reducible refine ltB_all ?_); rfl) | ((with_reducible refine ltB_ofLb ?_); exact (by first | exact bare0_ints | assumption | exact bVs_bare | exact iVs_bare | exact mVs_bare | (intro v hv; (repeat (rcases List.mem_cons.1 hv with rfl | hv; exact rfl)); cases hv))) | ((with_reducible refine ltB_loop ?_ ?_) <;> rfl) | (with_reducible exact hMap _) | (with_reducible exact hMap2 _) | (with_reducible exact ltB_encL) | (with_reducible exact ltB_map0) | ((with_reducible refine grB_lt ?_ _); exact (by first | exact bare0_ints | assumption | exact bVs_bare | exact iVs_bare | exact mVs_bare | (intro v hv; (repeat (rcases List.mem_cons.1 hv with rfl | hv; exact rfl)); cases hv))) | (with_reducible assumption) | refine And.intro ?_ ?_ | exact (by first | exact True.intro | exact ltB_all rfl | exact ltB_ofLb (by first | exact bare0_ints | assumption | exact bVs_bare | exact iVs_bare | exact mVs_bare | (intro v hv; (repeat (rcases List.mem_cons.1 hv with rfl | hv; exact rfl)); cases hv)) | exact ltB_loop rfl rfl | exact hMap _ | exact hMap2 _ | exact grB_lt (by first | exact bare0_ints | assumption | exact bVs_bare | exact iVs_bare | exact mVs_bare | (intro v hv; (repeat (rcases List.mem_cons.1 hv with rfl | hv; exact rfl)); cases hv)) _ | exact ltB_encL | exact ltB_map0 | assumption)))) (fun _ _ => (by (repeat' (first | exact True.intro | rfl | refine And.intro ?_ ?_ | exact (by decide) | exact (by first | exact True.intro | exact hMap _ | exact hMap2 _ | exact grB_lt (by first | exact bare0_ints | assumption | exact bVs_bare | exact iVs_bare | exact mVs_bare | (intro v hv; (repeat (rcases List.mem_cons.1 hv with rfl | hv; exact rfl)); cases hv)) _ | exact ltB_all rfl | exact ltB_ofLb (by first | exact bare0_ints | assumption | exact bVs_bare | exact iVs_bare | exact mVs_bare | (intro v hv; (repeat (rcases List.mem_cons.1 hv with rfl | hv; exact rfl)); cases hv)) | exact ltB_loop rfl rfl | exact ltB_encL | exact ltB_map0 | assumption))))) (fun _ _ => (by (repeat' (first | exact True.intro | rfl | refine And.intro ?_ ?_ | exact (by decide) | exact (by first | exact True.intro | exact hMap _ | exact hMap2 _ | exact grB_lt (by first | exact bare0_ints | assumption | exact bVs_bare | exact iVs_bare | exact mVs_bare | (intro v hv; (repeat (rcases List.mem_cons.1 hv with rfl | hv; exact rfl)); cases hv)) _ | exact ltB_all rfl | exact ltB_ofLb (by first | exact bare0_ints | assumption | exact bVs_bare | exact iVs_bare | exact mVs_bare | (intro v hv; (repeat (rcases List.mem_cons.1 hv with rfl | hv; exact rfl)); cases hv)) | exact ltB_loop rfl rfl | exact ltB_encL | exact ltB_map0 | assumption))))) (fun _ _ => (by (repeat' (first | exact True.intro | rfl | refine And.intro ?_ ?_)))) rfl
      rintro i i1
      refine WpR.of_vc ?_
      by_cases hi : i < 8
      · obtain ⟨bi, hbi⟩ : ∃ bi, [t0, t1, t2, t3, t4, t5, t6, t7][i]? = some bi := ⟨_, List.getElem?_eq_getElem hi⟩
        have kH := fun h' => has8_ok h' [t0, t1, t2, t3, t4, t5, t6, t7] rfl i bi hbi
        have kci := kc i
        rw [List.getD_eq_getElem?_getD, hbi] at kci
        have kCo := fun h' hs1 hs2 hj hj2 => comesTo_ok h' n n2 i hn hn2 hi D E hD hE (iVs D) (iVs E) iVs_bare iVs_bare 0 0 cp1 ex1 1 0 cp2 ex2 hs1 hs2 5 7 (by decide) hj hj2
        generalize comB n n2 i D E = cb at *
        have stay : c i = false → F (i + 1) = F i ∧ G (i + 1) = G i := fun h => by
          rw [kF, kS, h, Bool.or_false]
          refine ⟨rfl, ?_⟩
          cases hF : F i with
          | true => exact if_pos rfl
          | false => rw [kN i hF]; rfl
        cases bi with
        | false =>
          obtain ⟨eF, eG⟩ := stay kci
          (conv => whnf); (repeat' (first | ((with_reducible refine ifb_mk (fun hc => ?_) (fun hc => ?_)) <;> ((try simp only [decide_eq_true_eq, decide_eq_false_iff_not, Bool.not_eq_true', Bool.not_eq_false', Int.not_lt, Int.not_le, ne_eq, Decidable.not_not, beq_iff_eq, List.cons.injEq, and_true] at hc); (first | (exfalso; omega) | conv => whnf))) | ((with_reducible refine And.intro True.intro ?_); conv => whnf) | ((with_reducible refine CallX.all (f := 91) ?_); refine CallW.inline Try.func91 rfl rfl (Nat.le_of_ble_eq_true rfl) (WpR.of_vc ?_); conv => whnf) | ((with_reducible refine CallX.all ?_); refine CallW.of_ok (kH _) ?_; conv => whnf) | ((with_reducible refine And.intro ?hh ?_); (case hh => (unfold InR; (try dsimp only); omega)); conv => whnf) | ((with_reducible refine And.intro ?hh ?_); (case hh => ((try dsimp only); omega)); conv => whnf) | ((with_reducible refine And.intro ?hh ?_); (case hh => ((conv => whnf); (repeat' (first | exact True.intro | rfl | refine And.intro ?_ ?_)); done)); conv => whnf) | fail))
          exact ⟨i + 1, [], by omega, by omega, ⟨rfl, rfl, (by (repeat' (first | exact True.intro | rfl | refine And.intro ?_ ?_))), (by (repeat' (first | exact True.intro | rfl | refine And.intro ?_ ?_))), (by (repeat' (first | exact True.intro | rfl | refine And.intro ?_ ?_))), ⟨.inr ⟨_, rfl, SubQ.ofL (by rw [eG]) (hbi0 _) (.inl rfl)⟩, ⟨.inr ⟨_, rfl, SubQ.ofL (by rw [eF]) (hbb _) (.inl rfl)⟩, trivial⟩⟩, rfl, rfl⟩⟩
        | true =>
          have kci2 : c i = cb := kci
          cases cb with
          | false =>
            obtain ⟨eF, eG⟩ := stay kci2
            (conv => whnf); (repeat' (first | ((with_reducible refine ifb_mk (fun hc => ?_) (fun hc => ?_)) <;> ((try simp only [decide_eq_true_eq, decide_eq_false_iff_not, Bool.not_eq_true', Bool.not_eq_false', Int.not_lt, Int.not_le, ne_eq, Decidable.not_not, beq_iff_eq, List.cons.injEq, and_true] at hc); (first | (exfalso; omega) | conv => whnf))) | ((with_reducible refine And.intro True.intro ?_); conv => whnf) | ((with_reducible refine CallX.all (f := 91) ?_); refine CallW.inline Try.func91 rfl rfl (Nat.le_of_ble_eq_true rfl) (WpR.of_vc ?_); conv => whnf) | ((with_reducible refine CallX.all ?_); refine CallW.of_ok (kH _) ?_; conv => whnf) | ((with_reducible refine CallX.all ?_); refine CallW.of_ok (kCo _ (SlC.own rfl) (SlC.own rfl) rfl rfl) ?_; conv => whnf) | ((with_reducible refine And.intro ?hh ?_); (case hh => (unfold InR; (try dsimp only); omega)); conv => whnf) | ((with_reducible refine And.intro ?hh ?_); (case hh => ((try dsimp only); omega)); conv => whnf) | ((with_reducible refine And.intro ?hh ?_); (case hh => ((conv => whnf); (repeat' (first | exact True.intro | rfl | refine And.intro ?_ ?_)); done)); conv => whnf) | fail))
            exact ⟨i + 1, [], by omega, by omega, ⟨rfl, rfl, (by (repeat' (first | exact True.intro | rfl | refine And.intro ?_ ?_))), (by (repeat' (first | exact True.intro | rfl | refine And.intro ?_ ?_))), (by (repeat' (first | exact True.intro | rfl | refine And.intro ?_ ?_))), ⟨.inr ⟨_, rfl, SubQ.ofL (by rw [eG]) (hbi0 _) (.inl rfl)⟩, ⟨.inr ⟨_, rfl, SubQ.ofL (by rw [eF]) (hbb _) (.inl rfl)⟩, trivial⟩⟩, rfl, rfl⟩⟩
          | true =>
            cases hF : F i with
            | true =>
              have eF : F (i + 1) = true := by rw [kF, hF]; rfl
              have eG : G (i + 1) = G i := by rw [kS, hF]; exact if_pos rfl
              have hlt := (kI i hF).1
              have kCm := fun h' => compare_ok h' i (G i)
              have e1 : c3 (i : Int) (G i : Nat) = 1 := by unfold c3; rw [if_neg (by omega), if_pos (by omega)]
              rw [e1] at kCm
              (conv => whnf); (repeat' (first | ((with_reducible refine ifb_mk (fun hc => ?_) (fun hc => ?_)) <;> ((try simp only [decide_eq_true_eq, decide_eq_false_iff_not, Bool.not_eq_true', Bool.not_eq_false', Int.not_lt, Int.not_le, ne_eq, Decidable.not_not, beq_iff_eq, List.cons.injEq, and_true] at hc); (first | (exfalso; omega) | conv => whnf))) | ((with_reducible refine And.intro True.intro ?_); conv => whnf) | ((with_reducible refine CallX.all (f := 91) ?_); refine CallW.inline Try.func91 rfl rfl (Nat.le_of_ble_eq_true rfl) (WpR.of_vc ?_); conv => whnf) | ((with_reducible refine CallX.all ?_); refine CallW.of_ok (kH _) ?_; conv => whnf) | ((with_reducible refine CallX.all ?_); refine CallW.of_ok (kCo _ (SlC.own rfl) (SlC.own rfl) rfl rfl) ?_; conv => whnf) | ((with_reducible refine And.intro ?hh ?_); (case hh => (unfold InR; (try dsimp only); omega)); conv => whnf) | ((with_reducible refine And.intro ?hh ?_); (case hh => ((try dsimp only); omega)); conv => whnf) | ((with_reducible refine And.intro ?hh ?_); (case hh => ((conv => whnf); (repeat' (first | exact True.intro | rfl | refine And.intro ?_ ?_)); done)); conv => whnf) | fail))
              refine YldX.all ?_
              refine YldW.inline rfl rfl rfl (WpR.of_vc ?_)
              conv => whnf
              refine ⟨rfl, _, rfl, rfl, WpR.of_vc ?_⟩
              (conv => whnf); (repeat' (first | ((with_reducible refine ifb_mk (fun hc => ?_) (fun hc => ?_)) <;> ((try simp only [decide_eq_true_eq, decide_eq_false_iff_not, Bool.not_eq_true', Bool.not_eq_false', Int.not_lt, Int.not_le, ne_eq, Decidable.not_not, beq_iff_eq, List.cons.injEq, and_true] at hc); (first | (exfalso; omega) | conv => whnf))) | ((with_reducible refine And.intro True.intro ?_); conv => whnf) | ((with_reducible refine CallX.all ?_); refine CallW.of_ok (kCm _) ?_; conv => whnf) | ((with_reducible refine And.intro ?hh ?_); (case hh => (unfold InR; (try dsimp only); omega)); conv => whnf) | ((with_reducible refine And.intro ?hh ?_); (case hh => ((try dsimp only); omega)); conv => whnf) | ((with_reducible refine And.intro ?hh ?_); (case hh => ((conv => whnf); (repeat' (first | exact True.intro | rfl | refine And.intro ?_ ?_)); done)); conv => whnf) | fail))
              refine ⟨_, _, rfl, ?_⟩
              (conv => whnf); (repeat' (first | ((with_reducible refine ifb_mk (fun hc => ?_) (fun hc => ?_)) <;> ((try simp only [decide_eq_true_eq, decide_eq_false_iff_not, Bool.not_eq_true', Bool.not_eq_false', Int.not_lt, Int.not_le, ne_eq, Decidable.not_not, beq_iff_eq, List.cons.injEq, and_true] at hc); (first | (exfalso; omega) | conv => whnf))) | ((with_reducible refine And.intro True.intro ?_); conv => whnf) | ((with_reducible refine And.intro ?hh ?_); (case hh => (unfold InR; (try dsimp only); omega)); conv => whnf) | ((with_reducible refine And.intro ?hh ?_); (case hh => ((try dsimp only); omega)); conv => whnf) | ((with_reducible refine And.intro ?hh ?_); (case hh => ((conv => whnf); (repeat' (first | exact True.intro | rfl | refine And.intro ?_ ?_)); done)); conv => whnf) | fail))
              exact ⟨i + 1, [], by omega, by omega, ⟨rfl, rfl, (by (repeat' (first | exact True.intro | rfl | refine And.intro ?_ ?_))), (by (repeat' (first | exact True.intro | rfl | refine And.intro ?_ ?_))), (by (repeat' (first | exact True.intro | rfl | refine And.intro ?_ ?_))), ⟨.inr ⟨_, rfl, SubQ.ofL (by rw [eG]) (hbi0 _) (.inl rfl)⟩, ⟨.inr ⟨_, rfl, SubQ.ofL (by rw [eF]) (hbb _) (.inl rfl)⟩, trivial⟩⟩, rfl, rfl⟩⟩
            | false =>
              have eF : F (i + 1) = true := by rw [kF, kci2]; exact Bool.or_true _
              have eG : G (i + 1) = i := by rw [kS, hF, kci2]; rfl
              (conv => whnf); (repeat' (first | ((with_reducible refine ifb_mk (fun hc => ?_) (fun hc => ?_)) <;> ((try simp only [decide_eq_true_eq, decide_eq_false_iff_not, Bool.not_eq_true', Bool.not_eq_false', Int.not_lt, Int.not_le, ne_eq, Decidable.not_not, beq_iff_eq, List.cons.injEq, and_true] at hc); (first | (exfalso; omega) | conv => whnf))) | ((with_reducible refine And.intro True.intro ?_); conv => whnf) | ((with_reducible refine CallX.all (f := 91) ?_); refine CallW.inline Try.func91 rfl rfl (Nat.le_of_ble_eq_true rfl) (WpR.of_vc ?_); conv => whnf) | ((with_reducible refine CallX.all ?_); refine CallW.of_ok (kH _) ?_; conv => whnf) | ((with_reducible refine CallX.all ?_); refine CallW.of_ok (kCo _ (SlC.own rfl) (SlC.own rfl) rfl rfl) ?_; conv => whnf) | ((with_reducible refine And.intro ?hh ?_); (case hh => (unfold InR; (try dsimp only); omega)); conv => whnf) | ((with_reducible refine And.intro ?hh ?_); (case hh => ((try dsimp only); omega)); conv => whnf) | ((with_reducible refine And.intro ?hh ?_); (case hh => ((conv => whnf); (repeat' (first | exact True.intro | rfl | refine And.intro ?_ ?_)); done)); conv => whnf) | fail))
              refine YldX.all ?_
              refine YldW.inline rfl rfl rfl (WpR.of_vc ?_)
              conv => whnf
              refine ⟨rfl, _, rfl, rfl, WpR.of_vc ?_⟩
              (conv => whnf); (repeat' (first | ((with_reducible refine ifb_mk (fun hc => ?_) (fun hc => ?_)) <;> ((try simp only [decide_eq_true_eq, decide_eq_false_iff_not, Bool.not_eq_true', Bool.not_eq_false', Int.not_lt, Int.not_le, ne_eq, Decidable.not_not, beq_iff_eq, List.cons.injEq, and_true] at hc); (first | (exfalso; omega) | conv => whnf))) | ((with_reducible refine And.intro True.intro ?_); conv => whnf) | ((with_reducible refine And.intro ?hh ?_); (case hh => (unfold InR; (try dsimp only); omega)); conv => whnf) | ((with_reducible refine And.intro ?hh ?_); (case hh => ((try dsimp only); omega)); conv => whnf) | ((with_reducible refine And.intro ?hh ?_); (case hh => ((conv => whnf); (repeat' (first | exact True.intro | rfl | refine And.intro ?_ ?_)); done)); conv => whnf) | fail))
              refine ⟨_, _, rfl, ?_⟩
              (conv => whnf); (repeat' (first | ((with_reducible refine ifb_mk (fun hc => ?_) (fun hc => ?_)) <;> ((try simp only [decide_eq_true_eq, decide_eq_false_iff_not, Bool.not_eq_true', Bool.not_eq_false', Int.not_lt, Int.not_le, ne_eq, Decidable.not_not, beq_iff_eq, List.cons.injEq, and_true] at hc); (first | (exfalso; omega) | conv => whnf))) | ((with_reducible refine And.intro True.intro ?_); conv => whnf) | ((with_reducible refine And.intro ?hh ?_); (case hh => (unfold InR; (try dsimp only); omega)); conv => whnf) | ((with_reducible refine And.intro ?hh ?_); (case hh => ((try dsimp only); omega)); conv => whnf) | ((with_reducible refine And.intro ?hh ?_); (case hh => ((conv => whnf); (repeat' (first | exact True.intro | rfl | refine And.intro ?_ ?_)); done)); conv => whnf) | fail))
              exact ⟨i + 1, [], by omega, by omega, ⟨rfl, rfl, (by (repeat' (first | exact True.intro | rfl | refine And.intro ?_ ?_))), (by (repeat' (first | exact True.intro | rfl | refine And.intro ?_ ?_))), (by (repeat' (first | exact True.intro | rfl | refine And.intro ?_ ?_))), ⟨.inr ⟨_, rfl, by rw [eG]; exact SubQ.fin (by (conv => whnf); (repeat' (first | exact True.intro | rfl | refine And.intro ?_ ?_)); done) (fun h => h) (.inl rfl)⟩, ⟨.inr ⟨_, rfl, by rw [eF]; exact SubQ.fin (by (conv => whnf); (repeat' (first | exact True.intro | rfl | refine And.intro ?_ ?_)); done) (fun h => h) (.inl rfl)⟩, trivial⟩⟩, rfl, rfl⟩⟩
      · have e : i = 8 := by omega
        subst e
        rw [hm8, hf8]
        cases f8 with
        | true =>
          (conv => whnf); (repeat' (first | ((with_reducible refine ifb_mk (fun hc => ?_) (fun hc => ?_)) <;> ((try simp only [decide_eq_true_eq, decide_eq_false_iff_not, Bool.not_eq_true', Bool.not_eq_false', Int.not_lt, Int.not_le, ne_eq, Decidable.not_not, beq_iff_eq, List.cons.injEq, and_true] at hc); (first | (exfalso; omega) | conv => whnf))) | ((with_reducible refine And.intro True.intro ?_); conv => whnf) | ((with_reducible refine WpR.draw (id := 7) mixed [0, 1, 2, 3] [0, 0, 1, 7] ?hh ?_); (case hh => kernel_rfl); conv => whnf) | ((with_reducible refine And.intro ?hh ?_); (case hh => (unfold InR; (try dsimp only); omega)); conv => whnf) | ((with_reducible refine And.intro ?hh ?_); (case hh => ((try dsimp only); omega)); conv => whnf) | ((with_reducible refine And.intro ?hh ?_); (case hh => ((conv => whnf); (repeat' (first | exact True.intro | rfl | refine And.intro ?_ ?_)); done)); conv => whnf) | fail))
          all_goals first | exact True.intro | (refine ⟨[], ?_, rfl, rfl, trivial, (by (repeat' (first | exact True.intro | rfl | refine And.intro ?_ ?_)))⟩; simp only [renV, renL]; (first | done | rfl | simp | grind)) | trace_state
        | false =>
          have e0 := kN 8 hf8
          rw [hm8] at e0
          subst e0
          (conv => whnf); (repeat' (first | ((with_reducible refine ifb_mk (fun hc => ?_) (fun hc => ?_)) <;> ((try simp only [decide_eq_true_eq, decide_eq_false_iff_not, Bool.not_eq_true', Bool.not_eq_false', Int.not_lt, Int.not_le, ne_eq, Decidable.not_not, beq_iff_eq, List.cons.injEq, and_true] at hc); (first | (exfalso; omega) | conv => whnf))) | ((with_reducible refine And.intro True.intro ?_); conv => whnf) | ((with_reducible refine WpR.draw (id := 7) mixed [0, 1, 2, 3] [0, 0, 1, 7] ?hh ?_); (case hh => kernel_rfl); conv => whnf) | ((with_reducible refine And.intro ?hh ?_); (case hh => (unfold InR; (try dsimp only); omega)); conv => whnf) | ((with_reducible refine And.intro ?hh ?_); (case hh => ((try dsimp only); omega)); conv => whnf) | ((with_reducible refine And.intro ?hh ?_); (case hh => ((conv => whnf); (repeat' (first | exact True.intro | rfl | refine And.intro ?_ ?_)); done)); conv => whnf) | fail))
          all_goals first | exact True.intro | (refine ⟨[], ?_, rfl, rfl, trivial, (by (repeat' (first | exact True.intro | rfl | refine And.intro ?_ ?_)))⟩; simp only [renV, renL]; (first | done | rfl | simp | grind)) | trace_state
end Go.Proofs.P

namespace Go.Proofs.P
open Go.As
set_option maxRecDepth 20000
set_option linter.unusedVariables false
set_option linter.unusedSimpArgs false

/-! ### behind: is a list behind another one? -/

theorem lexC_drop {A B : List Int} {i : Nat} {x y : Int} (hx : A[i]? = some x) (hy : B[i]? = some y) : lexC (A.drop i) (B.drop i) = if c3 x y = 0 then lexC (A.drop (i + 1)) (B.drop (i + 1)) else c3 x y := by
  rw [drop_at hx, drop_at hy]; rfl
set_option maxHeartbeats 2000000 in
theorem behind_ok (h : H) (A B : List Int) (b1 o1 c1 : Nat) (e1 : Bool) (b2 o2 c2 : Nat) (e2 : Bool) (h0 : 1 ≤ A.length) (hl : A.length ≤ 9223372036854775807) (hl2 : A.length = B.length) (h1 : SlC h (iVs A) A.length (.sl b1 o1 A.length c1 e1)) (h2 : SlC h (iVs B) B.length (.sl b2 o2 B.length c2 e2)) :
    CallOk Try.prog 57 [.sl b1 o1 A.length c1 e1, .sl b2 o2 B.length c2 e2] h (.bool (decide (0 < lexC A B))) h := by
  obtain ⟨v1, s1, q1, ca1, w1⟩ := h1.view 0
  obtain ⟨v2, s2, q2, ca2, w2⟩ := h2.view 1
  obtain ⟨cp1, ex1, rfl⟩ : ∃ cap ex, s1 = .sl 0 0 A.length cap ex := by
    cases q1 with
    | nil h0 => omega
    | sl => exact ⟨_, _, rfl⟩
  obtain ⟨cp2, ex2, rfl⟩ : ∃ cap ex, s2 = .sl 1 0 B.length cap ex := by
    cases q2 with
    | nil h0 => omega
    | sl => exact ⟨_, _, rfl⟩
  have hB1 := @iVs_bare A
  have hB2 := @iVs_bare B
  refine CallOk.run Try.func57 rfl rfl (argsC := [.sl 0 0 A.length cp1 ex1, .sl 1 0 B.length cp2 ex2]) (Nat.le_of_ble_eq_true rfl) [v1, v2] (.cons (ca1 _ rfl) (.cons (ca2 _ rfl) .nil)) (viewMc2 iVs_bare w1 iVs_bare w2) rfl (WpR.of_vc ?_)
  (conv => whnf); (repeat' (first | ((with_reducible refine ifb_mk (fun hc => ?_) (fun hc => ?_)) <;> ((try simp only [decide_eq_true_eq, decide_eq_false_iff_not, Bool.not_eq_true', Bool.not_eq_false', Int.not_lt, Int.not_le, ne_eq, Decidable.not_not, beq_iff_eq, List.cons.injEq, and_true] at hc); (first | (exfalso; omega) | conv => whnf))) | ((with_reducible refine And.intro True.intro ?_); conv => whnf) | ((with_reducible refine And.intro ?hh ?_); (case hh => (unfold InR; (try dsimp only); omega)); conv => whnf) | ((with_reducible refine And.intro ?hh ?_); (case hh => ((try dsimp only); omega)); conv => whnf) | ((with_reducible refine And.intro ?hh ?_); (case hh => ((conv => whnf); (repeat' (first | exact True.intro | rfl | refine And.intro ?_ ?_)); done)); conv => whnf) | fail))
  show WpR Try.prog _ _ _ _ ⟨_, _, _, ⟨_, 2, 0⟩⟩ _
  refine WpR.loopD (ι := Nat) [] [0, 1] [] [] 2 (fun i => [(5, .int .i64 i)]) (fun _ => []) (fun i => A.length - i) (fun i => i ≤ A.length ∧ lexC A B = lexC (A.drop i) (B.drop i)) ?_ (0) (⟨Nat.zero_le _, rfl⟩) [] ⟨rfl, rfl, (by (repeat' (first | exact True.intro | rfl | refine And.intro ?_ ?_))), (by (repeat' (first | exact True.intro | rfl | refine And.intro ?_ ?_))), (by (repeat' (first | exact True.intro | rfl | refine And.intro ?_ ?_))), (by (repeat' (first | exact True.intro | exact Or.inl rfl | refine And.intro ?_ ?_ | refine Or.inr ⟨_, rfl, ?_⟩ | exact SubQ.same (n := 1000) (Y := []) (fun _ _ _ => rfl) (by first | exact True.intro | exact ltB_all rfl | exact ltB_ofLb (by first | exact bare0_ints | assumption | exact bVs_bare | exact iVs_bare | exact mVs_bare | (intro v hv; (repeat (rcases List.mem_cons.1 hv with rfl | hv; exact rfl)); cases hv)) | exact ltB_loop rfl rfl | exact hMap _ | exact hMap2 _ | exact grB_lt (by first | exact bare0_ints | assumption | exact bVs_bare | exact iVs_bare | exact mVs_bare | (intro v hv; (repeat (rcases List.mem_cons.1 hv with rfl | hv; exact rfl)); cases hv)) _ | exact ltB_encL | exact ltB_map0 | assumption) (avB_nil _) rfl | exact SubQ.ofL (by first | rfl | simp) (by first | exact bare0_ints | assumption | exact bVs_bare | exact iVs_bare | exact mVs_bare | (intro v hv; (repeat (rcases List.mem_cons.1 hv with rfl | hv; exact rfl)); cases hv)) (by first | exact Or.inl rfl | exact Or.inr rfl) | exact SubQ.fin (by (conv => whnf); (repeat' (first | exact True.intro | rfl | refine And.intro ?_ ?_)); done) (fun h => h) (by first | exact Or.inl rfl | exact Or.inr rfl)))), rfl, rfl⟩ rfl rfl rfl (fun _ => rfl) (by (repeat' (first | exact True.intro | refine And.intro ?_ ?_ | exact avV_nil _ | rfl))) (by (repeat' (first | exact True.intro | (with_reducible exact avB_nil _) | ((with_reducible refine avB_all ?_); rfl) | ((with_reducible refine avB_ofLb ?_); exact (by first | exact bare0_ints | assumption | exact bVs_bare | exact iVs_bare | exact mVs_bare | (intro v hv; (repeat (rcases List.mem_cons.1 hv with rfl | hv; exact rfl)); cases hv))) | ((with_reducible refine ltB_all ?_); rfl) | ((with_reducible refine ltB_ofLb ?_); exact (by first | exact bare0_ints | assumption | exact bVs_bare | exact iVs_bare | exact mVs_bare | (intro v hv; (repeat (rcases List.mem_cons.1 hv with rfl | hv; exact rfl)); cases hv))) | ((with_reducible refine ltB_loop ?_ ?_) <;> rfl) | (with_reducible exact hMap _) | (with_reducible exact hMap2 _) | (with_reducible exact ltB_encL) | (with_reducible exact ltB_map0) | ((with_reducible refine grB_lt ?_ _); exact (by first | exact bare0_ints | assumption | exact bVs_bare | exact iVs_bare | exact mVs_bare | (intro v hv; (repeat (rcases List.mem_cons.1 hv with rfl | hv; exact rfl)); cases hv))) | (with_reducible assumption) | refine And.intro ?_ ?_ | exact (by first | exact True.intro | exact ltB_all rfl | exact ltB_ofLb (by first | exact bare0_ints | assumption | exact bVs_bare | exact iVs_bare | exact mVs_bare | (intro v hv; (repeat (rcases List.mem_cons.1 hv with rfl | hv; exact rfl)); cases hv)) | exact ltB_loop rfl rfl | exact hMap _ | exact hMap2 _ | exact grB_lt (by first | exact bare0_ints | assumption | exact bVs_bare | exact iVs_bare | exact mVs_bare | (intro v hv; (repeat (rcases List.mem_cons.1 hv with rfl | hv; exact rfl)); cases hv)) _ | exact ltB_encL | exact ltB_map0 | assumption)))) (fun _ _ => (by (repeat' (first | exact True.intro | rfl | refine And.intro ?_ ?_ | exact (by decide) | exact (by first | exact True.intro | exact hMap _ | exact hMap2 _ | exact grB_lt (by first | exact bare0_ints | assumption | exact bVs_bare | exact iVs_bare | exact mVs_bare | (intro v hv; (repeat (rcases List.mem_cons.1 hv with rfl | hv; exact rfl)); cases hv)) _ | exact ltB_all rfl | exact ltB_ofLb (by first | exact bare0_ints | assumption | exact bVs_bare | exact iVs_bare | exact mVs_bare | (intro v hv; (repeat (rcases List.mem_cons.1 hv with rfl | hv; exact rfl)); cases hv)) | exact ltB_loop rfl rfl | exact ltB_encL | exact ltB_map0 | assumption))))) (fun _ _ => (by (repeat' (first | exact True.intro | rfl | refine And.intro ?_ ?_ | exact (by decide) | exact (by first | exact True.intro | exact hMap _ | exact hMap2 _ | exact grB_lt (by first | exact bare0_ints | assumption | exact bVs_bare | exact iVs_bare | exact mVs_bare | (intro v hv; (repeat (rcases List.mem_cons.1 hv with rfl | hv; exact rfl)); cases hv)) _ | exact ltB_all rfl | exact ltB_ofLb (by first | exact bare0_ints | assumption | exact bVs_bare | exact iVs_bare | exact mVs_bare | (intro v hv; (repeat (rcases List.mem_cons.1 hv with rfl | hv; exact rfl)); cases hv)) | exact ltB_loop rfl rfl | exact ltB_encL | exact ltB_map0 | assumption))))) (fun _ _ => (by (repeat' (first | exact True.intro | rfl | refine And.intro ?_ ?_)))) rfl
  rintro i ⟨j1, j2⟩
  refine WpR.of_vc ?_
  cases hx : A[i]? with
  | some x =>
    have hlt := (List.getElem?_eq_some_iff.1 hx).1
    obtain ⟨y, hy⟩ : ∃ y, B[i]? = some y := ⟨_, List.getElem?_eq_getElem (by omega)⟩
    rw [lexC_drop hx hy] at j2
    (conv => whnf); (repeat' (first | ((with_reducible refine ifb_mk (fun hc => ?_) (fun hc => ?_)) <;> ((try simp only [decide_eq_true_eq, decide_eq_false_iff_not, Bool.not_eq_true', Bool.not_eq_false', Int.not_lt, Int.not_le, ne_eq, Decidable.not_not, beq_iff_eq, List.cons.injEq, and_true] at hc); (first | (exfalso; omega) | conv => whnf))) | ((with_reducible refine And.intro True.intro ?_); conv => whnf) | ((with_reducible refine grd_get ?_); refine som_mk (a := ?_) ?hh ?_; (case hh => exact iGet hx); conv => whnf) | ((with_reducible refine grd_get ?_); refine som_mk (a := ?_) ?hh ?_; (case hh => exact iGet hy); conv => whnf) | ((with_reducible refine WpR.draw (id := 6) mixed [0, 1, 2, 3, 4, 5, 6, 7, 8] [0, 0, 3, 7, 0, 0, 48, 112, 255] ?hh ?_); (case hh => kernel_rfl); conv => whnf) | ((with_reducible refine WpR.draw (id := 7) mixed [0, 1, 2, 3, 4, 5, 6, 7, 8, 9] [0, 0, 3, 7, 0, 0, 48, 112, 255, 511] ?hh ?_); (case hh => kernel_rfl); conv => whnf) | ((with_reducible refine And.intro ?hh ?_); (case hh => (unfold InR; (try dsimp only); omega)); conv => whnf) | ((with_reducible refine And.intro ?hh ?_); (case hh => ((try dsimp only); omega)); conv => whnf) | ((with_reducible refine And.intro ?hh ?_); (case hh => ((conv => whnf); (repeat' (first | exact True.intro | rfl | refine And.intro ?_ ?_)); done)); conv => whnf) | fail))
    · have e : decide (0 < lexC A B) = decide (y < x) := by
        rw [j2, if_neg (fun h => hc (c3_zero h))]
        unfold c3
        by_cases h1 : x < y
        · rw [if_pos h1]; simp; omega
        · rw [if_neg h1]
          by_cases h2 : y < x
          · rw [if_pos h2]; simp [h2]
          · exact absurd (show x = y by omega) hc
      rw [e]; (refine ⟨[], ?_, rfl, rfl, trivial, (by (repeat' (first | exact True.intro | rfl | refine And.intro ?_ ?_)))⟩; simp only [renV, renL]; (first | done | rfl | simp | grind))
    · have hxy : x = y := by omega
      subst hxy
      have e0 : c3 x x = 0 := c3_self x
      rw [if_pos e0] at j2
      exact ⟨i + 1, [], by omega, ⟨by omega, j2⟩, ⟨rfl, rfl, (by (repeat' (first | exact True.intro | rfl | refine And.intro ?_ ?_))), (by (repeat' (first | exact True.intro | rfl | refine And.intro ?_ ?_))), (by (repeat' (first | exact True.intro | rfl | refine And.intro ?_ ?_))), (by (repeat' (first | exact True.intro | exact Or.inl rfl | refine And.intro ?_ ?_ | refine Or.inr ⟨_, rfl, ?_⟩ | exact SubQ.same (n := 1000) (Y := []) (fun _ _ _ => rfl) (by first | exact True.intro | exact ltB_all rfl | exact ltB_ofLb (by first | exact bare0_ints | assumption | exact bVs_bare | exact iVs_bare | exact mVs_bare | (intro v hv; (repeat (rcases List.mem_cons.1 hv with rfl | hv; exact rfl)); cases hv)) | exact ltB_loop rfl rfl | exact hMap _ | exact hMap2 _ | exact grB_lt (by first | exact bare0_ints | assumption | exact bVs_bare | exact iVs_bare | exact mVs_bare | (intro v hv; (repeat (rcases List.mem_cons.1 hv with rfl | hv; exact rfl)); cases hv)) _ | exact ltB_encL | exact ltB_map0 | assumption) (avB_nil _) rfl | exact SubQ.ofL (by first | rfl | simp) (by first | exact bare0_ints | assumption | exact bVs_bare | exact iVs_bare | exact mVs_bare | (intro v hv; (repeat (rcases List.mem_cons.1 hv with rfl | hv; exact rfl)); cases hv)) (by first | exact Or.inl rfl | exact Or.inr rfl) | exact SubQ.fin (by (conv => whnf); (repeat' (first | exact True.intro | rfl | refine And.intro ?_ ?_)); done) (fun h => h) (by first | exact Or.inl rfl | exact Or.inr rfl)))), rfl, rfl⟩⟩
  | none =>
    have hlen : A.length ≤ i := by simpa using hx
    have e : lexC A B = 0 := by rw [j2, List.drop_eq_nil_of_le hlen]; rfl
    rw [e]
    (conv => whnf); (repeat' (first | ((with_reducible refine ifb_mk (fun hc => ?_) (fun hc => ?_)) <;> ((try simp only [decide_eq_true_eq, decide_eq_false_iff_not, Bool.not_eq_true', Bool.not_eq_false', Int.not_lt, Int.not_le, ne_eq, Decidable.not_not, beq_iff_eq, List.cons.injEq, and_true] at hc); (first | (exfalso; omega) | conv => whnf))) | ((with_reducible refine And.intro True.intro ?_); conv => whnf) | ((with_reducible refine And.intro ?hh ?_); (case hh => (unfold InR; (try dsimp only); omega)); conv => whnf) | ((with_reducible refine And.intro ?hh ?_); (case hh => ((try dsimp only); omega)); conv => whnf) | ((with_reducible refine And.intro ?hh ?_); (case hh => ((conv => whnf); (repeat' (first | exact True.intro | rfl | refine And.intro ?_ ?_)); done)); conv => whnf) | fail))
    (refine ⟨[], ?_, rfl, rfl, trivial, (by (repeat' (first | exact True.intro | rfl | refine And.intro ?_ ?_)))⟩; simp only [renV, renL]; (first | done | rfl | simp | grind))

/-! ### The reference reads kinds -/

set_option maxHeartbeats 2000000 in
theorem checkKinds_ok (h : H) (L : List Int) (lv : V) (hl : L.length ≤ 8) (hk : akB (-1) L = true) (hs : SlC h (iVs L) L.length lv) : CallOk Try.prog 58 [lv] h (.int .i64 0) h := by
  obtain ⟨vo, svC, hsv, hca, hvw⟩ := hs.view 0
  have hB := @iVs_bare L
  refine CallOk.run Try.func58 rfl rfl (argsC := [svC]) (Nat.le_of_ble_eq_true rfl) [vo] (.cons (hca _ rfl) .nil) (viewMc1 iVs_bare hvw) rfl (WpR.of_vc ?_)
  cases hsv with
  | nil h0 =>
    have e : L = [] := List.eq_nil_of_length_eq_zero h0
    subst e
    (conv => whnf); (repeat' (first | ((with_reducible refine ifb_mk (fun hc => ?_) (fun hc => ?_)) <;> ((try simp only [decide_eq_true_eq, decide_eq_false_iff_not, Bool.not_eq_true', Bool.not_eq_false', Int.not_lt, Int.not_le, ne_eq, Decidable.not_not, beq_iff_eq, List.cons.injEq, and_true] at hc); (first | (exfalso; omega) | conv => whnf))) | ((with_reducible refine And.intro True.intro ?_); conv => whnf) | ((with_reducible refine WpR.loopU 2 ?_); conv => whnf) | ((with_reducible refine And.intro ?hh ?_); (case hh => (unfold InR; (try dsimp only); omega)); conv => whnf) | ((with_reducible refine And.intro ?hh ?_); (case hh => ((try dsimp only); omega)); conv => whnf) | ((with_reducible refine And.intro ?hh ?_); (case hh => ((conv => whnf); (repeat' (first | exact True.intro | rfl | refine And.intro ?_ ?_)); done)); conv => whnf) | fail))
    (refine ⟨[], ?_, rfl, rfl, trivial, (by (repeat' (first | exact True.intro | rfl | refine And.intro ?_ ?_)))⟩; simp only [renV, renL]; (first | done | rfl | simp | grind))
  | @sl cap ex =>
    (conv => whnf); (repeat' (first | ((with_reducible refine ifb_mk (fun hc => ?_) (fun hc => ?_)) <;> ((try simp only [decide_eq_true_eq, decide_eq_false_iff_not, Bool.not_eq_true', Bool.not_eq_false', Int.not_lt, Int.not_le, ne_eq, Decidable.not_not, beq_iff_eq, List.cons.injEq, and_true] at hc); (first | (exfalso; omega) | conv => whnf))) | ((with_reducible refine And.intro True.intro ?_); conv => whnf) | ((with_reducible refine And.intro ?hh ?_); (case hh => (unfold InR; (try dsimp only); omega)); conv => whnf) | ((with_reducible refine And.intro ?hh ?_); (case hh => ((try dsimp only); omega)); conv => whnf) | ((with_reducible refine And.intro ?hh ?_); (case hh => ((conv => whnf); (repeat' (first | exact True.intro | rfl | refine And.intro ?_ ?_)); done)); conv => whnf) | fail))
    show WpR Try.prog _ _ _ _ ⟨_, _, _, ⟨_, 1, 0⟩⟩ _
    refine WpR.loopD (ι := Nat) [] [0] [] [] 1 (fun i => [(3, .int .i64 i)]) (fun _ => []) (fun i => L.length - i) (fun i => i ≤ L.length ∧ akB (if i = 0 then -1 else L.getD (i - 1) 0) (L.drop i) = true ∧ (i ≠ 0 → -1 ≤ L.getD (i - 1) 0)) ?_ (0) (⟨Nat.zero_le _, hk, fun h => absurd rfl h⟩) [] ⟨rfl, rfl, (by (repeat' (first | exact True.intro | rfl | refine And.intro ?_ ?_))), (by (repeat' (first | exact True.intro | rfl | refine And.intro ?_ ?_))), (by (repeat' (first | exact True.intro | rfl | refine And.intro ?_ ?_))), (by (repeat' (first | exact True.intro | exact Or.inl rfl | refine And.intro ?_ ?_ | refine Or.inr ⟨_, rfl, ?_⟩ | exact SubQ.same (n := 1000) (Y := []) (fun _ _ _ => rfl) (by first | exact True.intro | exact ltB_all rfl | exact ltB_ofLb (by first | exact bare0_ints | assumption | exact bVs_bare | exact iVs_bare | exact mVs_bare | (intro v hv; (repeat (rcases List.mem_cons.1 hv with rfl | hv; exact rfl)); cases hv)) | exact ltB_loop rfl rfl | exact hMap _ | exact hMap2 _ | exact grB_lt (by first | exact bare0_ints | assumption | exact bVs_bare | exact iVs_bare | exact mVs_bare | (intro v hv; (repeat (rcases List.mem_cons.1 hv with rfl | hv; exact rfl)); cases hv)) _ | exact ltB_encL | exact ltB_map0 | assumption) (avB_nil _) rfl | exact SubQ.ofL (by first | rfl | simp) (by first | exact bare0_ints | assumption | exact bVs_bare | exact iVs_bare | exact mVs_bare | (intro v hv; (repeat (rcases List.mem_cons.1 hv with rfl | hv; exact rfl)); cases hv)) (by first | exact Or.inl rfl | exact Or.inr rfl) | exact SubQ.fin (by (conv => whnf); (repeat' (first | exact True.intro | rfl | refine And.intro ?_ ?_)); done) (fun h => h) (by first | exact Or.inl rfl | exact Or.inr rfl)))), rfl, rfl⟩ rfl rfl rfl (fun _ => rfl) (by (repeat' (first | exact True.intro | refine And.intro ?_ ?_ | exact avV_nil _ | rfl))) (by (repeat' (first | exact True.intro | (with_reducible exact avB_nil _) | ((with_reducible refine avB_all ?_); rfl) | ((with_reducible refine avB_ofLb ?_); exact (by first | exact bare0_ints | assumption | exact bVs_bare | exact iVs_bare | exact mVs_bare | (intro v hv; (repeat (rcases List.mem_cons.1 hv with rfl | hv; exact rfl)); cases hv))) | ((with_reducible refine ltB_all ?_); rfl) | ((with_reducible refine ltB_ofLb ?_); exact (by first | exact bare0_ints | assumption | exact bVs_bare | exact iVs_bare | exact mVs_bare | (intro v hv; (repeat (rcases List.mem_cons.1 hv with rfl | hv; exact rfl)); cases hv))) | ((with_reducible refine ltB_loop ?_ ?_) <;> rfl) | (with_reducible exact hMap _) | (with_reducible exact hMap2 _) | (with_reducible exact ltB_encL) | (with_reducible exact ltB_map0) | ((with_reducible refine grB_lt ?_ _); exact (by first | exact bare0_ints | assumption | exact bVs_bare | exact iVs_bare | exact mVs_bare | (intro v hv; (repeat (rcases List.mem_cons.1 hv with rfl | hv; exact rfl)); cases hv))) | (with_reducible assumption) | refine And.intro ?_ ?_ | exact (by first | exact True.intro | exact ltB_all rfl | exact ltB_ofLb (by first | exact bare0_ints | assumption | exact bVs_bare | exact iVs_bare | exact mVs_bare | (intro v hv; (repeat (rcases List.mem_cons.1 hv with rfl | hv; exact rfl)); cases hv)) | exact ltB_loop rfl rfl | exact hMap _ | exact hMap2 _ | exact grB_lt (by first | exact bare0_ints | assumption | exact bVs_bare | exact iVs_bare | exact mVs_bare | (intro v hv; (repeat (rcases List.mem_cons.1 hv with rfl | hv; exact rfl)); cases hv)) _ | exact ltB_encL | exact ltB_map0 | assumption)))) (fun _ _ => (by (repeat' (first | exact True.intro | rfl | refine And.intro ?_ ?_ | exact (by decide) | exact (by first | exact True.intro | exact hMap _ | exact hMap2 _ | exact grB_lt (by first | exact bare0_ints | assumption | exact bVs_bare | exact iVs_bare | exact mVs_bare | (intro v hv; (repeat (rcases List.mem_cons.1 hv with rfl | hv; exact rfl)); cases hv)) _ | exact ltB_all rfl | exact ltB_ofLb (by first | exact bare0_ints | assumption | exact bVs_bare | exact iVs_bare | exact mVs_bare | (intro v hv; (repeat (rcases List.mem_cons.1 hv with rfl | hv; exact rfl)); cases hv)) | exact ltB_loop rfl rfl | exact ltB_encL | exact ltB_map0 | assumption))))) (fun _ _ => (by (repeat' (first | exact True.intro | rfl | refine And.intro ?_ ?_ | exact (by decide) | exact (by first | exact True.intro | exact hMap _ | exact hMap2 _ | exact grB_lt (by first | exact bare0_ints | assumption | exact bVs_bare | exact iVs_bare | exact mVs_bare | (intro v hv; (repeat (rcases List.mem_cons.1 hv with rfl | hv; exact rfl)); cases hv)) _ | exact ltB_all rfl | exact ltB_ofLb (by first | exact bare0_ints | assumption | exact bVs_bare | exact iVs_bare | exact mVs_bare | (intro v hv; (repeat (rcases List.mem_cons.1 hv with rfl | hv; exact rfl)); cases hv)) | exact ltB_loop rfl rfl | exact ltB_encL | exact ltB_map0 | assumption))))) (fun _ _ => (by (repeat' (first | exact True.intro | rfl | refine And.intro ?_ ?_)))) rfl
    rintro i ⟨h1, hP, hQ⟩
    refine WpR.of_vc ?_
    cases hx : L[i]? with
    | some y =>
      have hlt := (List.getElem?_eq_some_iff.1 hx).1
      rw [drop_at hx] at hP
      unfold akB at hP
      rw [Bool.and_eq_true, decide_eq_true_eq] at hP
      obtain ⟨⟨hy1, hy2⟩, hP2⟩ := hP
      have hy0 : 0 ≤ y := by
        by_cases h0 : i = 0
        · rw [if_pos h0] at hy1; omega
        · rw [if_neg h0] at hy1; have := hQ h0; omega
      have kM := fun h' => isMotion_ok h' y
      rw [decide_eq_true (by omega)] at kM
      have hnext : L.getD (i + 1 - 1) 0 = y := by rw [Nat.add_sub_cancel, List.getD_eq_getElem?_getD, hx]; rfl
      have hJ : i + 1 ≤ L.length ∧ akB (if i + 1 = 0 then -1 else L.getD (i + 1 - 1) 0) (L.drop (i + 1)) = true ∧ (i + 1 ≠ 0 → -1 ≤ L.getD (i + 1 - 1) 0) := by
        rw [if_neg (by omega), hnext]
        exact ⟨by omega, hP2, fun _ => by omega⟩
      rcases Nat.eq_zero_or_pos i with h0 | h0
      · subst h0
        (conv => whnf); (repeat' (first | ((with_reducible refine ifb_mk (fun hc => ?_) (fun hc => ?_)) <;> ((try simp only [decide_eq_true_eq, decide_eq_false_iff_not, Bool.not_eq_true', Bool.not_eq_false', Int.not_lt, Int.not_le, ne_eq, Decidable.not_not, beq_iff_eq, List.cons.injEq, and_true] at hc); (first | (exfalso; omega) | conv => whnf))) | ((with_reducible refine And.intro True.intro ?_); conv => whnf) | ((with_reducible refine grd_get ?_); refine som_mk (a := ?_) ?hh ?_; (case hh => exact iGet hx); conv => whnf) | ((with_reducible refine WpR.draw (id := 4) mixed [0, 1, 2, 3, 4, 5, 6, 7, 8, 9, 10, 11, 12, 13, 14, 15, 16, 17, 18, 19, 20, 21] [0, 0, 3, 7, 15, 31, 63, 127, 255, 511, 1023, 1023, 4095, 8191, 1023, 1023, 33791, 115711, 246783, 524287, 1048575, 2097151] ?hh ?_); (case hh => kernel_rfl); conv => whnf) | ((with_reducible refine grd_ex ?_); refine ex_ok (kM _) ?_; conv => whnf) | ((with_reducible refine And.intro ?hh ?_); (case hh => (unfold InR; (try dsimp only); omega)); conv => whnf) | ((with_reducible refine And.intro ?hh ?_); (case hh => ((try dsimp only); omega)); conv => whnf) | ((with_reducible refine And.intro ?hh ?_); (case hh => ((conv => whnf); (repeat' (first | exact True.intro | rfl | refine And.intro ?_ ?_)); done)); conv => whnf) | fail))
        exact ⟨0 + 1, [], by omega, hJ, ⟨rfl, rfl, (by (repeat' (first | exact True.intro | rfl | refine And.intro ?_ ?_))), (by (repeat' (first | exact True.intro | rfl | refine And.intro ?_ ?_))), (by (repeat' (first | exact True.intro | rfl | refine And.intro ?_ ?_))), (by (repeat' (first | exact True.intro | exact Or.inl rfl | refine And.intro ?_ ?_ | refine Or.inr ⟨_, rfl, ?_⟩ | exact SubQ.same (n := 1000) (Y := []) (fun _ _ _ => rfl) (by first | exact True.intro | exact ltB_all rfl | exact ltB_ofLb (by first | exact bare0_ints | assumption | exact bVs_bare | exact iVs_bare | exact mVs_bare | (intro v hv; (repeat (rcases List.mem_cons.1 hv with rfl | hv; exact rfl)); cases hv)) | exact ltB_loop rfl rfl | exact hMap _ | exact hMap2 _ | exact grB_lt (by first | exact bare0_ints | assumption | exact bVs_bare | exact iVs_bare | exact mVs_bare | (intro v hv; (repeat (rcases List.mem_cons.1 hv with rfl | hv; exact rfl)); cases hv)) _ | exact ltB_encL | exact ltB_map0 | assumption) (avB_nil _) rfl | exact SubQ.ofL (by first | rfl | simp) (by first | exact bare0_ints | assumption | exact bVs_bare | exact iVs_bare | exact mVs_bare | (intro v hv; (repeat (rcases List.mem_cons.1 hv with rfl | hv; exact rfl)); cases hv)) (by first | exact Or.inl rfl | exact Or.inr rfl) | exact SubQ.fin (by (conv => whnf); (repeat' (first | exact True.intro | rfl | refine And.intro ?_ ?_)); done) (fun h => h) (by first | exact Or.inl rfl | exact Or.inr rfl)))), rfl, rfl⟩⟩
      · obtain ⟨x, hx'⟩ : ∃ x, L[i - 1]? = some x := ⟨_, List.getElem?_eq_getElem (by omega)⟩
        have hxy : x + 1 ≤ y := by
          rw [if_neg (by omega), List.getD_eq_getElem?_getD, hx'] at hy1
          exact hy1
        have gT : (ofL (iVs L) 0).get (0 + ((i : Int) - 1).toNat * 1) = some (.int .i64 x) := by
          rw [show ((i : Int) - 1).toNat = i - 1 from by omega, show 0 + (i - 1) * 1 = i - 1 from by omega]
          exact get_ofL0 (by unfold iVs; rw [List.getElem?_map]; simp [hx'])
        (conv => whnf); (repeat' (first | ((with_reducible refine ifb_mk (fun hc => ?_) (fun hc => ?_)) <;> ((try simp only [decide_eq_true_eq, decide_eq_false_iff_not, Bool.not_eq_true', Bool.not_eq_false', Int.not_lt, Int.not_le, ne_eq, Decidable.not_not, beq_iff_eq, List.cons.injEq, and_true] at hc); (first | (exfalso; omega) | conv => whnf))) | ((with_reducible refine And.intro True.intro ?_); conv => whnf) | ((with_reducible refine grd_get ?_); refine som_mk (a := ?_) ?hh ?_; (case hh => exact iGet hx); conv => whnf) | ((with_reducible refine grd_get ?_); refine som_mk (a := ?_) ?hh ?_; (case hh => exact gT); conv => whnf) | ((with_reducible refine WpR.draw (id := 4) mixed [0, 1, 2, 3, 4, 5, 6, 7, 8, 9, 10, 11, 12, 13, 14, 15, 16, 17, 18, 19, 20, 21] [0, 0, 3, 7, 15, 31, 63, 127, 255, 511, 1023, 1023, 4095, 8191, 1023, 1023, 33791, 115711, 246783, 524287, 1048575, 2097151] ?hh ?_); (case hh => kernel_rfl); conv => whnf) | ((with_reducible refine grd_ex ?_); refine ex_ok (kM _) ?_; conv => whnf) | ((with_reducible refine And.intro ?hh ?_); (case hh => (unfold InR; (try dsimp only); omega)); conv => whnf) | ((with_reducible refine And.intro ?hh ?_); (case hh => ((try dsimp only); omega)); conv => whnf) | ((with_reducible refine And.intro ?hh ?_); (case hh => ((conv => whnf); (repeat' (first | exact True.intro | rfl | refine And.intro ?_ ?_)); done)); conv => whnf) | fail))
        exact ⟨i + 1, [], by omega, hJ, ⟨rfl, rfl, (by (repeat' (first | exact True.intro | rfl | refine And.intro ?_ ?_))), (by (repeat' (first | exact True.intro | rfl | refine And.intro ?_ ?_))), (by (repeat' (first | exact True.intro | rfl | refine And.intro ?_ ?_))), (by (repeat' (first | exact True.intro | exact Or.inl rfl | refine And.intro ?_ ?_ | refine Or.inr ⟨_, rfl, ?_⟩ | exact SubQ.same (n := 1000) (Y := []) (fun _ _ _ => rfl) (by first | exact True.intro | exact ltB_all rfl | exact ltB_ofLb (by first | exact bare0_ints | assumption | exact bVs_bare | exact iVs_bare | exact mVs_bare | (intro v hv; (repeat (rcases List.mem_cons.1 hv with rfl | hv; exact rfl)); cases hv)) | exact ltB_loop rfl rfl | exact hMap _ | exact hMap2 _ | exact grB_lt (by first | exact bare0_ints | assumption | exact bVs_bare | exact iVs_bare | exact mVs_bare | (intro v hv; (repeat (rcases List.mem_cons.1 hv with rfl | hv; exact rfl)); cases hv)) _ | exact ltB_encL | exact ltB_map0 | assumption) (avB_nil _) rfl | exact SubQ.ofL (by first | rfl | simp) (by first | exact bare0_ints | assumption | exact bVs_bare | exact iVs_bare | exact mVs_bare | (intro v hv; (repeat (rcases List.mem_cons.1 hv with rfl | hv; exact rfl)); cases hv)) (by first | exact Or.inl rfl | exact Or.inr rfl) | exact SubQ.fin (by (conv => whnf); (repeat' (first | exact True.intro | rfl | refine And.intro ?_ ?_)); done) (fun h => h) (by first | exact Or.inl rfl | exact Or.inr rfl)))), rfl, rfl⟩⟩
    | none =>
      have hlen : L.length ≤ i := by simpa using hx
      (conv => whnf); (repeat' (first | ((with_reducible refine ifb_mk (fun hc => ?_) (fun hc => ?_)) <;> ((try simp only [decide_eq_true_eq, decide_eq_false_iff_not, Bool.not_eq_true', Bool.not_eq_false', Int.not_lt, Int.not_le, ne_eq, Decidable.not_not, beq_iff_eq, List.cons.injEq, and_true] at hc); (first | (exfalso; omega) | conv => whnf))) | ((with_reducible refine And.intro True.intro ?_); conv => whnf) | ((with_reducible refine And.intro ?hh ?_); (case hh => (unfold InR; (try dsimp only); omega)); conv => whnf) | ((with_reducible refine And.intro ?hh ?_); (case hh => ((try dsimp only); omega)); conv => whnf) | ((with_reducible refine And.intro ?hh ?_); (case hh => ((conv => whnf); (repeat' (first | exact True.intro | rfl | refine And.intro ?_ ?_)); done)); conv => whnf) | fail))
      (refine ⟨[], ?_, rfl, rfl, trivial, (by (repeat' (first | exact True.intro | rfl | refine And.intro ?_ ?_)))⟩; simp only [renV, renL]; (first | done | rfl | simp | grind))
end Go.Proofs.P

namespace Go.Proofs.P
open Go.As
set_option maxRecDepth 20000
set_option linter.unusedVariables false
set_option linter.unusedSimpArgs false

/-! ### The law's lists of kinds -/

def selAll : Bool := [0].all fun _ => frcN 8 fun B => akB (-1) (selL B 8)
where frcN : Nat → (List Bool → Bool) → Bool
  | 0, k => k []
  | n + 1, k => frcN n (fun l => k (true :: l)) && frcN n (fun l => k (false :: l))
theorem selAll_ok : selAll = true := by kernel_rfl
theorem frcN_all : ∀ (n : Nat) (k : List Bool → Bool), selAll.frcN n k = true → ∀ B : List Bool, B.length = n → k B = true
  | 0, k, h, [], _ => h
  | n + 1, k, h, b :: B, hl => by
    have h' : (selAll.frcN n (fun l => k (true :: l)) && selAll.frcN n (fun l => k (false :: l))) = true := h
    rw [Bool.and_eq_true] at h'
    cases b with
    | true => exact frcN_all n (fun l => k (true :: l)) h'.1 B (by simpa using hl)
    | false => exact frcN_all n (fun l => k (false :: l)) h'.2 B (by simpa using hl)
theorem akB_sel (B : List Bool) (hB : B.length = 8) : akB (-1) (selL B 8) = true := by
  have h := selAll_ok
  unfold selAll at h
  rw [List.all_cons, List.all_nil, Bool.and_true] at h
  exact frcN_all 8 _ h B hB

def bitB (a : Int) (i : Nat) : Bool := decide (IntKind.u8.wrap ↑(BitVec.ofInt IntKind.u8.bits (a.fdiv ((2 : Int) ^ min ((i : Int)).toNat IntKind.u8.bits)) &&& BitVec.ofInt IntKind.u8.bits (1 : Int)).toNat = (1 : Int))
def bitsOf (a : Int) : List Bool := (List.range 8).map (bitB a)
theorem bitsOf_at (a : Int) {i : Nat} (hi : i < 8) : (bitsOf a).getD i false = bitB a i := by
  unfold bitsOf
  rw [List.getD_eq_getElem?_getD, List.getElem?_map, List.getElem?_range hi]; rfl
set_option maxHeartbeats 4000000 in
theorem kinds_ok (h : H) (a : Int) (ha : 0 ≤ a ∧ a ≤ 255) : CallOk Try.prog 50 [.int .u8 a] h (grV h.n (selL (bitsOf a) 8).length) (addBs h (growB (selL (bitsOf a) 8))) := by
  refine CallOk.runN Try.func50 rfl rfl (argsC := [.int .u8 a]) (fun N => grV N (selL (bitsOf a) 8).length) (fun _ => growB (selL (bitsOf a) 8)) (Nat.le_of_ble_eq_true rfl) [] (CaL.lt0 rfl) (viewM0 h)
    (growSh _ _ _ _) rfl (growBs _ _ _ _) (WpR.of_vc ?_)
  have hbit := fun i (hi : i < 8) => bitsOf_at a hi
  generalize bitsOf a = B at *
  (conv => whnf); (repeat' (first | ((with_reducible refine ifb_mk (fun hc => ?_) (fun hc => ?_)) <;> ((try simp only [decide_eq_true_eq, decide_eq_false_iff_not, Bool.not_eq_true', Bool.not_eq_false', Int.not_lt, Int.not_le, ne_eq, Decidable.not_not, beq_iff_eq, List.cons.injEq, and_true] at hc); (first | (exfalso; omega) | conv => whnf))) | ((with_reducible refine And.intro True.intro ?_); conv => whnf) | ((with_reducible refine And.intro ?hh ?_); (case hh => (unfold InR; (try dsimp only); omega)); conv => whnf) | ((with_reducible refine And.intro ?hh ?_); (case hh => ((try dsimp only); omega)); conv => whnf) | ((with_reducible refine And.intro ?hh ?_); (case hh => ((conv => whnf); (repeat' (first | exact True.intro | rfl | refine And.intro ?_ ?_)); done)); conv => whnf) | fail))
  have hMap : ∀ i, ltV 1 (grV 0 i) = true := grV_lt rfl
  have hMap2 : ∀ l : List Int, ltB 1 (grB 1 (iVs l) l.length) := fun l => grB_lt iVs_bare _
  refine WpR.loopD (ι := Nat × List Int) [] [0] [0] [] 1 (fun p => [(3, grV 0 p.2.length), (4, .int .i64 p.1)]) (fun p => [(0, grB 1 (iVs p.2) p.2.length)]) (fun p => 8 - p.1) (fun p => p.1 ≤ 8 ∧ p.2 = selL B p.1) ?_ ((0, [])) (⟨Nat.zero_le _, rfl⟩) [] ⟨rfl, rfl, (by (repeat' (first | exact True.intro | rfl | refine And.intro ?_ ?_))), (by (repeat' (first | exact True.intro | rfl | refine And.intro ?_ ?_))), (by (repeat' (first | exact True.intro | rfl | refine And.intro ?_ ?_))), (by (repeat' (first | exact True.intro | exact Or.inl rfl | refine And.intro ?_ ?_ | refine Or.inr ⟨_, rfl, ?_⟩ | exact SubQ.same (n := 1000) (Y := []) (fun _ _ _ => rfl) (by first | exact True.intro | exact ltB_all rfl | exact ltB_ofLb (by first | exact bare0_ints | assumption | exact bVs_bare | exact iVs_bare | exact mVs_bare | (intro v hv; (repeat (rcases List.mem_cons.1 hv with rfl | hv; exact rfl)); cases hv)) | exact ltB_loop rfl rfl | exact hMap _ | exact hMap2 _ | exact grB_lt (by first | exact bare0_ints | assumption | exact bVs_bare | exact iVs_bare | exact mVs_bare | (intro v hv; (repeat (rcases List.mem_cons.1 hv with rfl | hv; exact rfl)); cases hv)) _ | exact ltB_encL | exact ltB_map0 | assumption) (avB_nil _) rfl | exact SubQ.ofL (by first | rfl | simp) (by first | exact bare0_ints | assumption | exact bVs_bare | exact iVs_bare | exact mVs_bare | (intro v hv; (repeat (rcases List.mem_cons.1 hv with rfl | hv; exact rfl)); cases hv)) (by first | exact Or.inl rfl | exact Or.inr rfl) | exact SubQ.fin (by (conv => whnf); (repeat' (first | exact True.intro | rfl | refine And.intro ?_ ?_)); done) (fun h => h) (by first | exact Or.inl rfl | exact Or.inr rfl)))), rfl, rfl⟩ rfl rfl rfl (fun _ => rfl) (by (repeat' (first | exact True.intro | refine And.intro ?_ ?_ | exact avV_nil _ | rfl))) (by (repeat' (first | exact True.intro | (with_reducible exact avB_nil _) | ((with_reducible refine avB_all ?_); rfl) | ((with_reducible refine avB_ofLb ?_); exact (by first | exact bare0_ints | assumption | exact bVs_bare | exact iVs_bare | exact mVs_bare | (intro v hv; (repeat (rcases List.mem_cons.1 hv with rfl | hv; exact rfl)); cases hv))) | ((with_reducible refine ltB_all ?_); rfl) | ((with_reducible refine ltB_ofLb ?_); exact (by first | exact bare0_ints | assumption | exact bVs_bare | exact iVs_bare | exact mVs_bare | (intro v hv; (repeat (rcases List.mem_cons.1 hv with rfl | hv; exact rfl)); cases hv))) | ((with_reducible refine ltB_loop ?_ ?_) <;> rfl) | (with_reducible exact hMap _) | (with_reducible exact hMap2 _) | (with_reducible exact ltB_encL) | (with_reducible exact ltB_map0) | ((with_reducible refine grB_lt ?_ _); exact (by first | exact bare0_ints | assumption | exact bVs_bare | exact iVs_bare | exact mVs_bare | (intro v hv; (repeat (rcases List.mem_cons.1 hv with rfl | hv; exact rfl)); cases hv))) | (with_reducible assumption) | refine And.intro ?_ ?_ | exact (by first | exact True.intro | exact ltB_all rfl | exact ltB_ofLb (by first | exact bare0_ints | assumption | exact bVs_bare | exact iVs_bare | exact mVs_bare | (intro v hv; (repeat (rcases List.mem_cons.1 hv with rfl | hv; exact rfl)); cases hv)) | exact ltB_loop rfl rfl | exact hMap _ | exact hMap2 _ | exact grB_lt (by first | exact bare0_ints | assumption | exact bVs_bare | exact iVs_bare | exact mVs_bare | (intro v hv; (repeat (rcases List.mem_cons.1 hv with rfl | hv; exact rfl)); cases hv)) _ | exact ltB_encL | exact ltB_map0 | assumption)))) (fun _ _ => (by (repeat' (first | exact True.intro | rfl | refine And.intro ?_ ?_ | exact (by decide) | exact (by first | exact True.intro | exact hMap _ | exact hMap2 _ | exact grB_lt (by first | exact bare0_ints | assumption | exact bVs_bare | exact iVs_bare | exact mVs_bare | (intro v hv; (repeat (rcases List.mem_cons.1 hv with rfl | hv; exact rfl)); cases hv)) _ | exact ltB_all rfl | exact ltB_ofLb (by first | exact bare0_ints | assumption | exact bVs_bare | exact iVs_bare | exact mVs_bare | (intro v hv; (repeat (rcases List.mem_cons.1 hv with rfl | hv; exact rfl)); cases hv)) | exact ltB_loop rfl rfl | exact ltB_encL | exact ltB_map0 | assumption))))) (fun _ _ => (by (repeat' (first | exact True.intro | rfl | refine And.intro ?_ ?_ | exact (by decide) | exact (by first | exact True.intro | exact hMap _ | exact hMap2 _ | exact grB_lt (by first | exact bare0_ints | assumption | exact bVs_bare | exact iVs_bare | exact mVs_bare | (intro v hv; (repeat (rcases List.mem_cons.1 hv with rfl | hv; exact rfl)); cases hv)) _ | exact ltB_all rfl | exact ltB_ofLb (by first | exact bare0_ints | assumption | exact bVs_bare | exact iVs_bare | exact mVs_bare | (intro v hv; (repeat (rcases List.mem_cons.1 hv with rfl | hv; exact rfl)); cases hv)) | exact ltB_loop rfl rfl | exact ltB_encL | exact ltB_map0 | assumption))))) (fun _ _ => (by (repeat' (first | exact True.intro | rfl | refine And.intro ?_ ?_)))) rfl
  rintro ⟨i, l⟩ ⟨j1, j2⟩
  dsimp only at j1 j2
  refine WpR.of_vc ?_
  by_cases hi : i < 8
  · have hs1 := selL_succ B i
    have hlen := selL_len B i
    rw [← j2, hbit i hi] at hs1
    rw [← j2] at hlen
    cases l with
    | nil =>
      (conv => whnf); (repeat' (first | ((with_reducible refine ifb_mk (fun hc => ?_) (fun hc => ?_)) <;> ((try simp only [decide_eq_true_eq, decide_eq_false_iff_not, Bool.not_eq_true', Bool.not_eq_false', Int.not_lt, Int.not_le, ne_eq, Decidable.not_not, beq_iff_eq, List.cons.injEq, and_true] at hc); (first | (exfalso; omega) | conv => whnf))) | ((with_reducible refine And.intro True.intro ?_); conv => whnf) | (refine AppX.nil (n := 1) Nat.zero_lt_one (Nat.le_of_ble_eq_true rfl) ?_; conv => whnf) | ((with_reducible refine And.intro ?hh ?_); (case hh => (unfold InR; (try dsimp only); omega)); conv => whnf) | ((with_reducible refine And.intro ?hh ?_); (case hh => ((try dsimp only); omega)); conv => whnf) | ((with_reducible refine And.intro ?hh ?_); (case hh => ((conv => whnf); (repeat' (first | exact True.intro | rfl | refine And.intro ?_ ?_)); done)); conv => whnf) | fail))
      · have e : bitB a i = true := decide_eq_true hc
        rw [e] at hs1
        exact ⟨(i + 1, [Int.ofNat i]), [(0, 2)], by dsimp only; omega, ⟨by dsimp only; omega, hs1.symm⟩, ⟨rfl, rfl, (by (repeat' (first | exact True.intro | rfl | refine And.intro ?_ ?_))), (by (repeat' (first | exact True.intro | rfl | refine And.intro ?_ ?_))), (by (repeat' (first | exact True.intro | rfl | refine And.intro ?_ ?_))), (by (repeat' (first | exact True.intro | exact Or.inl rfl | refine And.intro ?_ ?_ | refine Or.inr ⟨_, rfl, ?_⟩ | exact SubQ.same (n := 1000) (Y := []) (fun _ _ _ => rfl) (by first | exact True.intro | exact ltB_all rfl | exact ltB_ofLb (by first | exact bare0_ints | assumption | exact bVs_bare | exact iVs_bare | exact mVs_bare | (intro v hv; (repeat (rcases List.mem_cons.1 hv with rfl | hv; exact rfl)); cases hv)) | exact ltB_loop rfl rfl | exact hMap _ | exact hMap2 _ | exact grB_lt (by first | exact bare0_ints | assumption | exact bVs_bare | exact iVs_bare | exact mVs_bare | (intro v hv; (repeat (rcases List.mem_cons.1 hv with rfl | hv; exact rfl)); cases hv)) _ | exact ltB_encL | exact ltB_map0 | assumption) (avB_nil _) rfl | exact SubQ.ofL (by first | rfl | simp) (by first | exact bare0_ints | assumption | exact bVs_bare | exact iVs_bare | exact mVs_bare | (intro v hv; (repeat (rcases List.mem_cons.1 hv with rfl | hv; exact rfl)); cases hv)) (by first | exact Or.inl rfl | exact Or.inr rfl) | exact SubQ.fin (by (conv => whnf); (repeat' (first | exact True.intro | rfl | refine And.intro ?_ ?_)); done) (fun h => h) (by first | exact Or.inl rfl | exact Or.inr rfl)))), rfl, rfl⟩⟩
      · have e : bitB a i = false := decide_eq_false (by first | exact hc | exact fun h => absurd (beq_iff_eq.2 h) (by rw [hc]; decide))
        rw [e] at hs1
        exact ⟨(i + 1, []), [], by dsimp only; omega, ⟨by dsimp only; omega, hs1.symm⟩, ⟨rfl, rfl, (by (repeat' (first | exact True.intro | rfl | refine And.intro ?_ ?_))), (by (repeat' (first | exact True.intro | rfl | refine And.intro ?_ ?_))), (by (repeat' (first | exact True.intro | rfl | refine And.intro ?_ ?_))), (by (repeat' (first | exact True.intro | exact Or.inl rfl | refine And.intro ?_ ?_ | refine Or.inr ⟨_, rfl, ?_⟩ | exact SubQ.same (n := 1000) (Y := []) (fun _ _ _ => rfl) (by first | exact True.intro | exact ltB_all rfl | exact ltB_ofLb (by first | exact bare0_ints | assumption | exact bVs_bare | exact iVs_bare | exact mVs_bare | (intro v hv; (repeat (rcases List.mem_cons.1 hv with rfl | hv; exact rfl)); cases hv)) | exact ltB_loop rfl rfl | exact hMap _ | exact hMap2 _ | exact grB_lt (by first | exact bare0_ints | assumption | exact bVs_bare | exact iVs_bare | exact mVs_bare | (intro v hv; (repeat (rcases List.mem_cons.1 hv with rfl | hv; exact rfl)); cases hv)) _ | exact ltB_encL | exact ltB_map0 | assumption) (avB_nil _) rfl | exact SubQ.ofL (by first | rfl | simp) (by first | exact bare0_ints | assumption | exact bVs_bare | exact iVs_bare | exact mVs_bare | (intro v hv; (repeat (rcases List.mem_cons.1 hv with rfl | hv; exact rfl)); cases hv)) (by first | exact Or.inl rfl | exact Or.inr rfl) | exact SubQ.fin (by (conv => whnf); (repeat' (first | exact True.intro | rfl | refine And.intro ?_ ?_)); done) (fun h => h) (by first | exact Or.inl rfl | exact Or.inr rfl)))), rfl, rfl⟩⟩
    | cons x t =>
      rw [List.length_cons] at hlen
      (conv => whnf); (repeat' (first | ((with_reducible refine ifb_mk (fun hc => ?_) (fun hc => ?_)) <;> ((try simp only [decide_eq_true_eq, decide_eq_false_iff_not, Bool.not_eq_true', Bool.not_eq_false', Int.not_lt, Int.not_le, ne_eq, Decidable.not_not, beq_iff_eq, List.cons.injEq, and_true] at hc); (first | (exfalso; omega) | conv => whnf))) | ((with_reducible refine And.intro True.intro ?_); conv => whnf) | (refine AppX.own (n := 1) (L := iVs (x :: t)) (len := t.length + 1) rfl (iVs_length (x :: t)) (iVs_one _) Nat.zero_lt_one (by omega) ?_; conv => whnf) | ((with_reducible refine And.intro ?hh ?_); (case hh => (unfold InR; (try dsimp only); omega)); conv => whnf) | ((with_reducible refine And.intro ?hh ?_); (case hh => ((try dsimp only); omega)); conv => whnf) | ((with_reducible refine And.intro ?hh ?_); (case hh => ((conv => whnf); (repeat' (first | exact True.intro | rfl | refine And.intro ?_ ?_)); done)); conv => whnf) | fail))
      · have e : bitB a i = true := decide_eq_true hc
        rw [e] at hs1
        have hB4 : ∀ v ∈ iVs (x :: t) ++ [.int .i64 (Int.ofNat i)], bare0 v = true := fun v hv => by
          have e : iVs ((x :: t) ++ [Int.ofNat i]) = iVs (x :: t) ++ [.int .i64 (Int.ofNat i)] := by unfold iVs; rw [List.map_append]; rfl
          rw [← e] at hv; exact iVs_bare v hv
        refine ⟨(i + 1, (x :: t) ++ [Int.ofNat i]), [(0, 2)], by dsimp only; omega, ⟨by dsimp only; omega, hs1.symm⟩, ?_⟩
        dsimp only
        rw [grB_snoc, grV_snoc]
        exact ⟨rfl, rfl, (by (repeat' (first | exact True.intro | rfl | refine And.intro ?_ ?_))), (by (repeat' (first | exact True.intro | rfl | refine And.intro ?_ ?_))), (by (repeat' (first | exact True.intro | rfl | refine And.intro ?_ ?_))), (by (repeat' (first | exact True.intro | exact Or.inl rfl | refine And.intro ?_ ?_ | refine Or.inr ⟨_, rfl, ?_⟩ | exact SubQ.same (n := 1000) (Y := []) (fun _ _ _ => rfl) (by first | exact True.intro | exact ltB_all rfl | exact ltB_ofLb (by first | exact bare0_ints | assumption | exact bVs_bare | exact iVs_bare | exact mVs_bare | (intro v hv; (repeat (rcases List.mem_cons.1 hv with rfl | hv; exact rfl)); cases hv)) | exact ltB_loop rfl rfl | exact hMap _ | exact hMap2 _ | exact grB_lt (by first | exact bare0_ints | assumption | exact bVs_bare | exact iVs_bare | exact mVs_bare | (intro v hv; (repeat (rcases List.mem_cons.1 hv with rfl | hv; exact rfl)); cases hv)) _ | exact ltB_encL | exact ltB_map0 | assumption) (avB_nil _) rfl | exact SubQ.ofL (by first | rfl | simp) (by first | exact bare0_ints | assumption | exact bVs_bare | exact iVs_bare | exact mVs_bare | (intro v hv; (repeat (rcases List.mem_cons.1 hv with rfl | hv; exact rfl)); cases hv)) (by first | exact Or.inl rfl | exact Or.inr rfl) | exact SubQ.fin (by (conv => whnf); (repeat' (first | exact True.intro | rfl | refine And.intro ?_ ?_)); done) (fun h => h) (by first | exact Or.inl rfl | exact Or.inr rfl)))), rfl, rfl⟩
      · have e : bitB a i = false := decide_eq_false (by first | exact hc | exact fun h => absurd (beq_iff_eq.2 h) (by rw [hc]; decide))
        rw [e] at hs1
        exact ⟨(i + 1, x :: t), [], by dsimp only; omega, ⟨by dsimp only; omega, hs1.symm⟩, ⟨rfl, rfl, (by (repeat' (first | exact True.intro | rfl | refine And.intro ?_ ?_))), (by (repeat' (first | exact True.intro | rfl | refine And.intro ?_ ?_))), (by (repeat' (first | exact True.intro | rfl | refine And.intro ?_ ?_))), (by (repeat' (first | exact True.intro | exact Or.inl rfl | refine And.intro ?_ ?_ | refine Or.inr ⟨_, rfl, ?_⟩ | exact SubQ.same (n := 1000) (Y := []) (fun _ _ _ => rfl) (by first | exact True.intro | exact ltB_all rfl | exact ltB_ofLb (by first | exact bare0_ints | assumption | exact bVs_bare | exact iVs_bare | exact mVs_bare | (intro v hv; (repeat (rcases List.mem_cons.1 hv with rfl | hv; exact rfl)); cases hv)) | exact ltB_loop rfl rfl | exact hMap _ | exact hMap2 _ | exact grB_lt (by first | exact bare0_ints | assumption | exact bVs_bare | exact iVs_bare | exact mVs_bare | (intro v hv; (repeat (rcases List.mem_cons.1 hv with rfl | hv; exact rfl)); cases hv)) _ | exact ltB_encL | exact ltB_map0 | assumption) (avB_nil _) rfl | exact SubQ.ofL (by first | rfl | simp) (by first | exact bare0_ints | assumption | exact bVs_bare | exact iVs_bare | exact mVs_bare | (intro v hv; (repeat (rcases List.mem_cons.1 hv with rfl | hv; exact rfl)); cases hv)) (by first | exact Or.inl rfl | exact Or.inr rfl) | exact SubQ.fin (by (conv => whnf); (repeat' (first | exact True.intro | rfl | refine And.intro ?_ ?_)); done) (fun h => h) (by first | exact Or.inl rfl | exact Or.inr rfl)))), rfl, rfl⟩⟩
  · have e : i = 8 := by omega
    subst e
    rw [← j2]
    cases l with
    | nil =>
      (conv => whnf); (repeat' (first | ((with_reducible refine ifb_mk (fun hc => ?_) (fun hc => ?_)) <;> ((try simp only [decide_eq_true_eq, decide_eq_false_iff_not, Bool.not_eq_true', Bool.not_eq_false', Int.not_lt, Int.not_le, ne_eq, Decidable.not_not, beq_iff_eq, List.cons.injEq, and_true] at hc); (first | (exfalso; omega) | conv => whnf))) | ((with_reducible refine And.intro True.intro ?_); conv => whnf) | ((with_reducible refine And.intro ?hh ?_); (case hh => (unfold InR; (try dsimp only); omega)); conv => whnf) | ((with_reducible refine And.intro ?hh ?_); (case hh => ((try dsimp only); omega)); conv => whnf) | ((with_reducible refine And.intro ?hh ?_); (case hh => ((conv => whnf); (repeat' (first | exact True.intro | rfl | refine And.intro ?_ ?_)); done)); conv => whnf) | fail))
      all_goals exact ⟨[], rfl, rfl, rfl, trivial, (by (repeat' (first | exact True.intro | rfl | refine And.intro ?_ ?_)))⟩
    | cons x t =>
      (conv => whnf); (repeat' (first | ((with_reducible refine ifb_mk (fun hc => ?_) (fun hc => ?_)) <;> ((try simp only [decide_eq_true_eq, decide_eq_false_iff_not, Bool.not_eq_true', Bool.not_eq_false', Int.not_lt, Int.not_le, ne_eq, Decidable.not_not, beq_iff_eq, List.cons.injEq, and_true] at hc); (first | (exfalso; omega) | conv => whnf))) | ((with_reducible refine And.intro True.intro ?_); conv => whnf) | ((with_reducible refine And.intro ?hh ?_); (case hh => (unfold InR; (try dsimp only); omega)); conv => whnf) | ((with_reducible refine And.intro ?hh ?_); (case hh => ((try dsimp only); omega)); conv => whnf) | ((with_reducible refine And.intro ?hh ?_); (case hh => ((conv => whnf); (repeat' (first | exact True.intro | rfl | refine And.intro ?_ ?_)); done)); conv => whnf) | fail))
      all_goals exact ⟨[0], rfl, rfl, rfl, ⟨⟨_, rfl, rfl, SubQ.ofL rfl iVs_bare (.inr rfl)⟩, ltB_ofLb iVs_bare, rfl, trivial⟩, (by (repeat' (first | exact True.intro | rfl | refine And.intro ?_ ?_)))⟩
theorem reachedL_ok (h : H) (K : List Int) (Kn : List Nat) (hK : Kd K Kn) (hk : akB (-1) K = true) (kv : V) (hs : SlC h (iVs K) K.length kv) :
    CallOk Try.prog 51 [kv] h (.tup [grV h.n (rchL Kn).length, .bool true]) (addBs h (growB (rchL Kn))) := by
  have hlr := reachB_len hK hk
  have hg := reach_grp hK hk
  obtain ⟨vo, svC, hsv, hca, hvw⟩ := hs.view 0
  have hB := @iVs_bare K
  refine CallOk.runN Try.func51 rfl rfl (argsC := [svC]) (fun N => .tup [grV N (rchL Kn).length, .bool true]) (fun _ => growB (rchL Kn)) (Nat.le_of_ble_eq_true rfl) [vo] (.cons (hca _ rfl) .nil) (viewMc1 hB hvw)
    (ShV.tup (.cons (growSh _ _ _ _) (.cons (.bare rfl) .nil))) rfl (growBs _ _ _ _) (WpR.of_vc ?_)
  have hak : akB (-1) (rchL Kn) = true := akB_sel _ hlr
  have hlen : (rchL Kn).length ≤ 8 := selL_len _ _
  have kcl : K.length ≤ 8 := by have := hK.len; rw [hK.eq, List.length_map]; omega
  have hne : rchL Kn ≠ [] := by
    obtain ⟨b0, b1, b2, b3, b4, b5, b6, b7, e⟩ := ex8 hlr
    have := hg.zero
    unfold rchL
    rw [e] at this ⊢
    have : b0 = true := this
    subst this
    intro h
    have h2 : (0 : Int) ∈ selL [true, b1, b2, b3, b4, b5, b6, b7] 8 := List.mem_map.2 ⟨0, List.mem_filter.2 ⟨by decide, rfl⟩, rfl⟩
    rw [h] at h2; cases h2
  have kP := fun h' kv hs' => reachedP_ok h' K Kn hK hk kv hs'
  generalize rchL Kn = R at *
  match R, hne with
  | x :: t, _ =>
  have kC := fun h' lv hs' => checkKinds_ok h' (x :: t) lv hlen hak hs'
  rw [List.length_cons] at hlen
  cases hsv
  all_goals
    (conv => whnf); (repeat' (first | ((with_reducible refine ifb_mk (fun hc => ?_) (fun hc => ?_)) <;> ((try simp only [decide_eq_true_eq, decide_eq_false_iff_not, Bool.not_eq_true', Bool.not_eq_false', Int.not_lt, Int.not_le, ne_eq, Decidable.not_not, beq_iff_eq, List.cons.injEq, and_true] at hc); (first | (exfalso; omega) | conv => whnf))) | ((with_reducible refine And.intro True.intro ?_); conv => whnf) | ((with_reducible refine CallX.all ?_); refine CallW.of_new (vC := fun N => .tup [grV N (x :: t).length, .int .i64 0]) (news := fun _ => growB (x :: t)) (kP _ _ (by first | exact SlC.own rfl | exact iNil (by omega))) ?_; conv => whnf) | ((with_reducible refine CallX.all ?_); refine CallW.of_ok (kC _ _ (SlC.own rfl)) ?_; conv => whnf) | ((with_reducible refine And.intro ?hh ?_); (case hh => (unfold InR; (try dsimp only); omega)); conv => whnf) | ((with_reducible refine And.intro ?hh ?_); (case hh => ((try dsimp only); omega)); conv => whnf) | ((with_reducible refine And.intro ?hh ?_); (case hh => ((conv => whnf); (repeat' (first | exact True.intro | rfl | refine And.intro ?_ ?_)); done)); conv => whnf) | fail))
    first
    | exact ⟨[1], rfl, rfl, rfl, ⟨⟨_, rfl, rfl, SubQ.ofL rfl iVs_bare (.inr rfl)⟩, ltB_ofLb iVs_bare, rfl, trivial⟩, (by (repeat' (first | exact True.intro | rfl | refine And.intro ?_ ?_)))⟩
    | exact ⟨[0], rfl, rfl, rfl, ⟨⟨_, rfl, rfl, SubQ.ofL rfl iVs_bare (.inr rfl)⟩, ltB_ofLb iVs_bare, rfl, trivial⟩, (by (repeat' (first | exact True.intro | rfl | refine And.intro ?_ ?_)))⟩
end Go.Proofs.P

namespace Go.Proofs.P
open Go.As
set_option maxRecDepth 20000
set_option linter.unusedVariables false
set_option linter.unusedSimpArgs false

theorem fine_of {n : Nat} {D : List Int} (hn : 1 ≤ n ∧ n ≤ 8) (hD : D.length = n * n) (hw : wi 0 3 D = true) : fineB n D = true := by
  unfold fineB ckP
  have h1 : n * n ≤ 8 * 8 := Nat.mul_le_mul hn.2 hn.2
  rw [if_pos (by omega), if_pos (by exact_mod_cast hD), if_pos hw, decide_eq_true (by omega)]; rfl
theorem xm {a : Int} (ha : 0 ≤ a ∧ a ≤ 255) {m : Nat} (hm : 1 ≤ m) : ∃ x : Nat, x < m ∧ (IntKind.i64.wrap a).tmod (m : Int) = (x : Int) := by
  have e0 : IntKind.i64.wrap a = a := by
    unfold IntKind.wrap
    simp [IntKind.signed, IntKind.bits]
    omega
  rw [e0]
  refine ⟨a.toNat % m, Nat.mod_lt _ hm, ?_⟩
  obtain ⟨k, rfl⟩ : ∃ k : Nat, a = k := ⟨a.toNat, by omega⟩
  rfl
theorem sel_mem {B : List Bool} {r : Int} (h : r ∈ selL B 8) : ∃ k : Nat, r = k ∧ k < 8 ∧ B.getD k false = true := by
  obtain ⟨k, hk, rfl⟩ := List.mem_map.1 h
  have := List.mem_filter.1 hk
  exact ⟨k, rfl, List.mem_range.1 this.1, this.2⟩
theorem mem_sel {B : List Bool} {k : Nat} (hk : k < 8) (h : B.getD k false = true) : (k : Int) ∈ selL B 8 :=
  List.mem_map.2 ⟨k, List.mem_filter.2 ⟨List.mem_range.2 hk, h⟩, rfl⟩

set_option maxHeartbeats 16000000 in
theorem alikeMain (h : H) (n n2 : Nat) (hn : 1 ≤ n ∧ n ≤ 8) (hn2 : 1 ≤ n2 ∧ n2 ≤ 8) (D E : List Int) (hD : D.length = n * n) (hE : E.length = n2 * n2) (hw : wi 0 3 D = true) (hw2 : wi 0 3 E = true)
    (b1 o1 c1 : Nat) (e1 : Bool) (hs1 : SlC h (iVs D) D.length (.sl b1 o1 D.length c1 e1)) (b2 o2 c2 : Nat) (e2 : Bool) (hs2 : SlC h (iVs E) E.length (.sl b2 o2 E.length c2 e2)) (a : Int) (ha : 0 ≤ a ∧ a ≤ 255) (b : Int) (hb : 0 ≤ b ∧ b ≤ 255) :
    CallOk Try.prog 11 [plateV n (.sl b1 o1 D.length c1 e1), plateV n2 (.sl b2 o2 E.length c2 e2), .int .u8 a, .int .u8 b] h (.bool true) h := by
  obtain ⟨v1, s1, q1, ca1, w1⟩ := hs1.view 0
  obtain ⟨v2, s2, q2, ca2, w2⟩ := hs2.view 1
  have hN : 1 ≤ D.length ∧ D.length ≤ 64 := by
    rw [hD]
    have h1 : 1 * 1 ≤ n * n := Nat.mul_le_mul hn.1 hn.1
    have h2 : n * n ≤ 8 * 8 := Nat.mul_le_mul hn.2 hn.2
    omega
  have hN2 : 1 ≤ E.length ∧ E.length ≤ 64 := by
    rw [hE]
    have h1 : 1 * 1 ≤ n2 * n2 := Nat.mul_le_mul hn2.1 hn2.1
    have h2 : n2 * n2 ≤ 8 * 8 := Nat.mul_le_mul hn2.2 hn2.2
    omega
  obtain ⟨cp1, ex1, rfl⟩ : ∃ cap ex, s1 = .sl 0 0 D.length cap ex := by
    cases q1 with
    | nil h0 => omega
    | sl => exact ⟨_, _, rfl⟩
  obtain ⟨cp2, ex2, rfl⟩ : ∃ cap ex, s2 = .sl 1 0 E.length cap ex := by
    cases q2 with
    | nil h0 => omega
    | sl => exact ⟨_, _, rfl⟩
  have hB1 := @iVs_bare D
  have hB2 := @iVs_bare E
  -- the kinds and what is reached
  have kK := fun h' => kinds_ok h' a ha
  have hak : akB (-1) (selL (bitsOf a) 8) = true := akB_sel _ (by unfold bitsOf; simp)
  generalize selL (bitsOf a) 8 = K at *
  obtain ⟨Kn, hKd⟩ := kd_of hak
  have hg := reach_grp hKd hak
  have kR := fun h' kv hs' => reachedL_ok h' K Kn hKd hak kv hs'
  have hRl : (rchL Kn).length ≤ 8 := selL_len _ _
  have hRm : ∀ r ∈ rchL Kn, ∃ k : Nat, r = k ∧ k < 8 ∧ (reachB Kn).getD k false = true := fun r hr => sel_mem hr
  have hRi : ∀ k : Nat, k < 8 → (reachB Kn).getD k false = true → (k : Int) ∈ rchL Kn := fun k h1 h2 => mem_sel h1 h2
  have kLp := fun h' b cap ex hs' kv hkv => leastP_ok h' n hn D hD hw b 0 cap ex hs' K Kn hKd hak kv hkv
  have kLq := fun h' b cap ex hs' kv hkv => leastP_ok h' n2 hn2 E hE hw2 b 0 cap ex hs' K Kn hKd hak kv hkv
  have kA1 := fun h' b1 c1 e1 hs1 b2 c2 e2 hs2 kv hkv => alikeP_ok h' n n2 hn hn2 D E hD hE hw hw2 b1 0 c1 e1 hs1 b2 0 c2 e2 hs2 K Kn hKd hak kv hkv
  have iL := lst_in (n := n) (D := D) hg
  have iL2 := lst_in (n := n2) (D := E) hg
  have lL := lst_lt n (reachB Kn) D 8 (Nat.le_refl _)
  have lL2 := lst_lt n2 (reachB Kn) E 8 (Nat.le_refl _)
  have hR0 := hRi 0 (by decide) hg.zero
  obtain ⟨r0, s0, hR⟩ : ∃ r s, rchL Kn = r :: s := by
    cases hr : rchL Kn with
    | nil => rw [hr] at hR0; cases hR0
    | cons r s => exact ⟨r, s, rfl⟩
  rw [hR] at kR hRl hRm hRi
  clear hR hR0
  obtain ⟨x, hx, ex⟩ := xm hb (show 1 ≤ s0.length + 1 by omega)
  obtain ⟨r', hr'⟩ : ∃ r', (r0 :: s0)[x]? = some r' := ⟨_, List.getElem?_eq_getElem (by simpa using hx)⟩
  obtain ⟨r, rfl, hr8, hrB⟩ := hRm r' (List.mem_of_getElem? hr')
  have hMl : (movL n r D).length = n * n := by rw [movL_len]; exact hD
  have hMw : wi 0 3 (movL n r D) = true := wi_mov hw
  have hXl : (movL n (lst n (reachB Kn) D 8) D).length = n * n := by rw [movL_len]; exact hD
  have hXw : wi 0 3 (movL n (lst n (reachB Kn) D 8) D) = true := wi_mov hw
  have hYl : (movL n2 (lst n2 (reachB Kn) E 8) E).length = n2 * n2 := by rw [movL_len]; exact hE
  have hYw : wi 0 3 (movL n2 (lst n2 (reachB Kn) E 8) E) = true := wi_mov hw2
  have kM := fun h' b cap ex hs' => moveP_ok h' n r hn hr8 D hD hw b 0 cap ex hs'
  have kLx := fun h' b cap ex hs' kv hkv => leastP_ok h' n hn (movL n (lst n (reachB Kn) D 8) D) hXl hXw b 0 cap ex hs' K Kn hKd hak kv hkv
  have kLm := fun h' b cap ex hs' kv hkv => leastP_ok h' n hn (movL n r D) hMl hMw b 0 cap ex hs' K Kn hKd hak kv hkv
  have kA2 := fun h' b1 c1 e1 hs1 b2 c2 e2 hs2 kv hkv => alikeP_ok h' n n hn hn (movL n r D) D hMl hD hMw hw b1 0 c1 e1 hs1 b2 0 c2 e2 hs2 K Kn hKd hak kv hkv
  rw [alike_iff hg hn.2 hD hE] at kA1
  have hfm := alike_mov hg hn.2 hr8 hrB hD
  obtain ⟨bk1, bk2⟩ := fs_in _ 8 hfm
  obtain ⟨_, _, bk3⟩ := cf_yes hn.2 bk1 hMl hD bk2
  rw [hfm] at kA2
  clear hfm bk2
  rw [lst_lst hg hn.2 hD 8 (Nat.le_refl _), mov_zero] at kLx
  have eM := least_eq hg hn.2 hr8 hrB hD
  rw [eM] at kLm
  have le1 : lexC (movL n (lst n (reachB Kn) D 8) D) D ≤ 0 := by
    have := lst_le (n := n) (D := D) hg (j := 0) (by decide) hg.zero
    rwa [mov_zero] at this
  have le2 : lexC (movL n (lst n (reachB Kn) D 8) D) (movL n r D) ≤ 0 := lst_le hg hr8 hrB
  have kO := fun h' b cap ex hs' => moveOf_ok h' n (lst n (reachB Kn) D 8) hn lL D hD b 0 cap ex hs'
  have kOb := fun h' b cap ex hs' => moveOf_ok h' n (fsN (cfB n n (reachB Kn) (movL n r D) D) 8) hn bk1 (movL n r D) hMl b 0 cap ex hs'
  rw [bk3] at kOb
  have kI := fun h' => isM_ok h' _ bk1
  have hH := hRi _ lL iL
  have kH := fun h' lv hs' => has_ok h' (r0 :: s0) (lst n (reachB Kn) D 8 : Nat) lv (by simp at hRl ⊢; omega) hs'
  rw [decide_eq_true hH] at kH
  have kf1 := fun h' dv hs => fine_ok h' n D (by omega) dv hs
  rw [fine_of hn hD hw] at kf1
  have kf2 := fun h' dv hs => fine_ok h' n2 E (by omega) dv hs
  rw [fine_of hn2 hE hw2] at kf2
  have kf3 := fun h' dv hs => fine_ok h' n _ (by rw [hMl, ← hD]; omega) dv hs
  rw [fine_of hn hMl hMw] at kf3
  have kf4 := fun h' dv hs => fine_ok h' n _ (by rw [hXl, ← hD]; omega) dv hs
  rw [fine_of hn hXl hXw] at kf4
  have kf5 := fun h' dv hs => fine_ok h' n2 _ (by rw [hYl, ← hE]; omega) dv hs
  rw [fine_of hn2 hYl hYw] at kf5
  rw [movL_len] at kLx kLm kA2 kOb kf3 kf4 kf5
  have z1 := fun h' av bv g1 g2 => samePlate_ok h' n n (movL n (lst n (reachB Kn) D 8) D) (movL n (lst n (reachB Kn) D 8) D) av bv (by rw [movL_len]; omega) g1 g2
  have z2 := fun h' av bv g1 g2 => samePlate_ok h' n n2 (movL n (lst n (reachB Kn) D 8) D) (movL n2 (lst n2 (reachB Kn) E 8) E) av bv (by rw [movL_len]; omega) g1 g2
  have z3 := fun h' av bv g1 g2 => samePlate_ok h' n n D D av bv (by omega) g1 g2
  rw [decide_eq_true rfl, decide_eq_true rfl, movL_len] at z1
  rw [decide_eq_true rfl, decide_eq_true rfl] at z3
  rw [movL_len, movL_len] at z2
  have y1 := fun h' b cap ex b2 cap2 ex2 g1 g2 => behind_ok h' (movL n (lst n (reachB Kn) D 8) D) D b 0 cap ex b2 0 cap2 ex2 (by rw [movL_len]; omega) (by rw [movL_len]; omega) (by rw [movL_len]) g1 g2
  have y2 := fun h' b cap ex b2 cap2 ex2 g1 g2 => behind_ok h' (movL n (lst n (reachB Kn) D 8) D) (movL n r D) b 0 cap ex b2 0 cap2 ex2 (by rw [movL_len]; omega) (by rw [movL_len]; omega) (by rw [movL_len, movL_len]) g1 g2
  rw [decide_eq_false (by omega), movL_len] at y1
  rw [decide_eq_false (by omega), movL_len, movL_len] at y2
  clear hMl hMw hXl hXw hYl hYw eM le1 le2 bk3 hRm hRi iL iL2
  generalize fsN (cfB n n (reachB Kn) (movL n r D) D) 8 = bk at *
  generalize fsN (cfB n n2 (reachB Kn) D E) 8 = bq at *
  generalize movL n (lst n (reachB Kn) D 8) D = X at *
  generalize movL n2 (lst n2 (reachB Kn) E 8) E = Y at *
  generalize movL n r D = M at *
  generalize lst n (reachB Kn) D 8 = L at *
  generalize lst n2 (reachB Kn) E 8 = L2 at *
  generalize lst n (reachB Kn) M 8 = L3 at *
  generalize (decide ((n : Int) = n2) && decide (X = Y)) = f at *
  have hL0 : K.length ≤ 9223372036854775807 := by have := hKd.len; rw [hKd.eq, List.length_map]; omega
  have wK : ∀ {Z : List Nat} {Q : V → H → Prop} (h' : H), (addNP h' (fun _ => growB K) fun N h' => Q (grV N K.length) h') → CallW Try.prog Z 50 [.int .u8 a] h' Q := fun h' hQ => CallW.of_new (kK h') hQ
  have wR : ∀ {Z : List Nat} {Q : V → H → Prop} (h' : H) (kv : V) (hs' : SlC h' (iVs K) K.length kv), (addNP h' (fun _ => growB (r0 :: s0)) fun N h' => Q (.tup [grV N (r0 :: s0).length, .bool true]) h') → CallW Try.prog Z 51 [kv] h' Q := fun h' kv hs' hQ => CallW.of_new (vC := fun N => .tup [grV N (r0 :: s0).length, .bool true]) (kR h' kv hs') hQ
  have wM : ∀ {Z : List Nat} {Q : V → H → Prop} (h' : H) (b cap : Nat) (ex : Bool) (hs' : SlC h' (iVs D) D.length (.sl b 0 D.length cap ex)), (addNP h' (fun _ => [.cells (ofL (iVs M) 0) true none]) fun N h' => Q (.tup [plateV n (.sl N 0 D.length D.length true), .int .i64 0]) h') → CallW Try.prog Z 19 [plateV n (.sl b 0 D.length cap ex), nV r] h' Q := fun h' b cap ex hs' hQ => CallW.of_new (vC := fun N => .tup [plateV n (.sl N 0 D.length D.length true), .int .i64 0]) (news := fun _ => [.cells (ofL (iVs M) 0) true none]) (kM h' b cap ex hs') hQ
  have wP : ∀ {Z : List Nat} {Q : V → H → Prop} (h' : H) (b cap : Nat) (ex : Bool) (hs' : SlC h' (iVs D) D.length (.sl b 0 D.length cap ex)) (kv : V) (hkv : SlC h' (iVs K) K.length kv), (addNP h' (fun _ => [.cells (ofL (iVs X) 0) true none]) fun N h' => Q (.tup [plateV n (.sl N 0 D.length D.length true), .int .i64 L, .int .i64 0]) h') → CallW Try.prog Z 43 [plateV n (.sl b 0 D.length cap ex), kv] h' Q := fun h' b cap ex hs' kv hkv hQ => CallW.of_new (vC := fun N => .tup [plateV n (.sl N 0 D.length D.length true), .int .i64 L, .int .i64 0]) (news := fun _ => [.cells (ofL (iVs X) 0) true none]) (kLp h' b cap ex hs' kv hkv) hQ
  have wQ : ∀ {Z : List Nat} {Q : V → H → Prop} (h' : H) (b cap : Nat) (ex : Bool) (hs' : SlC h' (iVs E) E.length (.sl b 0 E.length cap ex)) (kv : V) (hkv : SlC h' (iVs K) K.length kv), (addNP h' (fun _ => [.cells (ofL (iVs Y) 0) true none]) fun N h' => Q (.tup [plateV n2 (.sl N 0 E.length E.length true), .int .i64 L2, .int .i64 0]) h') → CallW Try.prog Z 43 [plateV n2 (.sl b 0 E.length cap ex), kv] h' Q := fun h' b cap ex hs' kv hkv hQ => CallW.of_new (vC := fun N => .tup [plateV n2 (.sl N 0 E.length E.length true), .int .i64 L2, .int .i64 0]) (news := fun _ => [.cells (ofL (iVs Y) 0) true none]) (kLq h' b cap ex hs' kv hkv) hQ
  have wX : ∀ {Z : List Nat} {Q : V → H → Prop} (h' : H) (b cap : Nat) (ex : Bool) (hs' : SlC h' (iVs X) D.length (.sl b 0 D.length cap ex)) (kv : V) (hkv : SlC h' (iVs K) K.length kv), (addNP h' (fun _ => [.cells (ofL (iVs X) 0) true none]) fun N h' => Q (.tup [plateV n (.sl N 0 D.length D.length true), .int .i64 (0 : Nat), .int .i64 0]) h') → CallW Try.prog Z 43 [plateV n (.sl b 0 D.length cap ex), kv] h' Q := fun h' b cap ex hs' kv hkv hQ => CallW.of_new (vC := fun N => .tup [plateV n (.sl N 0 D.length D.length true), .int .i64 (0 : Nat), .int .i64 0]) (news := fun _ => [.cells (ofL (iVs X) 0) true none]) (kLx h' b cap ex hs' kv hkv) hQ
  have wW : ∀ {Z : List Nat} {Q : V → H → Prop} (h' : H) (b cap : Nat) (ex : Bool) (hs' : SlC h' (iVs M) D.length (.sl b 0 D.length cap ex)) (kv : V) (hkv : SlC h' (iVs K) K.length kv), (addNP h' (fun _ => [.cells (ofL (iVs X) 0) true none]) fun N h' => Q (.tup [plateV n (.sl N 0 D.length D.length true), .int .i64 L3, .int .i64 0]) h') → CallW Try.prog Z 43 [plateV n (.sl b 0 D.length cap ex), kv] h' Q := fun h' b cap ex hs' kv hkv hQ => CallW.of_new (vC := fun N => .tup [plateV n (.sl N 0 D.length D.length true), .int .i64 L3, .int .i64 0]) (news := fun _ => [.cells (ofL (iVs X) 0) true none]) (kLm h' b cap ex hs' kv hkv) hQ
  clear kK kR kLp kLq kLx kLm kM
  refine CallOk.run Try.func11 rfl rfl (argsC := [plateV n (.sl 0 0 D.length cp1 ex1), plateV n2 (.sl 1 0 E.length cp2 ex2), .int .u8 a, .int .u8 b]) (Nat.le_of_ble_eq_true rfl) [v1, v2] (.cons (CaL.agg (.cons (.bare rfl) (.cons (ca1 _ rfl) .nil))) (.cons (CaL.agg (.cons (.bare rfl) (.cons (ca2 _ rfl) .nil))) (.cons (.bare rfl) (.cons (.bare rfl) .nil)))) (viewMc2 hB1 w1 hB2 w2) rfl (WpR.of_vc ?_)
  cases K with
  | nil =>
    (conv => whnf); (repeat' (first | ((with_reducible refine ifb_mk (fun hc => ?_) (fun hc => ?_)) <;> ((try simp only [decide_eq_true_eq, decide_eq_false_iff_not, Bool.not_eq_true', Bool.not_eq_false', Int.not_lt, Int.not_le, ne_eq, Decidable.not_not, beq_iff_eq, List.cons.injEq, and_true] at hc); (first | (exfalso; omega) | conv => whnf))) | ((with_reducible refine And.intro True.intro ?_); conv => whnf) | ((with_reducible refine CallX.all ?_); refine CallW.of_ok (kf1 _ _ (SlC.own rfl)) ?_; conv => whnf) | ((with_reducible refine CallX.all ?_); refine CallW.of_ok (kf2 _ _ (SlC.own rfl)) ?_; conv => whnf) | ((with_reducible refine CallX.all ?_); refine wK _ ?_; conv => whnf) | ((with_reducible refine CallX.all ?_); refine wR _ _ (by first | exact SlC.own rfl | exact iNil rfl) ?_; conv => whnf) | ((with_reducible refine And.intro ?hh ?_); (case hh => (unfold InR; (try dsimp only); omega)); conv => whnf) | ((with_reducible refine And.intro ?hh ?_); (case hh => ((try dsimp only); omega)); conv => whnf) | ((with_reducible refine And.intro ?hh ?_); (case hh => ((conv => whnf); (repeat' (first | exact True.intro | rfl | refine And.intro ?_ ?_)); done)); conv => whnf) | fail))
    rw [ex]
    rw [List.length_cons] at hRl
    refine ⟨by show (-9223372036854775808 : Int) ≤ x ∧ (x : Int) ≤ 9223372036854775807; omega, ?_⟩
    cases f
    all_goals
      (conv => whnf); (repeat' (first | ((with_reducible refine ifb_mk (fun hc => ?_) (fun hc => ?_)) <;> ((try simp only [decide_eq_true_eq, decide_eq_false_iff_not, Bool.not_eq_true', Bool.not_eq_false', Int.not_lt, Int.not_le, ne_eq, Decidable.not_not, beq_iff_eq, List.cons.injEq, and_true] at hc); (first | (exfalso; omega) | conv => whnf))) | ((with_reducible refine And.intro True.intro ?_); conv => whnf) | ((with_reducible refine grd_get ?_); refine som_mk (a := ?_) ?hh ?_; (case hh => exact iGet hr'); conv => whnf) | ((with_reducible refine CallX.all ?_); refine wM _ _ _ _ (SlC.own rfl) ?_; conv => whnf) | ((with_reducible refine CallX.all ?_); refine wP _ _ _ _ (SlC.own rfl) _ (by first | exact SlC.own rfl | exact iNil rfl) ?_; conv => whnf) | ((with_reducible refine CallX.all ?_); refine wQ _ _ _ _ (SlC.own rfl) _ (by first | exact SlC.own rfl | exact iNil rfl) ?_; conv => whnf) | ((with_reducible refine WpR.draw (id := 11) mixed [0, 1, 2, 3, 4, 5, 6, 7, 8, 9, 10, 11, 12, 13, 14, 15, 16, 17, 18, 19, 20, 21, 22, 23, 24, 25, 26, 27, 28, 29, 30, 31, 32, 33, 35, 34, 36, 37, 38] [0, 1, 3, 7, 15, 31, 63, 127, 255, 511, 1023, 2047, 4095, 8191, 16383, 32767, 65535, 131071, 262143, 524287, 1048575, 2097151, 4194303, 8388607, 16777215, 33554431, 67108863, 67108863, 268435455, 536870911, 1073741823, 2147483647, 4294967295, 4294967295, 17179869183, 4294967295, 68719476735, 137438953471, 274877906943] ?hh ?_); (case hh => kernel_rfl); conv => whnf) | ((with_reducible refine grd_ex ?_); refine ex_ok (kf3 _ _ (SlC.own rfl)) ?_; conv => whnf) | ((with_reducible refine grd_ex ?_); refine ex_ok (kf4 _ _ (SlC.own rfl)) ?_; conv => whnf) | ((with_reducible refine grd_ex ?_); refine ex_ok (kf5 _ _ (SlC.own rfl)) ?_; conv => whnf) | ((with_reducible refine grd_ex ?_); refine ex_ok (kH _ _ (SlC.own rfl)) ?_; conv => whnf) | ((with_reducible refine grd_ex ?_); refine ex_new (vC := fun N => plateV n (.sl N 0 D.length D.length true)) (news := fun _ => [.cells (ofL (iVs X) 0) true none]) (kO _ _ _ _ (SlC.own rfl)) ?_; conv => whnf) | ((with_reducible refine grd_ex ?_); refine ex_ok (z1 _ _ _ (SlC.own rfl) (SlC.own rfl)) ?_; conv => whnf) | ((with_reducible refine CallX.all ?_); refine CallW.of_ok (kA1 _ _ _ _ (SlC.own rfl) _ _ _ (SlC.own rfl) _ (by first | exact SlC.own rfl | exact iNil rfl)) ?_; conv => whnf) | ((with_reducible refine CallX.all ?_); refine CallW.of_ok (kA2 _ _ _ _ (SlC.own rfl) _ _ _ (SlC.own rfl) _ (by first | exact SlC.own rfl | exact iNil rfl)) ?_; conv => whnf) | ((with_reducible refine CallX.all ?_); refine wX _ _ _ _ (SlC.own rfl) _ (by first | exact SlC.own rfl | exact iNil rfl) ?_; conv => whnf) | ((with_reducible refine CallX.all ?_); refine wW _ _ _ _ (SlC.own rfl) _ (by first | exact SlC.own rfl | exact iNil rfl) ?_; conv => whnf) | ((with_reducible refine WpR.draw (id := 17) mixed [0, 1, 2, 3, 4, 5, 6, 7, 8, 9, 10, 11, 12, 13, 14, 15, 16, 17, 18, 19, 20, 21, 22, 23, 24, 25, 27, 26, 28, 29, 30, 31, 32, 33, 34, 35, 36, 37, 38] [0, 1, 3, 7, 15, 31, 63, 127, 255, 127, 127, 1663, 4095, 8191, 16383, 32767, 65535, 131071, 262143, 524287, 1048575, 2097151, 4194303, 8388607, 16777215, 16777215, 67108863, 16777215, 268435455, 536870911, 1073741823, 2147483647, 4294967295, 8589934591, 17179869183, 34359738367, 68719476735, 137438953471, 274877906943] ?hh ?_); (case hh => kernel_rfl); conv => whnf) | ((with_reducible refine grd_ex ?_); refine ex_ok (z2 _ _ _ (SlC.own rfl) (SlC.own rfl)) ?_; conv => whnf) | ((with_reducible refine grd_ex ?_); refine ex_ok (kI _) ?_; conv => whnf) | ((with_reducible refine grd_ex ?_); refine ex_new (vC := fun N => plateV n (.sl N 0 D.length D.length true)) (news := fun _ => [.cells (ofL (iVs D) 0) true none]) (kOb _ _ _ _ (SlC.own rfl)) ?_; conv => whnf) | ((with_reducible refine grd_ex ?_); refine ex_ok (z3 _ _ _ (SlC.own rfl) (SlC.own rfl)) ?_; conv => whnf) | ((with_reducible refine CallX.all ?_); refine CallW.of_ok (z1 _ _ _ (SlC.own rfl) (SlC.own rfl)) ?_; conv => whnf) | ((with_reducible refine CallX.all ?_); refine CallW.of_ok (y1 _ _ _ _ _ _ _ (SlC.own rfl) (SlC.own rfl)) ?_; conv => whnf) | ((with_reducible refine CallX.all ?_); refine CallW.of_ok (y2 _ _ _ _ _ _ _ (SlC.own rfl) (SlC.own rfl)) ?_; conv => whnf) | ((with_reducible refine CallX.all ?_); refine CallW.of_ok (works_any _) ?_; conv => whnf) | ((with_reducible refine And.intro ?hh ?_); (case hh => (unfold InR; (try dsimp only); omega)); conv => whnf) | ((with_reducible refine And.intro ?hh ?_); (case hh => ((try dsimp only); omega)); conv => whnf) | ((with_reducible refine And.intro ?hh ?_); (case hh => ((conv => whnf); (repeat' (first | exact True.intro | rfl | refine And.intro ?_ ?_)); done)); conv => whnf) | fail))
      all_goals first | exact absurd trivial (by assumption) | (refine ⟨[], ?_, rfl, rfl, trivial, (by (repeat' (first | exact True.intro | rfl | refine And.intro ?_ ?_)))⟩; simp only [renV, renL]; (first | done | rfl | simp | grind))
  | cons k0 ks =>
    (conv => whnf); (repeat' (first | ((with_reducible refine ifb_mk (fun hc => ?_) (fun hc => ?_)) <;> ((try simp only [decide_eq_true_eq, decide_eq_false_iff_not, Bool.not_eq_true', Bool.not_eq_false', Int.not_lt, Int.not_le, ne_eq, Decidable.not_not, beq_iff_eq, List.cons.injEq, and_true] at hc); (first | (exfalso; omega) | conv => whnf))) | ((with_reducible refine And.intro True.intro ?_); conv => whnf) | ((with_reducible refine CallX.all ?_); refine CallW.of_ok (kf1 _ _ (SlC.own rfl)) ?_; conv => whnf) | ((with_reducible refine CallX.all ?_); refine CallW.of_ok (kf2 _ _ (SlC.own rfl)) ?_; conv => whnf) | ((with_reducible refine CallX.all ?_); refine wK _ ?_; conv => whnf) | ((with_reducible refine CallX.all ?_); refine wR _ _ (by first | exact SlC.own rfl | exact iNil rfl) ?_; conv => whnf) | ((with_reducible refine And.intro ?hh ?_); (case hh => (unfold InR; (try dsimp only); omega)); conv => whnf) | ((with_reducible refine And.intro ?hh ?_); (case hh => ((try dsimp only); omega)); conv => whnf) | ((with_reducible refine And.intro ?hh ?_); (case hh => ((conv => whnf); (repeat' (first | exact True.intro | rfl | refine And.intro ?_ ?_)); done)); conv => whnf) | fail))
    rw [ex]
    rw [List.length_cons] at hRl
    refine ⟨by show (-9223372036854775808 : Int) ≤ x ∧ (x : Int) ≤ 9223372036854775807; omega, ?_⟩
    cases f
    all_goals
      (conv => whnf); (repeat' (first | ((with_reducible refine ifb_mk (fun hc => ?_) (fun hc => ?_)) <;> ((try simp only [decide_eq_true_eq, decide_eq_false_iff_not, Bool.not_eq_true', Bool.not_eq_false', Int.not_lt, Int.not_le, ne_eq, Decidable.not_not, beq_iff_eq, List.cons.injEq, and_true] at hc); (first | (exfalso; omega) | conv => whnf))) | ((with_reducible refine And.intro True.intro ?_); conv => whnf) | ((with_reducible refine grd_get ?_); refine som_mk (a := ?_) ?hh ?_; (case hh => exact iGet hr'); conv => whnf) | ((with_reducible refine CallX.all ?_); refine wM _ _ _ _ (SlC.own rfl) ?_; conv => whnf) | ((with_reducible refine CallX.all ?_); refine wP _ _ _ _ (SlC.own rfl) _ (by first | exact SlC.own rfl | exact iNil rfl) ?_; conv => whnf) | ((with_reducible refine CallX.all ?_); refine wQ _ _ _ _ (SlC.own rfl) _ (by first | exact SlC.own rfl | exact iNil rfl) ?_; conv => whnf) | ((with_reducible refine WpR.draw (id := 11) mixed [0, 1, 2, 3, 4, 5, 6, 7, 8, 9, 10, 11, 12, 13, 14, 15, 16, 17, 18, 19, 20, 21, 22, 23, 24, 25, 26, 27, 28, 29, 30, 31, 32, 33, 35, 34, 36, 37, 38] [0, 1, 3, 7, 15, 31, 63, 127, 255, 511, 1023, 2047, 4095, 8191, 16383, 32767, 65535, 131071, 262143, 524287, 1048575, 2097151, 4194303, 8388607, 16777215, 33554431, 67108863, 67108863, 268435455, 536870911, 1073741823, 2147483647, 4294967295, 4294967295, 17179869183, 4294967295, 68719476735, 137438953471, 274877906943] ?hh ?_); (case hh => kernel_rfl); conv => whnf) | ((with_reducible refine grd_ex ?_); refine ex_ok (kf3 _ _ (SlC.own rfl)) ?_; conv => whnf) | ((with_reducible refine grd_ex ?_); refine ex_ok (kf4 _ _ (SlC.own rfl)) ?_; conv => whnf) | ((with_reducible refine grd_ex ?_); refine ex_ok (kf5 _ _ (SlC.own rfl)) ?_; conv => whnf) | ((with_reducible refine grd_ex ?_); refine ex_ok (kH _ _ (SlC.own rfl)) ?_; conv => whnf) | ((with_reducible refine grd_ex ?_); refine ex_new (vC := fun N => plateV n (.sl N 0 D.length D.length true)) (news := fun _ => [.cells (ofL (iVs X) 0) true none]) (kO _ _ _ _ (SlC.own rfl)) ?_; conv => whnf) | ((with_reducible refine grd_ex ?_); refine ex_ok (z1 _ _ _ (SlC.own rfl) (SlC.own rfl)) ?_; conv => whnf) | ((with_reducible refine CallX.all ?_); refine CallW.of_ok (kA1 _ _ _ _ (SlC.own rfl) _ _ _ (SlC.own rfl) _ (by first | exact SlC.own rfl | exact iNil rfl)) ?_; conv => whnf) | ((with_reducible refine CallX.all ?_); refine CallW.of_ok (kA2 _ _ _ _ (SlC.own rfl) _ _ _ (SlC.own rfl) _ (by first | exact SlC.own rfl | exact iNil rfl)) ?_; conv => whnf) | ((with_reducible refine CallX.all ?_); refine wX _ _ _ _ (SlC.own rfl) _ (by first | exact SlC.own rfl | exact iNil rfl) ?_; conv => whnf) | ((with_reducible refine CallX.all ?_); refine wW _ _ _ _ (SlC.own rfl) _ (by first | exact SlC.own rfl | exact iNil rfl) ?_; conv => whnf) | ((with_reducible refine WpR.draw (id := 17) mixed [0, 1, 2, 3, 4, 5, 6, 7, 8, 9, 10, 11, 12, 13, 14, 15, 16, 17, 18, 19, 20, 21, 22, 23, 24, 25, 27, 26, 28, 29, 30, 31, 32, 33, 34, 35, 36, 37, 38] [0, 1, 3, 7, 15, 31, 63, 127, 255, 127, 127, 1663, 4095, 8191, 16383, 32767, 65535, 131071, 262143, 524287, 1048575, 2097151, 4194303, 8388607, 16777215, 16777215, 67108863, 16777215, 268435455, 536870911, 1073741823, 2147483647, 4294967295, 8589934591, 17179869183, 34359738367, 68719476735, 137438953471, 274877906943] ?hh ?_); (case hh => kernel_rfl); conv => whnf) | ((with_reducible refine grd_ex ?_); refine ex_ok (z2 _ _ _ (SlC.own rfl) (SlC.own rfl)) ?_; conv => whnf) | ((with_reducible refine grd_ex ?_); refine ex_ok (kI _) ?_; conv => whnf) | ((with_reducible refine grd_ex ?_); refine ex_new (vC := fun N => plateV n (.sl N 0 D.length D.length true)) (news := fun _ => [.cells (ofL (iVs D) 0) true none]) (kOb _ _ _ _ (SlC.own rfl)) ?_; conv => whnf) | ((with_reducible refine grd_ex ?_); refine ex_ok (z3 _ _ _ (SlC.own rfl) (SlC.own rfl)) ?_; conv => whnf) | ((with_reducible refine CallX.all ?_); refine CallW.of_ok (z1 _ _ _ (SlC.own rfl) (SlC.own rfl)) ?_; conv => whnf) | ((with_reducible refine CallX.all ?_); refine CallW.of_ok (y1 _ _ _ _ _ _ _ (SlC.own rfl) (SlC.own rfl)) ?_; conv => whnf) | ((with_reducible refine CallX.all ?_); refine CallW.of_ok (y2 _ _ _ _ _ _ _ (SlC.own rfl) (SlC.own rfl)) ?_; conv => whnf) | ((with_reducible refine CallX.all ?_); refine CallW.of_ok (works_any _) ?_; conv => whnf) | ((with_reducible refine And.intro ?hh ?_); (case hh => (unfold InR; (try dsimp only); omega)); conv => whnf) | ((with_reducible refine And.intro ?hh ?_); (case hh => ((try dsimp only); omega)); conv => whnf) | ((with_reducible refine And.intro ?hh ?_); (case hh => ((conv => whnf); (repeat' (first | exact True.intro | rfl | refine And.intro ?_ ?_)); done)); conv => whnf) | fail))
      all_goals first | exact absurd trivial (by assumption) | (refine ⟨[], ?_, rfl, rfl, trivial, (by (repeat' (first | exact True.intro | rfl | refine And.intro ?_ ?_)))⟩; simp only [renV, renL]; (first | done | rfl | simp | grind))

theorem plateAlike_ok (h : H) (n : Int) (D : List Int) (hl : D.length ≤ 9223372036854775807) (dv : V) (hs : SlC h (iVs D) D.length dv) (n2 : Int) (E : List Int) (hl2 : E.length ≤ 9223372036854775807) (ev : V) (hs2 : SlC h (iVs E) E.length ev) (a : Int) (ha : 0 ≤ a ∧ a ≤ 255) (b : Int) (hb : 0 ≤ b ∧ b ≤ 255) :
    CallOk Try.prog 11 [plateV n dv, plateV n2 ev, .int .u8 a, .int .u8 b] h (.bool true) h := by
  have kF1 := fun h' dv hs => fine_ok h' n D hl dv hs
  have kF2 := fun h' dv hs => fine_ok h' n2 E hl2 dv hs
  by_cases hf : fineB n D = true ∧ fineB n2 E = true
  · obtain ⟨k, rfl, hk, hD, hw⟩ := ck_valid (fine_ck hf.1)
    obtain ⟨k2, rfl, hk2, hE, hw2⟩ := ck_valid (fine_ck hf.2)
    have h1 : 1 * 1 ≤ k * k := Nat.mul_le_mul hk.1 hk.1
    have h2 : 1 * 1 ≤ k2 * k2 := Nat.mul_le_mul hk2.1 hk2.1
    have e1 : ∃ b o cap ex, dv = .sl b o D.length cap ex := by
      cases hs with
      | nil h0 => omega
      | sl => exact ⟨_, _, _, _, rfl⟩
    have e2 : ∃ b o cap ex, ev = .sl b o E.length cap ex := by
      cases hs2 with
      | nil h0 => omega
      | sl => exact ⟨_, _, _, _, rfl⟩
    obtain ⟨b1, o1, c1, x1, rfl⟩ := e1
    obtain ⟨b2, o2, c2, x2, rfl⟩ := e2
    exact alikeMain h k k2 hk hk2 D E hD hE hw hw2 b1 o1 c1 x1 hs b2 o2 c2 x2 hs2 a ha b hb
  · obtain ⟨v1, s1, q1, ca1, w1⟩ := hs.view 0
    obtain ⟨v2, s2, q2, ca2, w2⟩ := hs2.view 1
    have hB1 := @iVs_bare D
    have hB2 := @iVs_bare E
    refine CallOk.run Try.func11 rfl rfl (argsC := [plateV n s1, plateV n2 s2, .int .u8 a, .int .u8 b]) (Nat.le_of_ble_eq_true rfl) [v1, v2] (.cons (CaL.agg (.cons (.bare rfl) (.cons (ca1 _ rfl) .nil))) (.cons (CaL.agg (.cons (.bare rfl) (.cons (ca2 _ rfl) .nil))) (.cons (.bare rfl) (.cons (.bare rfl) .nil)))) (viewMc2 hB1 w1 hB2 w2) rfl (WpR.of_vc ?_)
    cases f1 : fineB n D with
    | false =>
      rw [f1] at kF1
      cases q1
      all_goals
        cases q2
        all_goals
          (conv => whnf); (repeat' (first | ((with_reducible refine ifb_mk (fun hc => ?_) (fun hc => ?_)) <;> ((try simp only [decide_eq_true_eq, decide_eq_false_iff_not, Bool.not_eq_true', Bool.not_eq_false', Int.not_lt, Int.not_le, ne_eq, Decidable.not_not, beq_iff_eq, List.cons.injEq, and_true] at hc); (first | (exfalso; omega) | conv => whnf))) | ((with_reducible refine And.intro True.intro ?_); conv => whnf) | ((with_reducible refine CallX.all ?_); refine CallW.of_ok (kF1 _ _ (by first | exact SlC.own rfl | exact iNil (by omega))) ?_; conv => whnf) | ((with_reducible refine CallX.all ?_); refine CallW.of_ok (works_any _) ?_; conv => whnf) | ((with_reducible refine And.intro ?hh ?_); (case hh => (unfold InR; (try dsimp only); omega)); conv => whnf) | ((with_reducible refine And.intro ?hh ?_); (case hh => ((try dsimp only); omega)); conv => whnf) | ((with_reducible refine And.intro ?hh ?_); (case hh => ((conv => whnf); (repeat' (first | exact True.intro | rfl | refine And.intro ?_ ?_)); done)); conv => whnf) | fail))
          (refine ⟨[], ?_, rfl, rfl, trivial, (by (repeat' (first | exact True.intro | rfl | refine And.intro ?_ ?_)))⟩; simp only [renV, renL]; (first | done | rfl | simp | grind))
    | true =>
      have f2 : fineB n2 E = false := by cases h2 : fineB n2 E with | false => rfl | true => exact absurd ⟨f1, h2⟩ hf
      rw [f1] at kF1
      rw [f2] at kF2
      cases q1
      all_goals
        cases q2
        all_goals
          (conv => whnf); (repeat' (first | ((with_reducible refine ifb_mk (fun hc => ?_) (fun hc => ?_)) <;> ((try simp only [decide_eq_true_eq, decide_eq_false_iff_not, Bool.not_eq_true', Bool.not_eq_false', Int.not_lt, Int.not_le, ne_eq, Decidable.not_not, beq_iff_eq, List.cons.injEq, and_true] at hc); (first | (exfalso; omega) | conv => whnf))) | ((with_reducible refine And.intro True.intro ?_); conv => whnf) | ((with_reducible refine CallX.all ?_); refine CallW.of_ok (kF1 _ _ (by first | exact SlC.own rfl | exact iNil (by omega))) ?_; conv => whnf) | ((with_reducible refine CallX.all ?_); refine CallW.of_ok (kF2 _ _ (by first | exact SlC.own rfl | exact iNil (by omega))) ?_; conv => whnf) | ((with_reducible refine CallX.all ?_); refine CallW.of_ok (works_any _) ?_; conv => whnf) | ((with_reducible refine And.intro ?hh ?_); (case hh => (unfold InR; (try dsimp only); omega)); conv => whnf) | ((with_reducible refine And.intro ?hh ?_); (case hh => ((try dsimp only); omega)); conv => whnf) | ((with_reducible refine And.intro ?hh ?_); (case hh => ((conv => whnf); (repeat' (first | exact True.intro | rfl | refine And.intro ?_ ?_)); done)); conv => whnf) | fail))
          (refine ⟨[], ?_, rfl, rfl, trivial, (by (repeat' (first | exact True.intro | rfl | refine And.intro ?_ ?_)))⟩; simp only [renV, renL]; (first | done | rfl | simp | grind))
end Go.Proofs.P
