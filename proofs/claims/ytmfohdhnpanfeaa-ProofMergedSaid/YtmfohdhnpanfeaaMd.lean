/- What the functions answer that the laws call, one after another (Md). -/
import Derived.Test.YtmfohdhnpanfeaaAs6
import Derived.Test.YtmfohdhnpanfeaaBk3

set_option linter.unusedVariables false
namespace Go.Proofs.Q
open Go.As
set_option maxRecDepth 20000
set_option linter.unusedVariables false
set_option linter.unusedSimpArgs false

/-! ### Merged marks: what they have in common -/

theorem selR_eq {p q : Nat → Bool} : ∀ {n : Nat}, (∀ i, i < n → p i = q i) → selR p n = selR q n
  | 0, _ => rfl
  | n + 1, h => by
    show (if p n = true then (n : Int) :: selR p n else selR p n) = (if q n = true then (n : Int) :: selR q n else selR q n)
    rw [h n (by omega), selR_eq fun i hi => h i (by omega)]
theorem selR_mem {p : Nat → Bool} : ∀ {n : Nat} {z : Int}, z ∈ selR p n ↔ ∃ i, i < n ∧ p i = true ∧ z = (i : Int)
  | 0, z => ⟨fun h => (by cases h), fun ⟨i, hi, _⟩ => by omega⟩
  | n + 1, z => by
    have ih := selR_mem (p := p) (n := n) (z := z)
    have e : selR p (n + 1) = if p n = true then (n : Int) :: selR p n else selR p n := rfl
    rw [e]
    by_cases hp : p n = true
    · rw [if_pos hp, List.mem_cons, ih]
      constructor
      · rintro (rfl | ⟨i, h1, h2, h3⟩)
        · exact ⟨n, by omega, hp, rfl⟩
        · exact ⟨i, by omega, h2, h3⟩
      · rintro ⟨i, h1, h2, h3⟩
        by_cases hi : i = n
        · subst hi; exact .inl h3
        · exact .inr ⟨i, by omega, h2, h3⟩
    · rw [if_neg hp, ih]
      constructor
      · rintro ⟨i, h1, h2, h3⟩; exact ⟨i, by omega, h2, h3⟩
      · rintro ⟨i, h1, h2, h3⟩
        by_cases hi : i = n
        · subst hi; exact absurd h2 hp
        · exact ⟨i, by omega, h2, h3⟩
theorem selR_pw (p : Nat → Bool) : ∀ n, (selR p n).Pairwise (· > ·)
  | 0 => .nil
  | n + 1 => by
    have ih := selR_pw p n
    show (if p n = true then (n : Int) :: selR p n else selR p n).Pairwise _
    split
    · refine .cons (fun z hz => ?_) ih
      obtain ⟨i, hi, _, rfl⟩ := selR_mem.1 hz
      omega
    · exact ih
theorem stF_sel {p : Nat → Bool} {n i : Nat} (h : i < n) : stF (selR p n).length (iOf (selR p n)) i = p i := by
  rw [stF_mem]
  unfold memS
  rw [Bool.eq_iff_iff, decide_eq_true_eq, selR_mem]
  constructor
  · rintro ⟨j, _, h2, h3⟩
    have : i = j := by omega
    subst this; exact h2
  · intro hp; exact ⟨i, h, hp, rfl⟩
theorem selR_mono {p q : Nat → Bool} : ∀ {n : Nat}, (∀ i, i < n → p i = true → q i = true) → (selR p n).length ≤ (selR q n).length
  | 0, _ => Nat.le_refl _
  | n + 1, h => by
    have ih := selR_mono (p := p) (q := q) (n := n) (fun i hi => h i (by omega))
    have e : ∀ r : Nat → Bool, (selR r (n + 1)).length = (selR r n).length + if r n = true then 1 else 0 := fun r => by
      show (if r n = true then (n : Int) :: selR r n else selR r n).length = _
      split <;> rfl
    rw [e, e]
    by_cases hp : p n = true
    · rw [if_pos hp, if_pos (h n (by omega) hp)]; omega
    · rw [if_neg hp]; split <;> omega
theorem selR_or {p q : Nat → Bool} : ∀ {n : Nat}, (selR (orB p q) n).length ≤ (selR p n).length + (selR q n).length
  | 0 => Nat.le_refl _
  | n + 1 => by
    have ih := selR_or (p := p) (q := q) (n := n)
    have e : ∀ r : Nat → Bool, (selR r (n + 1)).length = (selR r n).length + if r n = true then 1 else 0 := fun r => by
      show (if r n = true then (n : Int) :: selR r n else selR r n).length = _
      split <;> rfl
    rw [e, e, e]
    unfold orB
    cases p n <;> cases q n <;> simp <;> unfold orB at ih <;> omega
theorem lnF_mono {A B : Nat → List UInt8} : ∀ {i : Nat}, (∀ j, j ≤ i → (A j).length ≤ (B j).length) → lnF A i ≤ lnF B i
  | 0, h => h 0 (Nat.le_refl _)
  | i + 1, h => by
    have h1 := lnF_mono (A := A) (B := B) (i := i) (fun j hj => h j (by omega))
    have h2 := h (i + 1) (Nat.le_refl _)
    show lnF A i + (A (i + 1)).length ≤ lnF B i + (B (i + 1)).length
    omega
theorem lnF_sum {A B C : Nat → List UInt8} : ∀ {i : Nat}, (∀ j, j ≤ i → (C j).length ≤ (A j).length + (B j).length) → lnF C i ≤ lnF A i + lnF B i
  | 0, h => h 0 (Nat.le_refl _)
  | i + 1, h => by
    have h1 := lnF_sum (A := A) (B := B) (C := C) (i := i) (fun j hj => h j (by omega))
    have h2 := h (i + 1) (Nat.le_refl _)
    show lnF C i + (C (i + 1)).length ≤ lnF A i + (A (i + 1)).length + (lnF B i + (B (i + 1)).length)
    omega

section
variable {T : List UInt8} {n : Nat} {s : Nat → Int} {k : Nat} {A : Nat → List UInt8} {n' : Nat} {s' : Nat → Int} {B : Nat → List UInt8}
theorem merged_ck (h1 : ckM T.length n s k A = 0) (h2 : ckM T.length n' s' k B = 0) : ckM T.length (mgS T n s n' s').length (iOf (mgS T n s n' s')) k (pkB A B) = 0 := by
  obtain ⟨a1, a2, a3, a4⟩ := ckM_n h1
  obtain ⟨b1, b2, b3, b4⟩ := ckM_n h2
  have hs : stB T.length (mgS T n s n' s').length (iOf (mgS T n s n' s')) = true := stB_of (selR_pw _ _) fun z hz => by
    obtain ⟨i, hi, _, rfl⟩ := selR_mem.1 hz
    omega
  unfold ckM
  rw [if_pos a1, if_pos a2, if_pos ?_, if_pos hs]
  refine allF_t fun i hi => ?_
  unfold pkB
  split
  · exact allF_iff.1 a3 i hi
  · exact allF_iff.1 b3 i hi
theorem mgS_comm : mgS T n s n' s' = mgS T n' s' n s := by
  unfold mgS
  exact selR_eq fun i _ => by unfold orB; rw [Bool.or_comm]
theorem mgS_self (h : stB T.length n s = true) : eqF (mgS T n s n s).length (iOf (mgS T n s n s)) n s = true := by
  have e : mgS T n s n s = selR (stF n s) T.length := selR_eq fun i _ => by unfold orB; rw [Bool.or_self]
  rw [e]
  obtain ⟨h1, h2⟩ := selR_st h
  unfold eqF
  rw [h1, decide_eq_true rfl, Bool.true_and]
  exact allF_t fun i hi => decide_eq_true (h2 i hi)
theorem mgS_none {s0 : Nat → Int} (h : stB T.length n s = true) : eqF (mgS T n s 0 s0).length (iOf (mgS T n s 0 s0)) n s = true := by
  have e : mgS T n s 0 s0 = selR (stF n s) T.length := selR_eq fun i _ => by
    unfold orB
    have : stF 0 s0 i = false := by unfold stF hasB; exact anyF_f (fun j hj => absurd hj (by omega))
    rw [this, Bool.or_false]
  rw [e]
  obtain ⟨h1, h2⟩ := selR_st h
  unfold eqF
  rw [h1, decide_eq_true rfl, Bool.true_and]
  exact allF_t fun i hi => decide_eq_true (h2 i hi)
theorem mgS_l {n3 : Nat} {s3 : Nat → Int} : mgS T (mgS T n s n' s').length (iOf (mgS T n s n' s')) n3 s3 = selR (orB (orB (stF n s) (stF n' s')) (stF n3 s3)) T.length :=
  selR_eq fun i hi => by
    show (stF (selR (orB (stF n s) (stF n' s')) T.length).length (iOf (selR (orB (stF n s) (stF n' s')) T.length)) i || stF n3 s3 i) = _
    rw [stF_sel hi]; rfl
theorem mgS_r {n3 : Nat} {s3 : Nat → Int} : mgS T n3 s3 (mgS T n s n' s').length (iOf (mgS T n s n' s')) = selR (orB (stF n3 s3) (orB (stF n s) (stF n' s'))) T.length :=
  selR_eq fun i hi => by
    show (stF n3 s3 i || stF (selR (orB (stF n s) (stF n' s')) T.length).length (iOf (selR (orB (stF n s) (stF n' s')) T.length)) i) = _
    rw [stF_sel hi]; rfl
theorem mgS_assoc {n3 : Nat} {s3 : Nat → Int} : mgS T (mgS T n s n' s').length (iOf (mgS T n s n' s')) n3 s3 = mgS T n s (mgS T n' s' n3 s3).length (iOf (mgS T n' s' n3 s3)) := by
  rw [mgS_l, mgS_r]
  exact selR_eq fun i _ => by unfold orB; rw [Bool.or_assoc]
/-- How many marks merged ones are. -/
theorem merged_nm (h1 : ckM T.length n s k A = 0) (h2 : ckM T.length n' s' k B = 0) (hcl : ∀ j, j < k → clP A B j = false) :
    n + lnF A T.length ≤ (mgS T n s n' s').length + lnF (pkB A B) T.length ∧ n' + lnF B T.length ≤ (mgS T n s n' s').length + lnF (pkB A B) T.length ∧ (mgS T n s n' s').length + lnF (pkB A B) T.length ≤ n + lnF A T.length + (n' + lnF B T.length) := by
  obtain ⟨a1, a2, a3, a4⟩ := ckM_n h1
  obtain ⟨b1, b2, b3, b4⟩ := ckM_n h2
  have e1 := (selR_st a4).1
  have e2 := (selR_st b4).1
  have g1 : (selR (stF n s) T.length).length ≤ (mgS T n s n' s').length := selR_mono fun i _ hp => by unfold orB; rw [hp]; rfl
  have g2 : (selR (stF n' s') T.length).length ≤ (mgS T n s n' s').length := selR_mono fun i _ hp => by unfold orB; rw [hp, Bool.or_true]
  have g3 : (mgS T n s n' s').length ≤ _ := selR_or (p := stF n s) (q := stF n' s') (n := T.length)
  have hp : ∀ j, j ≤ T.length → (A j).length ≤ (pkB A B j).length ∧ (B j).length ≤ (pkB A B j).length ∧ (pkB A B j).length ≤ (A j).length + (B j).length := fun j hj => by
    have hc := of_decide_eq_false (hcl j (by omega))
    unfold pkB
    by_cases hb : B j = []
    · rw [if_pos hb, hb]; simp
    · rw [if_neg hb]
      by_cases ha : A j = []
      · rw [ha]; simp
      · by_cases hab : A j = B j
        · rw [hab]; omega
        · exact absurd ⟨ha, hb, hab⟩ hc
  have l1 := lnF_mono (A := A) (B := pkB A B) (i := T.length) (fun j hj => (hp j hj).1)
  have l2 := lnF_mono (A := B) (B := pkB A B) (i := T.length) (fun j hj => (hp j hj).2.1)
  have l3 := lnF_sum (A := A) (B := B) (C := pkB A B) (i := T.length) (fun j hj => (hp j hj).2.2)
  omega
end
theorem pkB_comm {A B : Nat → List UInt8} {j : Nat} (h : clP A B j = false) : pkB A B j = pkB B A j := by
  rw [pk_eq h]
  unfold pk pkB
  split <;> rfl
theorem clP_comm (A B : Nat → List UInt8) (j : Nat) : clP A B j = clP B A j := by
  unfold clP
  exact decide_eq_decide.2 ⟨fun ⟨a, b, c⟩ => ⟨b, a, fun h => c h.symm⟩, fun ⟨a, b, c⟩ => ⟨b, a, fun h => c h.symm⟩⟩
theorem clP_self (A : Nat → List UInt8) (j : Nat) : clP A A j = false := decide_eq_false fun h => h.2.2 rfl
theorem clP_none (A : Nat → List UInt8) (j : Nat) : clP A (fun _ => []) j = false := decide_eq_false fun h => h.2.1 rfl
theorem clP_assoc {A B C : Nat → List UInt8} {j : Nat} (h1 : clP A B j = false) (h2 : clP B C j = false) : clP (pkB A B) C j = clP A (pkB B C) j ∧ pkB (pkB A B) C j = pkB A (pkB B C) j := by
  have g1 := of_decide_eq_false h1
  have g2 := of_decide_eq_false h2
  clear h1 h2
  unfold clP pkB
  by_cases hb : B j = []
  · rw [if_pos hb]
    by_cases hc : C j = []
    · rw [if_pos hc, if_pos hc, if_pos hb]
      exact ⟨decide_eq_decide.2 ⟨fun h => absurd hc h.2.1, fun h => absurd hb h.2.1⟩, rfl⟩
    · rw [if_neg hc, if_neg hc]
      exact ⟨rfl, rfl⟩
  · rw [if_neg hb]
    by_cases hc : C j = []
    · rw [if_pos hc, if_neg hb]
      exact ⟨decide_eq_decide.2 ⟨fun h => absurd hc h.2.1, fun h => absurd ⟨h.1, h.2.1, h.2.2⟩ g1⟩, rfl⟩
    · rw [if_neg hc, if_neg hc]
      have hbc : B j = C j := Classical.byContradiction fun h => g2 ⟨hb, hc, h⟩
      exact ⟨decide_eq_decide.2 ⟨fun h => absurd hbc h.2.2, fun h => absurd ⟨h.1, hb, by rw [hbc]; exact h.2.2⟩ g1⟩, rfl⟩
theorem clP_keep {A B C : Nat → List UInt8} {j : Nat} (h2 : clP B C j = true) : clP (pkB A B) C j = true := by
  have g := of_decide_eq_true h2
  refine decide_eq_true ?_
  unfold pkB
  rw [if_neg g.1]
  exact g
end Go.Proofs.Q

namespace Go.Proofs.Q
open Go.As
set_option maxRecDepth 20000
set_option linter.unusedVariables false
set_option linter.unusedSimpArgs false

/-- Marks that say nothing. -/
theorem marksL_new (h : H) (T : List UInt8) (hT : T.length ≤ 1000) : CallOk Try.prog 50 [tx T, .int .i64 (-1), tx [], .nils] h (.agg [.nils, .sl h.n 0 (T.length + 1) (T.length + 1) true]) (addBs h [.cells (ofL (arT (T.length + 1) (fun _ => [])) 0) true none]) := by
  refine CallOk.runN Try.func50 rfl rfl (argsC := [tx T, .int .i64 (-1), tx [], .nils]) (fun N => .agg [.nils, .sl N 0 (T.length + 1) (T.length + 1) true]) (fun _ => [.cells (ofL (arT (T.length + 1) (fun _ => [])) 0) true none]) (Nat.le_of_ble_eq_true rfl) [] (.cons (.lt0 rfl) (.cons (.lt0 rfl) (.cons (.lt0 rfl) (.cons (.lt0 rfl) .nil)))) (viewM0 h)
    (ShV.agg (.cons (.bare rfl) (.cons (.sl (i := 0) (by simp) rfl rfl) .nil))) rfl
    (fun i b hi => by
      match i with
      | 0 => simp at hi; subst hi; exact ⟨_, rfl, rfl, .bare (ofL_bare (arrV_bare fun _ => rfl))⟩
      | i + 1 => simp at hi) (WpR.of_vc ?_)
  have hz : ∀ (ρ : Nat → Nat) z, z = [tx []] → SubQ ρ (.cells (ofL (arT (T.length + 1) (fun _ => [])) 0) true none) (.cells (ofL (rep (T.length + 1) z) 0) true none) := fun ρ z hz => by
    rw [hz, arrV_rep]
    exact arrV_sub (fun _ => rfl) (.inl rfl) (fun c _ => rfl)
  (conv => whnf); (repeat' (first | ((with_reducible refine ifb_mk (fun hc => ?_) (fun hc => ?_)) <;> ((try simp only [decide_eq_true_eq, decide_eq_false_iff_not, Bool.not_eq_true', Bool.not_eq_false', Int.not_lt, Int.not_le, ne_eq, Decidable.not_not, beq_iff_eq, List.cons.injEq, and_true] at hc); (first | (exfalso; omega) | exact absurd True.intro hc | conv => whnf))) | ((with_reducible refine And.intro True.intro ?_); conv => whnf) | ((with_reducible refine And.intro ?hh ?_); (case hh => exact condA); conv => whnf) | fail))
  all_goals exact ⟨[0 + 1], rfl, rfl, rfl, ⟨⟨_, rfl, rfl, hz _ _ rfl⟩, ltB_ofLb (arrV_bare fun _ => rfl), rfl, trivial⟩, trivs⟩
theorem marksL_ok (h : H) (T : List UInt8) (hT : T.length ≤ 1000) : CallOk Try.prog 50 [tx T, .int .i64 (-1), tx [], .nils] h (marksV 0 (fun _ => 0) (T.length + 1) (fun _ => []) false true) h :=
  CallOk.freeze (marksL_new h T hT) (FzL.agg (.cons .nil (.cons (arrFz (i := 0) (gg := none) (fun _ => rfl) rfl (fun j _ => rfl)) .nil))) (fun b hb => by rw [List.mem_singleton.1 hb]; rfl)
theorem none_ck {T : List UInt8} (hT : T.length ≤ 12) : ckM T.length 0 (fun _ => 0) (T.length + 1) (fun _ => []) = 0 := by
  unfold ckM
  rw [if_pos hT, if_pos rfl, if_pos (show allT (T.length + 1) (fun _ => []) = true from allF_t fun i _ => rfl), if_pos (show stB T.length 0 (fun _ => 0) = true from allF_t fun i hi => absurd hi (by omega))]
end Go.Proofs.Q

namespace Go.Proofs.Q
open Go.As
set_option maxRecDepth 20000
set_option linter.unusedVariables false
set_option linter.unusedSimpArgs false
theorem same_zero (h : H) (z : Bool) : CallOk Try.prog 26 [zeroM, zeroM] h (.bool true) h := by
  have := same_ok h 0 (fun _ => 0) 0 (fun _ => []) false false 0 (fun _ => 0) 0 (fun _ => []) false false (by omega) (by omega)
  rw [eqF_refl, eqT_of (fun i hi => rfl)] at this
  exact this
section
variable (hW : ∀ h, CallOk Try.prog 19 [] h (.bool true) h) (h : H) (T : List UInt8) (n : Nat) (s : Nat → Int) (k : Nat) (A : Nat → List UInt8) (n' : Nat) (s' : Nat → Int) (B : Nat → List UInt8) (o : Nat) (t : Nat → Int) (C : Nat → List UInt8)
  (h1 : ckM T.length n s k A = 0) (h2 : ckM T.length n' s' k B = 0) (h3 : ckM T.length o t k C = 0)
/-- Marks merged with themselves, and with such as say nothing. -/
structure Own (T : List UInt8) (n : Nat) (s : Nat → Int) (k : Nat) (A : Nat → List UInt8) : Prop where
  kc : ∃ n2 s2 A2 z, (∀ h', CallOk Try.prog 27 [tx T, marksV n s k A false false, marksV n s k A false false] h' (.tup [marksV n2 s2 k A2 false z, .int .i64 0]) h') ∧ ∀ h', CallOk Try.prog 26 [marksV n2 s2 k A2 false z, marksV n s k A false false] h' (.bool true) h'
  kd : ∃ n2 s2 A2 z, (∀ h', CallOk Try.prog 27 [tx T, marksV n s k A false false, marksV 0 (fun _ => 0) (T.length + 1) (fun _ => []) false true] h' (.tup [marksV n2 s2 k A2 false z, .int .i64 0]) h') ∧ ∀ h', CallOk Try.prog 26 [marksV n2 s2 k A2 false z, marksV n s k A false false] h' (.bool true) h'
include h1 in
theorem own_ok : Own T n s k A := by
  obtain ⟨a1, a2, a3, a4⟩ := ckM_n h1
  have hn := st_le a4
  refine ⟨⟨_, _, _, _, fun h' => merge_none h' T n s k A false false n s k A false false h1 h1 (fun j _ => clP_self A j), fun h' => ?_⟩, ⟨_, _, _, _, fun h' => merge_none h' T n s k A false false 0 _ (T.length + 1) _ false true h1 (none_ck a1) (fun j _ => clP_none A j), fun h' => ?_⟩⟩
  · have hl : (mgS T n s n s).length ≤ T.length := selR_len _ _
    have := same_ok h' (mgS T n s n s).length (iOf (mgS T n s n s)) k (pkB A A) false true n s k A false false (by omega) (by omega)
    rw [mgS_self a4, eqT_of (fun i hi => by unfold pkB; split <;> rfl)] at this
    exact this
  · have hl : (mgS T n s 0 (fun _ => 0)).length ≤ T.length := selR_len _ _
    have := same_ok h' (mgS T n s 0 (fun _ => 0)).length (iOf (mgS T n s 0 (fun _ => 0))) k (pkB A (fun _ => [])) false true n s k A false false (by omega) (by omega)
    rw [mgS_none a4, eqT_of (fun i hi => by unfold pkB; rw [if_pos rfl])] at this
    exact this
include hW h1 h2 h3
set_option maxHeartbeats 4000000 in
theorem merged_case1 (p : Nat) (hp : p < k) (g1 : clP A B p = true) (g2 : ∀ j, j < p → clP A B j = false) :
    CallOk Try.prog 12 [tx T, marksV n s k A false false, marksV n' s' k B false false, marksV o t k C false false] h (.bool true) h := by
  obtain ⟨a1, a2, a3, a4⟩ := ckM_n h1
  have hn := st_le a4
  have hn' := st_le (ckM_n h2).2.2.2
  have ho := st_le (ckM_n h3).2.2.2
  obtain ⟨⟨n2, s2, A2, z2, kc, kcs⟩, ⟨n3, s3, A3, z3, kd, kds⟩⟩ := own_ok T n s k A h1
  have kF1 := fun h' => fine_ok h' T n s k A false false (by omega) (by omega)
  have kF2 := fun h' => fine_ok h' T n' s' k B false false (by omega) (by omega)
  have kF3 := fun h' => fine_ok h' T o t k C false false (by omega) (by omega)
  rw [fine_of h1] at kF1
  rw [fine_of h2] at kF2
  rw [fine_of h3] at kF3
  have ka := fun h' => zero_freeze (merge_clash h' T n s k A false false n' s' k B false false h1 h2 p hp g1 g2)
  have g1' : clP B A p = true := by rw [clP_comm]; exact g1
  have kb := fun h' => zero_freeze (merge_clash h' T n' s' k B false false n s k A false false h2 h1 p hp g1' (fun j hj => by rw [clP_comm]; exact g2 j hj))
  have kN := fun h' => marksL_ok h' T (by omega)
  have kCl := fun h' => clashP_some h' T n s k A false false n' s' k B false false h1 h2 p hp g1 g2
  have kS := fun h' => same_zero h' false
  obtain ⟨q1, q2, q3⟩ := of_decide_eq_true g1
  clear h1 h2 h3 g1 g2 g1' a3 a4
  unfold zeroM at ka kb kS
  refine CallOk.run0 Try.func12 rfl rfl rfl rfl rfl (WpR.of_vc ?_)
  (conv => whnf); (repeat' (first | ((with_reducible refine ifb_mk (fun hc => ?_) (fun hc => ?_)) <;> ((try simp only [decide_eq_true_eq, decide_eq_false_iff_not, Bool.not_eq_true', Bool.not_eq_false', Int.not_lt, Int.not_le, ne_eq, Decidable.not_not, beq_iff_eq, List.cons.injEq, and_true] at hc); (first | (exfalso; omega) | exact absurd True.intro hc | conv => whnf))) | ((with_reducible refine And.intro True.intro ?_); conv => whnf) | ((with_reducible refine CallX.all ?_); refine CallW.of_ok (kF1 _) ?_; conv => whnf) | ((with_reducible refine CallX.all ?_); refine CallW.of_ok (kF2 _) ?_; conv => whnf) | ((with_reducible refine CallX.all ?_); refine CallW.of_ok (kF3 _) ?_; conv => whnf) | ((with_reducible refine CallX.all ?_); refine CallW.of_ok (ka _) ?_; conv => whnf) | ((with_reducible refine CallX.all ?_); refine CallW.of_ok (kb _) ?_; conv => whnf) | ((with_reducible refine CallX.all ?_); refine CallW.of_ok (kc _) ?_; conv => whnf) | ((with_reducible refine CallX.all ?_); refine CallW.of_ok (kCl _) ?_; conv => whnf) | ((with_reducible refine WpR.draw (id := 6) mixed [0, 1, 2, 8, 3, 4, 5, 6, 7, 9, 10] [0, 0, 0, 4, 15, 31, 63, 63, 0, 383, 1023] ?hh ?_); (case hh => kernel_rfl); conv => whnf) | ((with_reducible refine grd_ex ?_); refine ex_ok (kN _) ?_; conv => whnf) | ((with_reducible refine grd_ex ?_); refine ex_ok (kd _) ?_; conv => whnf) | ((with_reducible refine CallX.all ?_); refine CallW.of_ok (kS _) ?_; conv => whnf) | ((with_reducible refine CallX.all ?_); refine CallW.of_ok (kcs _) ?_; conv => whnf) | ((with_reducible refine CallX.all ?_); refine CallW.of_ok (kds _) ?_; conv => whnf) | ((with_reducible refine grd_and ?_); refine And.intro (hp) ?_; conv => whnf) | ((with_reducible refine WpR.draw (id := 11) mixed [0, 1, 2, 3, 4, 5, 6, 7, 8, 9, 10, 11, 12, 13, 14, 15, 16, 17, 18, 19, 20, 21, 22, 23, 24, 25, 26, 27, 28, 29, 30, 31, 32, 33, 34, 35, 36, 37, 38, 39, 40, 41, 42, 43, 44, 45, 46, 47, 48, 49, 50, 51, 52, 53, 54, 55, 56, 57, 58, 59, 60] [0, 1, 3, 7, 15, 31, 63, 127, 255, 511, 1023, 2047, 2047, 6143, 16383, 32767, 65535, 131071, 262143, 131071, 1048575, 2097151, 4194303, 8388607, 16777215, 33554431, 67108863, 33554431, 268435455, 536870911, 1073741823, 2147483647, 4294967295, 8589934591, 17179869183, 8589934591, 68719476735, 137438953471, 8589934591, 283467841535, 8589934591, 1932735283199, 4131758538751, 8796093022207, 17592186044415, 35184372088831, 70368744177663, 140737488355327, 281474976710655, 562949953421311, 1125899906842623, 2251799813685247, 4503599627370495, 9007199254740991, 18014398509481983, 36028797018963967, 72057594037927935, 144115188075855871, 288230376151711743, 576460752303423487, 1152921504606846975] ?hh ?_); (case hh => kernel_rfl); conv => whnf) | ((with_reducible refine grd_ex ?_); refine ex_ok (hW _) ?_; conv => whnf) | ((with_reducible refine And.intro ?hh ?_); (case hh => exact condA); conv => whnf) | fail))
  all_goals first | exact absurd hc q1 | exact absurd hc q2 | exact absurd hc q3 | (exfalso; omega) | (refine ⟨[], ?_, rfl, rfl, trivial, trivs⟩; simp only [renV, renL]; (first | done | rfl | (simp; done) | (simp; omega) | grind))
end
end Go.Proofs.Q

namespace Go.Proofs.Q
open Go.As
set_option maxRecDepth 20000
set_option linter.unusedVariables false
set_option linter.unusedSimpArgs false
section
variable (hW : ∀ h, CallOk Try.prog 19 [] h (.bool true) h) (h : H) (T : List UInt8) (n : Nat) (s : Nat → Int) (k : Nat) (A : Nat → List UInt8) (n' : Nat) (s' : Nat → Int) (B : Nat → List UInt8) (o : Nat) (t : Nat → Int) (C : Nat → List UInt8)
  (h1 : ckM T.length n s k A = 0) (h2 : ckM T.length n' s' k B = 0) (h3 : ckM T.length o t k C = 0) (hcl : ∀ j, j < k → clP A B j = false)
include hW h1 h2 h3 hcl
set_option maxHeartbeats 8000000 in
/-- Two marks that do not contradict each other; what comes of the third one is left open. -/
theorem merged_case2 (e1 e2 : Int) (y1 : Nat) (y2 : Nat → Int) (y3 : Nat) (y4 : Nat → List UInt8) (y5 : Bool) (w1 : Nat) (w2 : Nat → Int) (w3 : Nat) (w4 : Nat → List UInt8) (w5 : Bool)
    (ky : ∀ h', CallOk Try.prog 27 [tx T, marksV (mgS T n s n' s').length (iOf (mgS T n s n' s')) k (pkB A B) false true, marksV o t k C false false] h' (.tup [marksV y1 y2 y3 y4 false y5, .int .i64 e1]) h')
    (kw : ∀ h', CallOk Try.prog 27 [tx T, marksV n' s' k B false false, marksV o t k C false false] h' (.tup [marksV w1 w2 w3 w4 false w5, .int .i64 e2]) h')
    (hend : e2 = 21 ∧ e1 = 21 ∨ e2 = 0 ∧ (∀ h', CallOk Try.prog 47 [tx T, marksV w1 w2 w3 w4 false w5] h' (.bool true) h') ∧ ∃ z1 z2 z3 z4 z5, (∀ h', CallOk Try.prog 27 [tx T, marksV n s k A false false, marksV w1 w2 w3 w4 false w5] h' (.tup [marksV z1 z2 z3 z4 false z5, .int .i64 e1]) h') ∧
      ∀ h', CallOk Try.prog 26 [marksV y1 y2 y3 y4 false y5, marksV z1 z2 z3 z4 false z5] h' (.bool true) h') :
    CallOk Try.prog 12 [tx T, marksV n s k A false false, marksV n' s' k B false false, marksV o t k C false false] h (.bool true) h := by
  obtain ⟨a1, a2, a3, a4⟩ := ckM_n h1
  have hn := st_le a4
  have hn' := st_le (ckM_n h2).2.2.2
  have ho := st_le (ckM_n h3).2.2.2
  obtain ⟨⟨n2, s2, A2, z2, kc, kcs⟩, ⟨n3, s3, A3, z3, kd, kds⟩⟩ := own_ok T n s k A h1
  have kF1 := fun h' => fine_ok h' T n s k A false false (by omega) (by omega)
  have kF2 := fun h' => fine_ok h' T n' s' k B false false (by omega) (by omega)
  have kF3 := fun h' => fine_ok h' T o t k C false false (by omega) (by omega)
  rw [fine_of h1] at kF1
  rw [fine_of h2] at kF2
  rw [fine_of h3] at kF3
  have hm := merged_ck h1 h2
  have hl : (mgS T n s n' s').length ≤ T.length := selR_len _ _
  have ka := fun h' => merge_none h' T n s k A false false n' s' k B false false h1 h2 hcl
  have hcl' : ∀ j, j < k → clP B A j = false := fun j hj => by rw [clP_comm]; exact hcl j hj
  have kb := fun h' => merge_none h' T n' s' k B false false n s k A false false h2 h1 hcl'
  have kN := fun h' => marksL_ok h' T (by omega)
  have kCl := fun h' => clashP_none h' T n s k A false false n' s' k B false false h1 h2 hcl
  rw [mgS_comm] at kb
  have kab := fun h' => same_ok h' (mgS T n s n' s').length (iOf (mgS T n s n' s')) k (pkB A B) false true (mgS T n s n' s').length (iOf (mgS T n s n' s')) k (pkB B A) false true (by omega) (by omega)
  rw [eqF_refl, eqT_of (fun i hi => pkB_comm (hcl i hi))] at kab
  have kFa := fun h' => fine_ok h' T (mgS T n s n' s').length (iOf (mgS T n s n' s')) k (pkB A B) false true (by omega) (by omega)
  rw [fine_of hm] at kFa
  have kRa := fun h' => readOf_ok h' T (mgS T n s n' s').length (iOf (mgS T n s n' s')) k (pkB A B) false true hm
  have kRm := fun h' => readOf_ok h' T n s k A false false h1
  have kRn := fun h' => readOf_ok h' T n' s' k B false false h2
  obtain ⟨c1, c2, c3⟩ := merged_nm h1 h2 hcl
  have kHa := fun h' (i : Nat) => has_ok h' (mgS T n s n' s').length (iOf (mgS T n s n' s')) false i (by omega)
  have kHm := fun h' (i : Nat) => has_ok h' n s false i (by omega)
  have kHn := fun h' (i : Nat) => has_ok h' n' s' false i (by omega)
  have e3 : ∀ i : Nat, hasB n s i = stF n s i := fun i => rfl
  have e4 : ∀ i : Nat, hasB n' s' i = stF n' s' i := fun i => rfl
  have e5 : ∀ i : Nat, i < T.length → hasB (mgS T n s n' s').length (iOf (mgS T n s n' s')) i = (stF n s i || stF n' s' i) := fun i hi => stF_sel (p := orB (stF n s) (stF n' s')) hi
  simp only [e3] at kHm
  simp only [e4] at kHn
  have hb1 : n + lnF A T.length ≤ 1000 := by have := lnF_le a3 (i := T.length) (by omega); omega
  have hb2 : n' + lnF B T.length ≤ 1000 := by have := lnF_le (ckM_n h2).2.2.1 (i := T.length) (by omega); omega
  have hb3 : (mgS T n s n' s').length + lnF (pkB A B) T.length ≤ 2000 := by omega
  generalize rdF T (stF n s) A T.length = R1 at *
  generalize rdF T (stF n' s') B T.length = R2 at *
  generalize rdF T (stF (mgS T n s n' s').length (iOf (mgS T n s n' s'))) (pkB A B) T.length = R3 at *
  generalize stF n s = P at *
  generalize stF n' s' = P' at *
  generalize hHa : hasB (mgS T n s n' s').length (iOf (mgS T n s n' s')) = Ha at *
  generalize n + lnF A T.length = u1 at *
  generalize n' + lnF B T.length = u2 at *
  generalize (mgS T n s n' s').length + lnF (pkB A B) T.length = u3 at *
  generalize (mgS T n s n' s').length = nn at *
  generalize iOf (mgS T n s n' s') = ss at *
  generalize pkB A B = AB at *
  generalize pkB B A = BA at *
  clear h1 h2 h3 hcl hcl' hm a3 a4 e3 e4 hHa
  refine CallOk.run0 Try.func12 rfl rfl rfl rfl rfl (WpR.of_vc ?_)
  (conv => whnf); (repeat' (first | ((with_reducible refine ifb_mk (fun hc => ?_) (fun hc => ?_)) <;> ((try simp only [decide_eq_true_eq, decide_eq_false_iff_not, Bool.not_eq_true', Bool.not_eq_false', Int.not_lt, Int.not_le, ne_eq, Decidable.not_not, beq_iff_eq, List.cons.injEq, and_true] at hc); (first | (exfalso; omega) | exact absurd True.intro hc | conv => whnf))) | ((with_reducible refine And.intro True.intro ?_); conv => whnf) | ((with_reducible refine CallX.all ?_); refine CallW.of_ok (kF1 _) ?_; conv => whnf) | ((with_reducible refine CallX.all ?_); refine CallW.of_ok (kF2 _) ?_; conv => whnf) | ((with_reducible refine CallX.all ?_); refine CallW.of_ok (kF3 _) ?_; conv => whnf) | ((with_reducible refine CallX.all ?_); refine CallW.of_ok (ka _) ?_; conv => whnf) | ((with_reducible refine CallX.all ?_); refine CallW.of_ok (kb _) ?_; conv => whnf) | ((with_reducible refine CallX.all ?_); refine CallW.of_ok (kc _) ?_; conv => whnf) | ((with_reducible refine CallX.all ?_); refine CallW.of_ok (kCl _) ?_; conv => whnf) | ((with_reducible refine WpR.draw (id := 6) mixed [0, 1, 2, 8, 3, 4, 5, 6, 7, 9, 10] [0, 0, 0, 4, 15, 31, 63, 63, 0, 383, 1023] ?hh ?_); (case hh => kernel_rfl); conv => whnf) | ((with_reducible refine grd_ex ?_); refine ex_ok (kN _) ?_; conv => whnf) | ((with_reducible refine grd_ex ?_); refine ex_ok (kd _) ?_; conv => whnf) | ((with_reducible refine CallX.all ?_); refine CallW.of_ok (kab _) ?_; conv => whnf) | ((with_reducible refine CallX.all ?_); refine CallW.of_ok (kcs _) ?_; conv => whnf) | ((with_reducible refine CallX.all ?_); refine CallW.of_ok (kds _) ?_; conv => whnf) | ((with_reducible refine CallX.all ?_); refine CallW.of_ok (kFa _) ?_; conv => whnf) | ((with_reducible refine CallX.all ?_); refine CallW.of_ok (kRa _) ?_; conv => whnf) | ((with_reducible refine CallX.all ?_); refine CallW.of_ok (kRm _) ?_; conv => whnf) | ((with_reducible refine CallX.all ?_); refine CallW.of_ok (kRn _) ?_; conv => whnf) | ((with_reducible refine And.intro ?hh ?_); (case hh => exact condA); conv => whnf) | fail))
  refine WpR.loopA (ι := Nat) [] [0, 5, 6, 7, 9, 20, 22, 24] [] [] 7 (fun i => [(25, .int .i64 i)]) (fun _ => []) (fun i => T.length - i) (fun i => i ≤ T.length) ?_ (0) (Nat.zero_le _) [] Back.auto
  intro i j1
  refine WpR.of_vc ?_
  by_cases hi : i < T.length
  · have e6 := e5 i hi
    have kA1 := fun h' => kHa h' i
    have kM1 := fun h' => kHm h' i
    have kN1 := fun h' => kHn h' i
    rw [e6] at kA1
    cases hp : P i with
    | true =>
      rw [hp] at kA1 kM1
      rw [Bool.true_or] at kA1
      (conv => whnf); (repeat' (first | ((with_reducible refine ifb_mk (fun hc => ?_) (fun hc => ?_)) <;> ((try simp only [decide_eq_true_eq, decide_eq_false_iff_not, Bool.not_eq_true', Bool.not_eq_false', Int.not_lt, Int.not_le, ne_eq, Decidable.not_not, beq_iff_eq, List.cons.injEq, and_true] at hc); (first | (exfalso; omega) | exact absurd True.intro hc | conv => whnf))) | ((with_reducible refine And.intro True.intro ?_); conv => whnf) | ((with_reducible refine WpR.draw (id := 20) mixed [0, 1, 2, 4, 5, 6, 3, 7, 8, 9, 10, 11, 12, 13, 14] [0, 1, 0, 7, 0, 16, 0, 127, 255, 511, 1023, 511, 4095, 8191, 16383] ?hh ?_); (case hh => kernel_rfl); conv => whnf) | ((with_reducible refine grd_ex ?_); refine ex_ok (kA1 _) ?_; conv => whnf) | ((with_reducible refine grd_ex ?_); refine ex_ok (kM1 _) ?_; conv => whnf) | ((with_reducible refine grd_ex ?_); refine ex_ok (kN1 _) ?_; conv => whnf) | ((with_reducible refine And.intro ?hh ?_); (case hh => exact condA); conv => whnf) | fail))
      all_goals first | (exfalso; omega) | exact ⟨i + 1, [], by omega, by omega, Back.auto⟩
    | false =>
      rw [hp] at kA1 kM1
      rw [Bool.false_or] at kA1
      cases hp' : P' i with
      | true =>
        rw [hp'] at kA1 kN1
        (conv => whnf); (repeat' (first | ((with_reducible refine ifb_mk (fun hc => ?_) (fun hc => ?_)) <;> ((try simp only [decide_eq_true_eq, decide_eq_false_iff_not, Bool.not_eq_true', Bool.not_eq_false', Int.not_lt, Int.not_le, ne_eq, Decidable.not_not, beq_iff_eq, List.cons.injEq, and_true] at hc); (first | (exfalso; omega) | exact absurd True.intro hc | conv => whnf))) | ((with_reducible refine And.intro True.intro ?_); conv => whnf) | ((with_reducible refine WpR.draw (id := 20) mixed [0, 1, 2, 4, 5, 6, 3, 7, 8, 9, 10, 11, 12, 13, 14] [0, 1, 0, 7, 0, 16, 0, 127, 255, 511, 1023, 511, 4095, 8191, 16383] ?hh ?_); (case hh => kernel_rfl); conv => whnf) | ((with_reducible refine grd_ex ?_); refine ex_ok (kA1 _) ?_; conv => whnf) | ((with_reducible refine grd_ex ?_); refine ex_ok (kM1 _) ?_; conv => whnf) | ((with_reducible refine grd_ex ?_); refine ex_ok (kN1 _) ?_; conv => whnf) | ((with_reducible refine And.intro ?hh ?_); (case hh => exact condA); conv => whnf) | fail))
        all_goals first | (exfalso; omega) | exact ⟨i + 1, [], by omega, by omega, Back.auto⟩
      | false =>
        rw [hp'] at kA1 kN1
        (conv => whnf); (repeat' (first | ((with_reducible refine ifb_mk (fun hc => ?_) (fun hc => ?_)) <;> ((try simp only [decide_eq_true_eq, decide_eq_false_iff_not, Bool.not_eq_true', Bool.not_eq_false', Int.not_lt, Int.not_le, ne_eq, Decidable.not_not, beq_iff_eq, List.cons.injEq, and_true] at hc); (first | (exfalso; omega) | exact absurd True.intro hc | conv => whnf))) | ((with_reducible refine And.intro True.intro ?_); conv => whnf) | ((with_reducible refine WpR.draw (id := 20) mixed [0, 1, 2, 4, 5, 6, 3, 7, 8, 9, 10, 11, 12, 13, 14] [0, 1, 0, 7, 0, 16, 0, 127, 255, 511, 1023, 511, 4095, 8191, 16383] ?hh ?_); (case hh => kernel_rfl); conv => whnf) | ((with_reducible refine grd_ex ?_); refine ex_ok (kA1 _) ?_; conv => whnf) | ((with_reducible refine grd_ex ?_); refine ex_ok (kM1 _) ?_; conv => whnf) | ((with_reducible refine grd_ex ?_); refine ex_ok (kN1 _) ?_; conv => whnf) | ((with_reducible refine And.intro ?hh ?_); (case hh => exact condA); conv => whnf) | fail))
        all_goals first | (exfalso; omega) | exact ⟨i + 1, [], by omega, by omega, Back.auto⟩
  · rcases hend with ⟨rfl, rfl⟩ | ⟨rfl, kf, z1, z2', z3', z4, z5, kz, kyz⟩
    · (conv => whnf); (repeat' (first | ((with_reducible refine ifb_mk (fun hc => ?_) (fun hc => ?_)) <;> ((try simp only [decide_eq_true_eq, decide_eq_false_iff_not, Bool.not_eq_true', Bool.not_eq_false', Int.not_lt, Int.not_le, ne_eq, Decidable.not_not, beq_iff_eq, List.cons.injEq, and_true] at hc); (first | (exfalso; omega) | exact absurd True.intro hc | conv => whnf))) | ((with_reducible refine And.intro True.intro ?_); conv => whnf) | ((with_reducible refine CallX.all ?_); refine CallW.of_ok (ky _) ?_; conv => whnf) | ((with_reducible refine CallX.all ?_); refine CallW.of_ok (kw _) ?_; conv => whnf) | ((with_reducible refine CallX.all ?_); refine CallW.of_ok (hW _) ?_; conv => whnf) | ((with_reducible refine And.intro ?hh ?_); (case hh => exact condA); conv => whnf) | fail))
      all_goals first | (exfalso; omega) | (refine ⟨[], ?_, rfl, rfl, trivial, trivs⟩; simp only [renV, renL]; (first | done | rfl | (simp; done) | (simp; omega) | grind))
    · (conv => whnf); (repeat' (first | ((with_reducible refine ifb_mk (fun hc => ?_) (fun hc => ?_)) <;> ((try simp only [decide_eq_true_eq, decide_eq_false_iff_not, Bool.not_eq_true', Bool.not_eq_false', Int.not_lt, Int.not_le, ne_eq, Decidable.not_not, beq_iff_eq, List.cons.injEq, and_true] at hc); (first | (exfalso; omega) | exact absurd True.intro hc | conv => whnf))) | ((with_reducible refine And.intro True.intro ?_); conv => whnf) | ((with_reducible refine CallX.all ?_); refine CallW.of_ok (ky _) ?_; conv => whnf) | ((with_reducible refine CallX.all ?_); refine CallW.of_ok (kw _) ?_; conv => whnf) | ((with_reducible refine CallX.all ?_); refine CallW.of_ok (kf _) ?_; conv => whnf) | ((with_reducible refine CallX.all ?_); refine CallW.of_ok (kz _) ?_; conv => whnf) | ((with_reducible refine CallX.all ?_); refine CallW.of_ok (kyz _) ?_; conv => whnf) | ((with_reducible refine CallX.all ?_); refine CallW.of_ok (hW _) ?_; conv => whnf) | ((with_reducible refine And.intro ?hh ?_); (case hh => exact condA); conv => whnf) | fail))
      all_goals first | (exfalso; omega) | (refine ⟨[], ?_, rfl, rfl, trivial, trivs⟩; simp only [renV, renL]; (first | done | rfl | (simp; done) | (simp; omega) | grind))
end
theorem or_falseB {a b : Bool} (h : ¬ (a = true ∧ b = true)) : a = false ∨ b = false := by cases a <;> cases b <;> simp_all
theorem proofMerged_ok (hW : ∀ h, CallOk Try.prog 19 [] h (.bool true) h) (h : H) (T : List UInt8) (n : Nat) (s : Nat → Int) (k : Nat) (A : Nat → List UInt8) (hn : n ≤ 9223372036854775807) (hk : k ≤ 9223372036854775807)
    (n' : Nat) (s' : Nat → Int) (k' : Nat) (B : Nat → List UInt8) (hn' : n' ≤ 9223372036854775807) (hk' : k' ≤ 9223372036854775807) (o : Nat) (t : Nat → Int) (k'' : Nat) (C : Nat → List UInt8) (ho : o ≤ 9223372036854775807) (hk'' : k'' ≤ 9223372036854775807) :
    CallOk Try.prog 12 [tx T, marksV n s k A false false, marksV n' s' k' B false false, marksV o t k'' C false false] h (.bool true) h := by
  have kF1 := fun h' => fine_ok h' T n s k A false false hn hk
  have kF2 := fun h' => fine_ok h' T n' s' k' B false false hn' hk'
  have kF3 := fun h' => fine_ok h' T o t k'' C false false ho hk''
  cases f1 : fineB T n s k A with
  | false =>
    rw [f1] at kF1
    refine CallOk.run0 Try.func12 rfl rfl rfl rfl rfl (WpR.of_vc ?_)
    (conv => whnf); (repeat' (first | ((with_reducible refine ifb_mk (fun hc => ?_) (fun hc => ?_)) <;> ((try simp only [decide_eq_true_eq, decide_eq_false_iff_not, Bool.not_eq_true', Bool.not_eq_false', Int.not_lt, Int.not_le, ne_eq, Decidable.not_not, beq_iff_eq, List.cons.injEq, and_true] at hc); (first | (exfalso; omega) | exact absurd True.intro hc | conv => whnf))) | ((with_reducible refine And.intro True.intro ?_); conv => whnf) | ((with_reducible refine CallX.all ?_); refine CallW.of_ok (kF1 _) ?_; conv => whnf) | ((with_reducible refine CallX.all ?_); refine CallW.of_ok (hW _) ?_; conv => whnf) | ((with_reducible refine And.intro ?hh ?_); (case hh => exact condA); conv => whnf) | fail))
    (refine ⟨[], ?_, rfl, rfl, trivial, trivs⟩; simp only [renV, renL]; (first | done | rfl | (simp; done) | (simp; omega) | grind))
  | true =>
    rw [f1] at kF1
    cases f2 : fineB T n' s' k' B with
    | false =>
      rw [f2] at kF2
      refine CallOk.run0 Try.func12 rfl rfl rfl rfl rfl (WpR.of_vc ?_)
      (conv => whnf); (repeat' (first | ((with_reducible refine ifb_mk (fun hc => ?_) (fun hc => ?_)) <;> ((try simp only [decide_eq_true_eq, decide_eq_false_iff_not, Bool.not_eq_true', Bool.not_eq_false', Int.not_lt, Int.not_le, ne_eq, Decidable.not_not, beq_iff_eq, List.cons.injEq, and_true] at hc); (first | (exfalso; omega) | exact absurd True.intro hc | conv => whnf))) | ((with_reducible refine And.intro True.intro ?_); conv => whnf) | ((with_reducible refine CallX.all ?_); refine CallW.of_ok (kF1 _) ?_; conv => whnf) | ((with_reducible refine CallX.all ?_); refine CallW.of_ok (kF2 _) ?_; conv => whnf) | ((with_reducible refine CallX.all ?_); refine CallW.of_ok (hW _) ?_; conv => whnf) | ((with_reducible refine And.intro ?hh ?_); (case hh => exact condA); conv => whnf) | fail))
      (refine ⟨[], ?_, rfl, rfl, trivial, trivs⟩; simp only [renV, renL]; (first | done | rfl | (simp; done) | (simp; omega) | grind))
    | true =>
      rw [f2] at kF2
      cases f3 : fineB T o t k'' C with
      | false =>
        rw [f3] at kF3
        refine CallOk.run0 Try.func12 rfl rfl rfl rfl rfl (WpR.of_vc ?_)
        (conv => whnf); (repeat' (first | ((with_reducible refine ifb_mk (fun hc => ?_) (fun hc => ?_)) <;> ((try simp only [decide_eq_true_eq, decide_eq_false_iff_not, Bool.not_eq_true', Bool.not_eq_false', Int.not_lt, Int.not_le, ne_eq, Decidable.not_not, beq_iff_eq, List.cons.injEq, and_true] at hc); (first | (exfalso; omega) | exact absurd True.intro hc | conv => whnf))) | ((with_reducible refine And.intro True.intro ?_); conv => whnf) | ((with_reducible refine CallX.all ?_); refine CallW.of_ok (kF1 _) ?_; conv => whnf) | ((with_reducible refine CallX.all ?_); refine CallW.of_ok (kF2 _) ?_; conv => whnf) | ((with_reducible refine CallX.all ?_); refine CallW.of_ok (kF3 _) ?_; conv => whnf) | ((with_reducible refine CallX.all ?_); refine CallW.of_ok (hW _) ?_; conv => whnf) | ((with_reducible refine And.intro ?hh ?_); (case hh => exact condA); conv => whnf) | fail))
        (refine ⟨[], ?_, rfl, rfl, trivial, trivs⟩; simp only [renV, renL]; (first | done | rfl | (simp; done) | (simp; omega) | grind))
      | true =>
        clear kF1 kF2 kF3
        have h1 := fine_n f1
        have h2 := fine_n f2
        have h3 := fine_n f3
        obtain ⟨a1, a2, a3, a4⟩ := ckM_n h1
        obtain ⟨b1, b2, b3, b4⟩ := ckM_n h2
        obtain ⟨c1, c2, c3, c4⟩ := ckM_n h3
        have ek : k' = k := by omega
        have ek2 : k'' = k := by omega
        subst ek ek2
        rcases clP_any (A := A) (B := B) (k := k'') with hcl | ⟨p, hp, g1, g2⟩
        · have hm := merged_ck h1 h2
          rcases clP_any (A := B) (B := C) (k := k'') with hbc | ⟨p, hp, g1, g2⟩
          · have hm2 := merged_ck h2 h3
            have hl2 : (mgS T n' s' o t).length ≤ T.length := selR_len _ _
            have has := fun j (hj : j < k'') => clP_assoc (hcl j hj) (hbc j hj)
            rcases clP_any (A := pkB A B) (B := C) (k := k'') with hac | ⟨q, hq, q1, q2⟩
            · refine merged_case2 hW h T n s k'' A n' s' B o t C h1 h2 h3 hcl 0 0 _ _ _ _ true _ _ _ _ true (fun h' => merge_none h' T _ _ k'' _ false true o t k'' C false false hm h3 hac) (fun h' => merge_none h' T n' s' k'' B false false o t k'' C false false h2 h3 hbc) (.inr ⟨rfl, fun h' => ?_, _, _, _, _, true, fun h' => merge_none h' T n s k'' A false false _ _ k'' _ false true h1 hm2 (fun j hj => by rw [← (has j hj).1]; exact hac j hj), fun h' => ?_⟩)
              · have := fine_ok h' T (mgS T n' s' o t).length (iOf (mgS T n' s' o t)) k'' (pkB B C) false true (by omega) (by omega)
                rw [fine_of hm2] at this
                exact this
              · rw [← mgS_assoc]
                have hl3 : (mgS T (mgS T n s n' s').length (iOf (mgS T n s n' s')) o t).length ≤ T.length := selR_len _ _
                have := same_ok h' (mgS T (mgS T n s n' s').length (iOf (mgS T n s n' s')) o t).length (iOf (mgS T (mgS T n s n' s').length (iOf (mgS T n s n' s')) o t)) k'' (pkB (pkB A B) C) false true (mgS T (mgS T n s n' s').length (iOf (mgS T n s n' s')) o t).length (iOf (mgS T (mgS T n s n' s').length (iOf (mgS T n s n' s')) o t)) k'' (pkB A (pkB B C)) false true (by omega) (by omega)
                rw [eqF_refl, eqT_of (fun i hi => (has i hi).2)] at this
                exact this
            · refine merged_case2 hW h T n s k'' A n' s' B o t C h1 h2 h3 hcl 21 0 0 (fun _ => 0) 0 (fun _ => []) false _ _ _ _ true (fun h' => zero_freeze (merge_clash h' T _ _ k'' _ false true o t k'' C false false hm h3 q hq q1 q2)) (fun h' => merge_none h' T n' s' k'' B false false o t k'' C false false h2 h3 hbc) (.inr ⟨rfl, fun h' => ?_, 0, (fun _ => 0), 0, (fun _ => []), false, fun h' => zero_freeze (merge_clash h' T n s k'' A false false _ _ k'' _ false true h1 hm2 q hq (by rw [← (has q hq).1]; exact q1) (fun j hj => by rw [← (has j (by omega)).1]; exact q2 j hj)), fun h' => same_zero h' false⟩)
              have := fine_ok h' T (mgS T n' s' o t).length (iOf (mgS T n' s' o t)) k'' (pkB B C) false true (by omega) (by omega)
              rw [fine_of hm2] at this
              exact this
          · obtain ⟨q, hq, q1, q2⟩ : ∃ q, q < k'' ∧ clP (pkB A B) C q = true ∧ ∀ j, j < q → clP (pkB A B) C j = false := by
              rcases clP_any (A := pkB A B) (B := C) (k := k'') with hac | hx
              · have := hac p hp; rw [clP_keep g1] at this; cases this
              · exact hx
            exact merged_case2 hW h T n s k'' A n' s' B o t C h1 h2 h3 hcl 21 21 0 (fun _ => 0) 0 (fun _ => []) false 0 (fun _ => 0) 0 (fun _ => []) false (fun h' => zero_freeze (merge_clash h' T _ _ k'' _ false true o t k'' C false false hm h3 q hq q1 q2)) (fun h' => zero_freeze (merge_clash h' T n' s' k'' B false false o t k'' C false false h2 h3 p hp g1 g2)) (.inl ⟨rfl, rfl⟩)
        · exact merged_case1 hW h T n s k'' A n' s' B o t C h1 h2 h3 p hp g1 g2
end Go.Proofs.Q
