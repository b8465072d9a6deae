/- What the functions answer that the laws call, one after another (Ln). -/
import Derived.Test.YtmfohdhnpanfeaaAs6
import Derived.Test.YtmfohdhnpanfeaaWk

set_option linter.unusedVariables false
namespace Go.Proofs.Q
open Go.As
set_option maxRecDepth 20000
set_option linter.unusedVariables false
set_option linter.unusedSimpArgs false

/-! ### How many pairs common parts have at most -/

/-- Of the first letters of two texts, given by whether two letters are the same byte. -/
def lcs (M : Nat → Nat → Bool) : Nat → Nat → Nat
  | 0, _ => 0
  | _ + 1, 0 => 0
  | i + 1, k + 1 => max (max (lcs M i (k + 1)) (lcs M (i + 1) k)) (if M i k then lcs M i k + 1 else 0)
theorem lcs_0k (M : Nat → Nat → Bool) (k : Nat) : lcs M 0 k = 0 := by unfold lcs; rfl
theorem lcs_i0 (M : Nat → Nat → Bool) : ∀ i, lcs M i 0 = 0
  | 0 => lcs_0k M 0
  | i + 1 => by unfold lcs; rfl
theorem lcs_ss (M : Nat → Nat → Bool) (i k : Nat) : lcs M (i + 1) (k + 1) = max (max (lcs M i (k + 1)) (lcs M (i + 1) k)) (if M i k then lcs M i k + 1 else 0) := by rw [lcs]
theorem lcs_up1 (M : Nat → Nat → Bool) (i k : Nat) : lcs M i k ≤ lcs M (i + 1) k := by
  cases k with
  | zero => rw [lcs_i0, lcs_i0]; exact Nat.le_refl _
  | succ k => rw [lcs_ss]; exact Nat.le_trans (Nat.le_max_left _ _) (Nat.le_max_left _ _)
theorem lcs_up2 (M : Nat → Nat → Bool) (i k : Nat) : lcs M i k ≤ lcs M i (k + 1) := by
  cases i with
  | zero => rw [lcs_0k, lcs_0k]; exact Nat.le_refl _
  | succ i => rw [lcs_ss]; exact Nat.le_trans (Nat.le_max_right _ _) (Nat.le_max_left _ _)
theorem lcs_pair {M : Nat → Nat → Bool} {i k : Nat} (h : M i k = true) : lcs M i k + 1 ≤ lcs M (i + 1) (k + 1) := by
  rw [lcs_ss, if_pos h]; exact Nat.le_max_right _ _
theorem lcs_cases (M : Nat → Nat → Bool) (i k : Nat) : lcs M (i + 1) (k + 1) = lcs M i (k + 1) ∨ lcs M (i + 1) (k + 1) = lcs M (i + 1) k ∨ (M i k = true ∧ lcs M (i + 1) (k + 1) = lcs M i k + 1) := by
  rw [lcs_ss]
  by_cases h : M i k = true
  · rw [if_pos h]
    generalize lcs M i (k + 1) = a
    generalize lcs M (i + 1) k = b
    generalize lcs M i k + 1 = c
    by_cases h1 : max a b ≤ c
    · exact .inr (.inr ⟨h, by omega⟩)
    · by_cases h2 : a ≤ b
      · exact .inr (.inl (by omega))
      · exact .inl (by omega)
  · rw [if_neg h]
    generalize lcs M i (k + 1) = a
    generalize lcs M (i + 1) k = b
    by_cases h2 : a ≤ b
    · exact .inr (.inl (by omega))
    · exact .inl (by omega)
theorem lcs_lip1 (M : Nat → Nat → Bool) (i : Nat) : ∀ k, lcs M (i + 1) k ≤ lcs M i k + 1
  | 0 => by rw [lcs_i0]; omega
  | k + 1 => by
    have ih := lcs_lip1 M i k
    have h1 := lcs_up2 M i k
    rcases lcs_cases M i k with h | h | ⟨_, h⟩ <;> omega
theorem lcs_sym {M N : Nat → Nat → Bool} (h : ∀ i k, M i k = N k i) : ∀ i k, lcs M i k = lcs N k i
  | 0, k => by rw [lcs_0k, lcs_i0]
  | i + 1, 0 => by rw [lcs_0k, lcs_i0]
  | i + 1, k + 1 => by rw [lcs_ss, lcs_ss, lcs_sym h i (k + 1), lcs_sym h (i + 1) k, lcs_sym h i k, h i k]; exact congrArg (max · _) (Nat.max_comm _ _)
theorem lcs_lip2 (M : Nat → Nat → Bool) (i k : Nat) : lcs M i (k + 1) ≤ lcs M i k + 1 := by
  have h := lcs_lip1 (fun a b => M b a) k i
  rwa [lcs_sym (N := M) (fun _ _ => rfl), lcs_sym (N := M) (fun _ _ => rfl)] at h
theorem lcs_le1 (M : Nat → Nat → Bool) : ∀ i k, lcs M i k ≤ i
  | 0, k => by rw [lcs_0k]; exact Nat.le_refl _
  | i + 1, k => by have := lcs_lip1 M i k; have := lcs_le1 M i k; omega
theorem lcs_le2 (M : Nat → Nat → Bool) (i : Nat) : ∀ k, lcs M i k ≤ k
  | 0 => by rw [lcs_i0]; exact Nat.le_refl _
  | k + 1 => by have := lcs_lip2 M i k; have := lcs_le2 M i k; omega
theorem lcs_congr {M N : Nat → Nat → Bool} : ∀ {i k : Nat}, (∀ a b, a < i → b < k → M a b = N a b) → lcs M i k = lcs N i k
  | 0, k, _ => by rw [lcs_0k, lcs_0k]
  | i + 1, 0, _ => by rw [lcs_i0, lcs_i0]
  | i + 1, k + 1, h => by
    rw [lcs_ss, lcs_ss, lcs_congr (i := i) (k := k + 1) (fun a b ha hb => h a b (by omega) hb), lcs_congr (i := i + 1) (k := k) (fun a b ha hb => h a b ha (by omega)), lcs_congr (i := i) (k := k) (fun a b ha hb => h a b (by omega) (by omega)), h i k (by omega) (by omega)]
/-- From one text over a second to a third one. -/
theorem lcs_tri {M N K : Nat → Nat → Bool} (h : ∀ i j k, M i j = true → N j k = true → K i k = true) : ∀ i j k, lcs M i j + lcs N j k ≤ j + lcs K i k
  | 0, j, k => by have := lcs_le1 N j k; rw [lcs_0k]; omega
  | i + 1, 0, k => by rw [lcs_i0, lcs_0k]; omega
  | i + 1, j + 1, 0 => by have := lcs_le2 M (i + 1) (j + 1); rw [lcs_i0]; omega
  | i + 1, j + 1, k + 1 => by
    have k1 := lcs_up1 K i (k + 1)
    have k2 := lcs_up2 K (i + 1) k
    have m1 := lcs_lip2 M (i + 1) j
    have n1 := lcs_lip1 N j (k + 1)
    rcases lcs_cases M i j with hm | hm | ⟨hm, em⟩
    · have := lcs_tri h i (j + 1) (k + 1); omega
    · have := lcs_tri h (i + 1) j (k + 1); omega
    · rcases lcs_cases N j k with hn | hn | ⟨hn, en⟩
      · have := lcs_tri h (i + 1) j (k + 1); omega
      · have := lcs_tri h (i + 1) (j + 1) k; omega
      · have := lcs_tri h i j k
        have := lcs_pair (h i j k hm hn)
        omega
termination_by i j k => i + j + k
/-- All letters are in pairs just if the letters are the same. -/
theorem lcs_diag {M : Nat → Nat → Bool} : ∀ {n : Nat}, (∀ i, i < n → M i i = true) → lcs M n n = n
  | 0, _ => lcs_0k M 0
  | n + 1, h => by
    have h1 := lcs_pair (h n (by omega))
    have h2 := lcs_le1 M (n + 1) (n + 1)
    have h3 := lcs_diag (n := n) fun i hi => h i (by omega)
    omega
theorem lcs_diag' {M : Nat → Nat → Bool} : ∀ {n : Nat}, lcs M n n = n → ∀ i, i < n → M i i = true
  | 0, _, i, hi => by omega
  | n + 1, h, i, hi => by
    have h1 := lcs_le1 M n (n + 1)
    have h2 := lcs_le2 M (n + 1) n
    rcases lcs_cases M n n with e | e | ⟨hm, e⟩
    · omega
    · omega
    · by_cases he : i = n
      · subst he; exact hm
      · exact lcs_diag' (n := n) (by omega) i (by omega)
/-- Parts one after another. -/
theorem lcs_add {M N K : Nat → Nat → Bool} (a b : Nat) (hM : ∀ i k, i < a → k < b → K i k = M i k) (hN : ∀ i k, K (a + i) (b + k) = N i k) : ∀ i k, lcs M a b + lcs N i k ≤ lcs K (a + i) (b + k)
  | 0, 0 => by rw [lcs_0k]; show lcs M a b + 0 ≤ lcs K a b; rw [lcs_congr (M := K) (N := M) hM]; omega
  | 0, k + 1 => by
    have ih := lcs_add (N := N) a b hM hN 0 k
    have := lcs_up2 K (a + 0) (b + k)
    rw [lcs_0k] at ih ⊢
    exact Nat.le_trans ih this
  | i + 1, 0 => by
    have ih := lcs_add (N := N) a b hM hN i 0
    have := lcs_up1 K (a + i) (b + 0)
    rw [lcs_i0] at ih ⊢
    exact Nat.le_trans ih this
  | i + 1, k + 1 => by
    rcases lcs_cases N i k with e | e | ⟨hm, e⟩
    · have ih := lcs_add (N := N) a b hM hN i (k + 1)
      have := lcs_up1 K (a + i) (b + (k + 1))
      rw [e]
      exact Nat.le_trans ih this
    · have ih := lcs_add (N := N) a b hM hN (i + 1) k
      have := lcs_up2 K (a + (i + 1)) (b + k)
      rw [e]
      exact Nat.le_trans ih this
    · have ih := lcs_add (N := N) a b hM hN i k
      have := lcs_pair (M := K) (i := a + i) (k := b + k) (by rw [hN]; exact hm)
      rw [e]
      show lcs M a b + (lcs N i k + 1) ≤ lcs K (a + i + 1) (b + k + 1)
      omega
end Go.Proofs.Q

namespace Go.Proofs.Q
open Go.As
set_option maxRecDepth 20000
set_option linter.unusedVariables false
set_option linter.unusedSimpArgs false

/-- Whether two letters are there, and the same byte. -/
def mq (a b : List UInt8) (i k : Nat) : Bool := decide (i < a.length ∧ k < b.length ∧ byteAt a i = byteAt b k)
/-- The map of labels: the matches of a letter, and of all letters before it. -/
def mtK (M : Nat → Nat → Bool) (i : Nat) (acc : List Q) : Nat → List Q
  | 0 => acc
  | k + 1 => if M i k then mtK M i acc k ++ [(((i : Int), (k : Int)), ((lcs M i k + 1 : Nat) : Int), (mtK M i acc k).length)] else mtK M i acc k
def mtL (M : Nat → Nat → Bool) (n : Nat) : Nat → List Q
  | 0 => []
  | i + 1 => mtK M i (mtL M n i) n
theorem mtK_key {M : Nat → Nat → Bool} {i : Nat} {acc : List Q} (h : ∀ q ∈ acc, q.1.1 < i) : ∀ (k : Nat), ∀ q ∈ mtK M i acc k, q.1.1 < i ∨ q.1.1 = i ∧ q.1.2 < k
  | 0, q, hq => .inl (h q hq)
  | k + 1, q, hq => by
    unfold mtK at hq
    split at hq
    · rcases List.mem_append.1 hq with hq | hq
      · rcases mtK_key h k q hq with h1 | ⟨h1, h2⟩
        · exact .inl h1
        · exact .inr ⟨h1, by omega⟩
      · rw [List.mem_singleton.1 hq]
        exact .inr ⟨rfl, by dsimp only; omega⟩
    · rcases mtK_key h k q hq with h1 | ⟨h1, h2⟩
      · exact .inl h1
      · exact .inr ⟨h1, by omega⟩
theorem mtL_key (M : Nat → Nat → Bool) (n : Nat) : ∀ (i : Nat), ∀ q ∈ mtL M n i, q.1.1 < i
  | 0, q, hq => by cases hq
  | i + 1, q, hq => by
    rcases mtK_key (mtL_key M n i) n q hq with h | ⟨h, _⟩ <;> omega
theorem mtK_new {M : Nat → Nat → Bool} {n i k : Nat} : ∀ em, findAt Try.prog em 110 (key2 ((i : Int), (k : Int))) (encL (mtK M i (mtL M n i) k)) = some none := fun em => by
  rw [findQ, List.findIdx?_eq_none_iff.2]
  intro x hx
  obtain ⟨q, hq, rfl⟩ := List.mem_map.1 hx
  refine decide_eq_false fun hc => ?_
  rcases mtK_key (mtL_key M n i) k q hq with h | ⟨_, h⟩
  · rw [← hc] at h; dsimp only at h; omega
  · rw [← hc] at h; dsimp only at h; omega
theorem putN_all : ∀ (l : List V) (c : Tr V) (o : Nat), (∀ k, k < l.length → ∃ v, c.get (o + k) = some v) → ∃ c2, putN l c o = some c2 ∧ ∀ k, c2.get k = if o ≤ k ∧ k < o + l.length then l[k - o]? else c.get k := by
  intro l
  induction l with
  | nil => intro c o _; exact ⟨c, rfl, fun k => by rw [if_neg (by simp only [List.length_nil]; omega)]⟩
  | cons u l ih =>
    intro c o h
    obtain ⟨v, hv⟩ := h 0 (by simp)
    rw [Nat.add_zero] at hv
    obtain ⟨c2, h1, h2⟩ := ih (c.set o u) (o + 1) (fun k hk => by
      obtain ⟨w, hw⟩ := h (k + 1) (by simp; omega)
      refine ⟨w, ?_⟩
      rw [Tr.get_set, if_neg (by omega), show o + 1 + k = o + (k + 1) from by omega]; exact hw)
    refine ⟨c2, by rw [putN_cons, hv]; exact h1, fun k => ?_⟩
    rw [h2]
    by_cases he : k = o
    · subst he
      rw [if_neg (by omega), Tr.get_set, if_pos rfl, if_pos (by simp only [List.length_cons]; omega), Nat.sub_self]; rfl
    · by_cases hk : o ≤ k ∧ k < o + (u :: l).length
      · rw [if_pos hk, if_pos (by simp only [List.length_cons] at hk; omega), show k - o = (k - (o + 1)) + 1 from by omega, List.getElem?_cons_succ]
      · rw [if_neg hk, if_neg (by simp only [List.length_cons] at hk; omega), Tr.get_set, if_neg he]
/-- 13 numbers. -/
def aN (f : Nat → Int) : List V := arrV 13 fun k => .int .i64 (f k)
theorem aN_get {f : Nat → Int} {o w : Nat} (ho : o = w) (h : w < 13) : (ofL (aN f) 0).get o = some (.int .i64 (f w)) := arrV_get ho h
theorem aN_bare (f : Nat → Int) : ∀ v ∈ aN f, bare0 v = true := arrV_bare fun _ => rfl
/-- Of the row: what its first letters gave. -/
def eP (M : Nat → Nat → Bool) (i k c : Nat) : Int := if 1 ≤ c ∧ c ≤ k ∧ M i (c - 1) = true then (lcs M i (c - 1) : Int) + 1 else 0
theorem eP_0 (M : Nat → Nat → Bool) (i c : Nat) : eP M i 0 c = 0 := by unfold eP; rw [if_neg (by omega)]
theorem eP_skip {M : Nat → Nat → Bool} {i k : Nat} (h : M i k = false) (c : Nat) : eP M i (k + 1) c = eP M i k c := by
  unfold eP
  by_cases hc : c = k + 1
  · subst hc; rw [if_neg (by rintro ⟨_, _, h3⟩; rw [Nat.add_sub_cancel, h] at h3; cases h3), if_neg (by omega)]
  · by_cases h1 : 1 ≤ c ∧ c ≤ k ∧ M i (c - 1) = true
    · rw [if_pos h1, if_pos ⟨h1.1, by omega, h1.2.2⟩]
    · rw [if_neg h1, if_neg fun h2 => h1 ⟨h2.1, by omega, h2.2.2⟩]
theorem eP_set {M : Nat → Nat → Bool} {i k : Nat} (h : M i k = true) (c : Nat) : eP M i (k + 1) c = if c = k + 1 then (lcs M i k : Int) + 1 else eP M i k c := by
  unfold eP
  by_cases hc : c = k + 1
  · subst hc; rw [if_pos rfl, if_pos ⟨by omega, by omega, by rw [Nat.add_sub_cancel]; exact h⟩, Nat.add_sub_cancel]
  · rw [if_neg hc]
    by_cases h1 : 1 ≤ c ∧ c ≤ k ∧ M i (c - 1) = true
    · rw [if_pos h1, if_pos ⟨h1.1, by omega, h1.2.2⟩]
    · rw [if_neg h1, if_neg fun h2 => h1 ⟨h2.1, by omega, h2.2.2⟩]
def m3 (x y z : Int) : Int := match ilt (match ilt x y with | true => y | false => x) z with | true => z | false => (match ilt x y with | true => y | false => x)
theorem m3_eq (x y z : Int) : m3 x y z = max (max x y) z := by
  unfold m3
  rw [ilt_eq, ilt_eq]
  by_cases h : x < y
  · rw [decide_eq_true h]
    dsimp only
    by_cases h2 : y < z
    · rw [decide_eq_true h2]; show z = _; omega
    · rw [decide_eq_false h2]; show y = _; omega
  · rw [decide_eq_false h]
    dsimp only
    by_cases h2 : x < z
    · rw [decide_eq_true h2]; show z = _; omega
    · rw [decide_eq_false h2]; show x = _; omega
theorem rz_step {M : Nat → Nat → Bool} {i n B : Nat} (hn : 1 ≤ n) (hB : M i (n - 1) = true → n - 1 < B) : m3 (lcs M (i + 1) (n - 1)) (lcs M i n) (eP M i B n) = lcs M (i + 1) n := by
  obtain ⟨m, rfl⟩ : ∃ m, n = m + 1 := ⟨n - 1, by omega⟩
  rw [m3_eq, Nat.add_sub_cancel] at *
  rw [lcs_ss]
  unfold eP
  rw [Nat.add_sub_cancel]
  by_cases h : M i m = true
  · have := hB h
    rw [if_pos ⟨by omega, by omega, h⟩, if_pos h]
    generalize lcs M (i + 1) m = x
    generalize lcs M i (m + 1) = y
    generalize lcs M i m = z
    omega
  · rw [if_neg (fun hc => h hc.2.2), if_neg h]
    generalize lcs M (i + 1) m = x
    generalize lcs M i (m + 1) = y
    omega
theorem rz_none {M : Nat → Nat → Bool} {i B : Nat} (h : ∀ c, c ≤ B → eP M i B c = 0) (hB : ∀ m, M i m = true → m < B) : ∀ c, lcs M (i + 1) c = lcs M i c
  | 0 => by rw [lcs_i0, lcs_i0]
  | c + 1 => by
    have ih := rz_none h hB c
    have h1 := lcs_up2 M i c
    rcases lcs_cases M i c with e | e | ⟨hm, e⟩
    · exact e
    · have := lcs_up1 M i (c + 1); omega
    · exfalso
      have hlt := hB c hm
      have h2 := h (c + 1) (by omega)
      unfold eP at h2
      rw [Nat.add_sub_cancel, if_pos ⟨by omega, by omega, hm⟩] at h2
      omega
theorem rz_0 (M : Nat → Nat → Bool) (i c : Nat) : (lcs M i c : Int) = if c < 1 then (lcs M (i + 1) c : Int) else lcs M i c := by
  by_cases h : c < 1
  · rw [if_pos h, show c = 0 from by omega, lcs_i0, lcs_i0]
  · rw [if_neg h]
theorem mtK_snoc {M : Nat → Nat → Bool} {i k : Nat} {acc : List Q} (h : M i k = true) : mtK M i acc (k + 1) = mtK M i acc k ++ [(((i : Int), (k : Int)), ((lcs M i k + 1 : Nat) : Int), (mtK M i acc k).length)] := by rw [mtK, if_pos h]
theorem encL_snoc (L : List Q) (q : Q) : encL (L ++ [q]) = encL L ++ [enc q] := by unfold encL; simp
theorem ltB_snoc {n : Nat} (L : List Q) (q : Q) (c : Nat) : ltB n (.map (encL L ++ [enc q]) c) := by rw [← encL_snoc]; exact ltB_encL
set_option maxHeartbeats 8000000 in
theorem labels_ok (h : H) (a b : List UInt8) (ha : a.length ≤ 12) (hb : b.length ≤ 12) (M : Nat → Nat → Bool) (hM : M = mq a b) (L : List Q) (hL : L = mtL M b.length a.length) :
    CallOk Try.prog 66 [.agg [tx a, tx b]] h (.map (h.n + 0)) (addBs h [.map (encL L) L.length]) := by
  have kD := fun h' i j hi hj => differs_ok h' a b i j hi hj
  have hMapA : ∀ (k : Nat) (f : Nat → Int), ltB k (.cells (ofL (aN f) 0) true none) := fun k f => ltB_ofLb (aN_bare f)
  refine CallOk.runN Try.func66 rfl rfl (fun n => .map (n + 0)) (fun _ => [.map (encL L) L.length]) (Nat.le_of_ble_eq_true rfl) [] (CaL.lt0 rfl) (viewM0 h) (.map (by show 0 < 1; omega) rfl rfl) rfl (fun i b hi => ?hb) (WpR.of_vc ?_)
  case hb =>
    match i, hi with
    | 0, hi =>
      cases hi
      exact ⟨_, rfl, rfl, ShB.map fun e he => by obtain ⟨q, _, rfl⟩ := List.mem_map.1 he; rfl⟩
    | i + 1, hi => simp at hi
  (conv => whnf); (repeat' (first | ((with_reducible refine ifb_mk (fun hc => ?_) (fun hc => ?_)) <;> ((try simp only [decide_eq_true_eq, decide_eq_false_iff_not, Bool.not_eq_true', Bool.not_eq_false', Int.not_lt, Int.not_le, ne_eq, Decidable.not_not, beq_iff_eq, List.cons.injEq, and_true] at hc); (first | (exfalso; omega) | exact absurd True.intro hc | conv => whnf))) | ((with_reducible refine And.intro True.intro ?_); conv => whnf) | ((with_reducible refine And.intro ?hh ?_); (case hh => exact condA); conv => whnf) | fail))
  have hgs : ∀ ρ (f : Nat → Int) l, l = rep 13 [V.int .i64 0] → (∀ k, f k = 0) → SubQ ρ (.cells (ofL (aN f) 0) true none) (.cells (ofL l 0) true none) := fun ρ f l hl hf => by
    subst hl
    exact SubQ.ofL (by rw [arrV_rep]; exact arrV_eq fun c _ => by rw [hf]) (aN_bare f) (.inr rfl)
  have g0 := fun ρ => hgs ρ (fun k => (lcs M 0 k : Int)) _ rfl (fun k => by rw [lcs_0k]; rfl)
  have g1 := fun ρ => hgs ρ (fun _ => 0) _ rfl (fun _ => rfl)
  clear hgs
  refine WpR.loopA (ι := Nat × (Nat → Int)) [] [1, 3, 4, 5, 12] [1, 2, 3] [] 4 (fun p => [(13, .int .i64 p.1)]) (fun p => [(1, .map (encL (mtL M b.length p.1)) (mtL M b.length p.1).length), (2, .cells (ofL (aN fun k => (lcs M p.1 k : Int)) 0) true none), (3, .cells (ofL (aN p.2) 0) true none)]) (fun p => a.length - p.1) (fun p => p.1 ≤ a.length) ?_ ((0, fun _ => 0)) (Nat.zero_le _) [] ⟨rfl, rfl, (by (repeat' (first | exact True.intro | rfl | exact gr_ren rfl | exact aV_ren rfl | exact aW_ren rfl rfl | refine And.intro ?_ ?_))), (by (repeat' (first | exact True.intro | rfl | exact gr_ren rfl | exact aV_ren rfl | exact aW_ren rfl rfl | refine And.intro ?_ ?_))), (by (repeat' (first | exact True.intro | rfl | exact gr_ren rfl | exact aV_ren rfl | exact aW_ren rfl rfl | refine And.intro ?_ ?_))), ⟨.inr ⟨_, rfl, SubQ.same (n := 1000) (Y := []) (fun _ _ _ => rfl) ltB_encL (avB_nil _) rfl⟩, .inr ⟨_, rfl, g0 _⟩, .inr ⟨_, rfl, g1 _⟩, trivial⟩, rfl, rfl⟩
  clear g0 g1
  rintro ⟨i, g⟩ hi
  dsimp only at hi
  refine WpR.of_vc ?_
  by_cases hlt : i < a.length
  · (conv => whnf); (repeat' (first | ((with_reducible refine ifb_mk (fun hc => ?_) (fun hc => ?_)) <;> ((try simp only [decide_eq_true_eq, decide_eq_false_iff_not, Bool.not_eq_true', Bool.not_eq_false', Int.not_lt, Int.not_le, ne_eq, Decidable.not_not, beq_iff_eq, List.cons.injEq, and_true] at hc); (first | (exfalso; omega) | exact absurd True.intro hc | conv => whnf))) | ((with_reducible refine And.intro True.intro ?_); conv => whnf) | ((with_reducible refine And.intro ?hh ?_); (case hh => exact condA); conv => whnf) | fail))
    refine WpR.loopA (ι := Nat × (Nat → Int)) [] [1, 3, 4, 5, 6, 12, 13, 19] [1, 3] [] 4 (fun p => [(20, .int .i64 p.1)]) (fun p => [(1, .map (encL (mtK M i (mtL M b.length i) p.1)) (mtK M i (mtL M b.length i) p.1).length), (3, .cells (ofL (aN p.2) 0) true none)]) (fun p => b.length - p.1) (fun p => p.1 ≤ b.length ∧ ∀ c, p.2 c = eP M i p.1 c) ?_ ((0, fun _ => 0)) (⟨Nat.zero_le _, fun c => (eP_0 M i c).symm⟩) [] Back.auto
    rintro ⟨k, e⟩ ⟨hk, he⟩
    dsimp only at hk he
    refine WpR.of_vc ?_
    by_cases hlk : k < b.length
    · by_cases hm : byteAt a i = byteAt b k
      · have kD1 := fun h' => kD h' i k hlt hlk
        rw [decide_eq_false (show ¬ byteAt a i ≠ byteAt b k from fun h => h hm)] at kD1
        have hMk : M i k = true := by rw [hM]; exact decide_eq_true ⟨hlt, hlk, hm⟩
        have hin := mtK_new (M := M) (n := b.length) (i := i) (k := k)
        have ga := aN_get (f := fun k => (lcs M i k : Int)) (o := 0 + (k : Int).toNat * 1) (w := k) (by omega) (by omega)
        have gb := aN_get (f := e) (o := 0 + ((k : Int) + 1).toNat * 1) (w := k + 1) (by omega) (by omega)
        have gc : ((ofL (aN e) 0).set (0 + ((k : Int) + 1).toNat * 1) (.int .i64 ((lcs M i k : Int) + 1))).get (0 + ((k : Int) + 1).toNat * 1) = some (.int .i64 ((lcs M i k : Int) + 1)) := by rw [Tr.get_set, if_pos rfl]
        have hle := lcs_le1 M i k
        have gp : putN [V.int .i64 ((lcs M i k : Int) + 1)] (ofL (aN e) 0) (0 + ((k : Int) + 1).toNat * 1) = some ((ofL (aN e) 0).set (0 + ((k : Int) + 1).toNat * 1) (.int .i64 ((lcs M i k : Int) + 1))) := by rw [putN_cons, gb]; rfl
        (conv => whnf); (repeat' (first | ((with_reducible refine ifb_mk (fun hc => ?_) (fun hc => ?_)) <;> ((try simp only [decide_eq_true_eq, decide_eq_false_iff_not, Bool.not_eq_true', Bool.not_eq_false', Int.not_lt, Int.not_le, ne_eq, Decidable.not_not, beq_iff_eq, List.cons.injEq, and_true] at hc); (first | (exfalso; omega) | exact absurd True.intro hc | conv => whnf))) | ((with_reducible refine And.intro True.intro ?_); conv => whnf) | ((with_reducible refine CallX.all ?_); refine CallW.of_ok (kD1 _) ?_; conv => whnf) | ((with_reducible refine WpR.draw (id := 13) mixed [0, 1, 2, 3, 4, 5, 6] [0, 0, 0, 4, 12, 28, 63] ?hh ?_); (case hh => kernel_rfl); conv => whnf) | (refine som_mk (ga) ?_; conv => whnf) | (refine som_mk (gp) ?_; conv => whnf) | (refine som_mk (gc) ?_; conv => whnf) | (refine som_mk (hin _) ?_; conv => whnf) | ((with_reducible refine And.intro ?hh ?_); (case hh => exact condA); conv => whnf) | fail))
        have hset : ∀ ρ, SubQ ρ (.cells (ofL (aN fun c => if c = k + 1 then (lcs M i k : Int) + 1 else e c) 0) true none) (.cells ((ofL (aN e) 0).set (0 + ((k : Int) + 1).toNat * 1) (.int .i64 ((lcs M i k : Int) + 1))) true none) := fun ρ =>
          arrV_set (p := k + 1) (fun _ => rfl) rfl (by omega) (fun c _ => by dsimp only; by_cases h1 : c = k + 1; (rw [if_pos h1, if_pos h1]); (rw [if_neg h1, if_neg h1]))
        have hmap : ∀ ρ, SubQ ρ (.map (encL (mtK M i (mtL M b.length i) (k + 1))) (mtK M i (mtL M b.length i) (k + 1)).length) (.map (encL (mtK M i (mtL M b.length i) k) ++ [(key2 ((i : Int), (k : Int)), .int .i64 ((lcs M i k : Int) + 1), (mtK M i (mtL M b.length i) k).length)]) ((mtK M i (mtL M b.length i) k).length + 1)) := fun ρ => by
          have e1 := mtK_snoc (acc := mtL M b.length i) hMk
          rw [e1, encL_snoc, List.length_append]
          exact SubQ.same (n := 0) (Y := []) (fun i hi _ => absurd hi (Nat.not_lt_zero _)) (ltB_snoc _ _ _) (avB_nil _) rfl
        refine ⟨(k + 1, fun c => if c = k + 1 then (lcs M i k : Int) + 1 else e c), [], by dsimp only; omega, ⟨by dsimp only; omega, fun c => ?_⟩, ⟨rfl, rfl, (by (repeat' (first | exact True.intro | rfl | exact gr_ren rfl | exact aV_ren rfl | exact aW_ren rfl rfl | refine And.intro ?_ ?_))), (by (repeat' (first | exact True.intro | rfl | exact gr_ren rfl | exact aV_ren rfl | exact aW_ren rfl rfl | refine And.intro ?_ ?_))), (by (repeat' (first | exact True.intro | rfl | exact gr_ren rfl | exact aV_ren rfl | exact aW_ren rfl rfl | refine And.intro ?_ ?_))), ⟨.inr ⟨_, rfl, hmap _⟩, .inr ⟨_, rfl, hset _⟩, trivial⟩, rfl, rfl⟩⟩
        dsimp only
        rw [eP_set hMk, he c]
      · have kD1 := fun h' => kD h' i k hlt hlk
        rw [decide_eq_true (show byteAt a i ≠ byteAt b k from hm)] at kD1
        have hMk : M i k = false := by rw [hM]; exact decide_eq_false fun h => hm h.2.2
        (conv => whnf); (repeat' (first | ((with_reducible refine ifb_mk (fun hc => ?_) (fun hc => ?_)) <;> ((try simp only [decide_eq_true_eq, decide_eq_false_iff_not, Bool.not_eq_true', Bool.not_eq_false', Int.not_lt, Int.not_le, ne_eq, Decidable.not_not, beq_iff_eq, List.cons.injEq, and_true] at hc); (first | (exfalso; omega) | exact absurd True.intro hc | conv => whnf))) | ((with_reducible refine And.intro True.intro ?_); conv => whnf) | ((with_reducible refine CallX.all ?_); refine CallW.of_ok (kD1 _) ?_; conv => whnf) | ((with_reducible refine And.intro ?hh ?_); (case hh => exact condA); conv => whnf) | fail))
        have e1 : mtK M i (mtL M b.length i) (k + 1) = mtK M i (mtL M b.length i) k := by rw [mtK, hMk]; rfl
        rw [← e1]
        refine ⟨(k + 1, e), [], by dsimp only; omega, ⟨by dsimp only; omega, fun c => (he c).trans (eP_skip hMk c).symm⟩, Back.auto⟩
    · have ek : k = b.length := by omega
      subst ek
      have hs := slow_neq (P := Try.prog) (t := 135) (k := 13) (by kernel_rfl) (x := .tmp 44) (y := .tmp 45) [e 0, e 1, e 2, e 3, e 4, e 5, e 6, e 7, e 8, e 9, e 10, e 11, e 12] [0, 0, 0, 0, 0, 0, 0, 0, 0, 0, 0, 0, 0]
      (conv => whnf); (repeat' (first | ((with_reducible refine ifb_mk (fun hc => ?_) (fun hc => ?_)) <;> ((try simp only [decide_eq_true_eq, decide_eq_false_iff_not, Bool.not_eq_true', Bool.not_eq_false', Int.not_lt, Int.not_le, ne_eq, Decidable.not_not, beq_iff_eq, List.cons.injEq, and_true] at hc); (first | (exfalso; omega) | exact absurd True.intro hc | conv => whnf))) | ((with_reducible refine And.intro True.intro ?_); conv => whnf) | (refine som_mk (hs) ?_; conv => whnf) | ((with_reducible refine CallX.all (f := 90) ?_); refine CallW.inline Try.func90 rfl rfl (Nat.le_of_ble_eq_true rfl) (WpR.of_vc ?_); conv => whnf) | ((with_reducible refine And.intro ?hh ?_); (case hh => exact condA); conv => whnf) | fail))
      · clear hs
        refine WpR.loopA (ι := Nat × (Nat → Int)) [] [0, 3] [2, 4] [] 5 (fun p => [(4, .int .i64 p.1)]) (fun p => [(2, .cells (ofL (aN p.2) 0) true none), (4, .cells (ofL (aN e) 0) true none)]) (fun p => 13 - p.1) (fun p => 1 ≤ p.1 ∧ p.1 ≤ 13 ∧ ∀ c, p.2 c = if c < p.1 then (lcs M (i + 1) c : Int) else lcs M i c) ?_ ((1, fun k => (lcs M i k : Int))) (⟨Nat.le_refl _, by dsimp only; omega, fun c => rz_0 M i c⟩) [] Back.auto
        rintro ⟨n, l⟩ ⟨hn1, hn2, hl⟩
        dsimp only at hn1 hn2 hl
        refine WpR.of_vc ?_
        by_cases hnl : n < 13
        · have ga := aN_get (f := l) (o := 0 + ((n : Int) - 1).toNat * 1) (w := n - 1) (by omega) (by omega)
          have gb := aN_get (f := l) (o := 0 + (n : Int).toNat * 1) (w := n) (by omega) (by omega)
          have gc := aN_get (f := e) (o := 0 + (n : Int).toNat * 1) (w := n) (by omega) (by omega)
          have gp : putN [V.int .i64 (m3 (l (n - 1)) (l n) (e n))] (ofL (aN l) 0) (0 + (n : Int).toNat * 1) = some ((ofL (aN l) 0).set (0 + (n : Int).toNat * 1) (.int .i64 (m3 (l (n - 1)) (l n) (e n)))) := by rw [putN_cons, gb]; rfl
          (conv => whnf); (repeat' (first | ((with_reducible refine ifb_mk (fun hc => ?_) (fun hc => ?_)) <;> ((try simp only [decide_eq_true_eq, decide_eq_false_iff_not, Bool.not_eq_true', Bool.not_eq_false', Int.not_lt, Int.not_le, ne_eq, Decidable.not_not, beq_iff_eq, List.cons.injEq, and_true] at hc); (first | (exfalso; omega) | exact absurd True.intro hc | conv => whnf))) | ((with_reducible refine And.intro True.intro ?_); conv => whnf) | ((with_reducible refine WpR.draw (id := 4) mixed [0, 1, 2, 3, 4, 5, 6, 7, 8, 9, 10, 11, 12, 13, 14, 15, 16, 17, 18, 19] [0, 0, 0, 0, 8, 4, 60, 124, 0, 0, 256, 1792, 3840, 0, 8192, 24576, 65532, 1, 262143, 524287] ?hh ?_); (case hh => kernel_rfl); conv => whnf) | (refine som_mk (ga) ?_; conv => whnf) | (refine som_mk (gb) ?_; conv => whnf) | (refine som_mk (gc) ?_; conv => whnf) | ((with_reducible refine grd_putN ?_); refine som_mk (a := ?_) ?hh ?_; (case hh => exact gp); conv => whnf) | ((with_reducible refine And.intro ?hh ?_); (case hh => exact condA); conv => whnf) | fail))
          have hset : ∀ ρ, SubQ ρ (.cells (ofL (aN fun c => if c = n then m3 (l (n - 1)) (l n) (e n) else l c) 0) true none) (.cells ((ofL (aN l) 0).set (0 + (n : Int).toNat * 1) (.int .i64 (m3 (l (n - 1)) (l n) (e n)))) true none) := fun ρ =>
            arrV_set (p := n) (fun _ => rfl) rfl (by omega) (fun c _ => by dsimp only; by_cases h1 : c = n; (rw [if_pos h1, if_pos h1]); (rw [if_neg h1, if_neg h1]))
          refine ⟨(n + 1, fun c => if c = n then m3 (l (n - 1)) (l n) (e n) else l c), [], by dsimp only; omega, ⟨by dsimp only; omega, by dsimp only; omega, fun c => ?_⟩, ⟨rfl, rfl, (by (repeat' (first | exact True.intro | rfl | exact gr_ren rfl | exact aV_ren rfl | exact aW_ren rfl rfl | refine And.intro ?_ ?_))), (by (repeat' (first | exact True.intro | rfl | exact gr_ren rfl | exact aV_ren rfl | exact aW_ren rfl rfl | refine And.intro ?_ ?_))), (by (repeat' (first | exact True.intro | rfl | exact gr_ren rfl | exact aV_ren rfl | exact aW_ren rfl rfl | refine And.intro ?_ ?_))), ⟨.inr ⟨_, rfl, hset _⟩, .inr ⟨_, rfl, SubQ.same (n := 1000) (Y := []) (fun _ _ _ => rfl) (hMapA _ _) (avB_nil _) rfl⟩, trivial⟩, rfl, rfl⟩⟩
          dsimp only
          by_cases h1 : c = n
          · rw [if_pos h1, if_pos (show c < n + 1 by omega), hl (n - 1), if_pos (show n - 1 < n by omega), hl n, if_neg (show ¬ n < n by omega), he n, h1]
            exact rz_step hn1 (fun h => by rw [hM] at h; exact (of_decide_eq_true h).2.1)
          · rw [if_neg h1, hl c]
            by_cases h2 : c < n
            · rw [if_pos h2, if_pos (show c < n + 1 by omega)]
            · rw [if_neg h2, if_neg (show ¬ c < n + 1 by omega)]
        · (conv => whnf); (repeat' (first | ((with_reducible refine ifb_mk (fun hc => ?_) (fun hc => ?_)) <;> ((try simp only [decide_eq_true_eq, decide_eq_false_iff_not, Bool.not_eq_true', Bool.not_eq_false', Int.not_lt, Int.not_le, ne_eq, Decidable.not_not, beq_iff_eq, List.cons.injEq, and_true] at hc); (first | (exfalso; omega) | exact absurd True.intro hc | conv => whnf))) | ((with_reducible refine And.intro True.intro ?_); conv => whnf) | ((with_reducible refine And.intro ?hh ?_); (case hh => exact condA); conv => whnf) | fail))
          have hg2 : ∀ ρ, SubQ ρ (.cells (ofL (aN fun k => (lcs M (i + 1) k : Int)) 0) true none) (.cells (ofL (aN l) 0) true none) := fun ρ => arrV_sub (fun _ => rfl) (.inr rfl) (fun c hc => by dsimp only; rw [hl c, if_pos (show c < n by omega)])
          refine ⟨(i + 1, e), [], by dsimp only; omega, by dsimp only; omega, ⟨rfl, rfl, (by (repeat' (first | exact True.intro | rfl | exact gr_ren rfl | exact aV_ren rfl | exact aW_ren rfl rfl | refine And.intro ?_ ?_))), (by (repeat' (first | exact True.intro | rfl | exact gr_ren rfl | exact aV_ren rfl | exact aW_ren rfl rfl | refine And.intro ?_ ?_))), (by (repeat' (first | exact True.intro | rfl | exact gr_ren rfl | exact aV_ren rfl | exact aW_ren rfl rfl | refine And.intro ?_ ?_))), ⟨.inr ⟨_, rfl, SubQ.same (n := 1000) (Y := []) (fun _ _ _ => rfl) ltB_encL (avB_nil _) rfl⟩, .inr ⟨_, rfl, hg2 _⟩, .inr ⟨_, rfl, SubQ.same (n := 1000) (Y := []) (fun _ _ _ => rfl) (hMapA _ _) (avB_nil _) rfl⟩, trivial⟩, rfl, rfl⟩⟩
      · clear hs
        have hz : ∀ c, lcs M (i + 1) c = lcs M i c := rz_none (B := b.length) (fun c hc' => by
          rw [← he c]
          have h13 : ∀ c, c < 13 → e c = 0 := by
            obtain ⟨h0, h1, h2, h3, h4, h5, h6, h7, h8, h9, h10, h11, h12⟩ := hc
            intro c hc
            match c, hc with
            | 0, _ => exact h0
            | 1, _ => exact h1
            | 2, _ => exact h2
            | 3, _ => exact h3
            | 4, _ => exact h4
            | 5, _ => exact h5
            | 6, _ => exact h6
            | 7, _ => exact h7
            | 8, _ => exact h8
            | 9, _ => exact h9
            | 10, _ => exact h10
            | 11, _ => exact h11
            | 12, _ => exact h12
          exact h13 c (by omega)) (fun m h => by rw [hM] at h; exact (of_decide_eq_true h).2.1)
        have hg2 : ∀ ρ, SubQ ρ (.cells (ofL (aN fun k => (lcs M (i + 1) k : Int)) 0) true none) (.cells (ofL (aN fun k => (lcs M i k : Int)) 0) true none) := fun ρ => arrV_sub (fun _ => rfl) (.inr rfl) (fun c _ => by dsimp only; rw [hz])
        refine ⟨(i + 1, e), [], by dsimp only; omega, by dsimp only; omega, ⟨rfl, rfl, (by (repeat' (first | exact True.intro | rfl | exact gr_ren rfl | exact aV_ren rfl | exact aW_ren rfl rfl | refine And.intro ?_ ?_))), (by (repeat' (first | exact True.intro | rfl | exact gr_ren rfl | exact aV_ren rfl | exact aW_ren rfl rfl | refine And.intro ?_ ?_))), (by (repeat' (first | exact True.intro | rfl | exact gr_ren rfl | exact aV_ren rfl | exact aW_ren rfl rfl | refine And.intro ?_ ?_))), ⟨.inr ⟨_, rfl, SubQ.same (n := 1000) (Y := []) (fun _ _ _ => rfl) ltB_encL (avB_nil _) rfl⟩, .inr ⟨_, rfl, hg2 _⟩, .inr ⟨_, rfl, SubQ.same (n := 1000) (Y := []) (fun _ _ _ => rfl) (hMapA _ _) (avB_nil _) rfl⟩, trivial⟩, rfl, rfl⟩⟩
  · (conv => whnf); (repeat' (first | ((with_reducible refine ifb_mk (fun hc => ?_) (fun hc => ?_)) <;> ((try simp only [decide_eq_true_eq, decide_eq_false_iff_not, Bool.not_eq_true', Bool.not_eq_false', Int.not_lt, Int.not_le, ne_eq, Decidable.not_not, beq_iff_eq, List.cons.injEq, and_true] at hc); (first | (exfalso; omega) | exact absurd True.intro hc | conv => whnf))) | ((with_reducible refine And.intro True.intro ?_); conv => whnf) | ((with_reducible refine And.intro ?hh ?_); (case hh => exact condA); conv => whnf) | fail))
    have ei : i = a.length := by omega
    subst ei
    refine ⟨[1], rfl, rfl, rfl, ⟨⟨_, rfl, rfl, ?_⟩, ltB_encL, rfl, trivial⟩, trivs⟩
    rw [← hL]
    exact SubQ.same (n := 0) (Y := []) (fun i hi _ => absurd hi (Nat.not_lt_zero _)) ltB_encL (avB_nil _) rfl
end Go.Proofs.Q

namespace Go.Proofs.Q
open Go.As
set_option maxRecDepth 20000
set_option linter.unusedVariables false
set_option linter.unusedSimpArgs false

/-! ### The fewest marks -/

theorem mtK_sub {M : Nat → Nat → Bool} {i : Nat} {acc : List Q} : ∀ (k : Nat) {q : Q}, q ∈ acc → q ∈ mtK M i acc k
  | 0, q, h => h
  | k + 1, q, h => by
    unfold mtK
    split
    · exact List.mem_append_left _ (mtK_sub k h)
    · exact mtK_sub k h
theorem mtK_val {M : Nat → Nat → Bool} {i : Nat} {acc : List Q} : ∀ (k : Nat) {q : Q}, q ∈ mtK M i acc k → q ∈ acc ∨ ∃ c, c < k ∧ M i c = true ∧ q.2.1 = ((lcs M i c + 1 : Nat) : Int)
  | 0, q, h => .inl h
  | k + 1, q, h => by
    unfold mtK at h
    split at h
    · rename_i hm
      rcases List.mem_append.1 h with h | h
      · rcases mtK_val k h with h1 | ⟨c, h1, h2, h3⟩
        · exact .inl h1
        · exact .inr ⟨c, by omega, h2, h3⟩
      · rw [List.mem_singleton.1 h]
        exact .inr ⟨k, by omega, hm, rfl⟩
    · rcases mtK_val k h with h1 | ⟨c, h1, h2, h3⟩
      · exact .inl h1
      · exact .inr ⟨c, by omega, h2, h3⟩
theorem mtK_at {M : Nat → Nat → Bool} {i : Nat} {acc : List Q} : ∀ {k c : Nat}, c < k → M i c = true → ∃ q ∈ mtK M i acc k, q.2.1 = ((lcs M i c + 1 : Nat) : Int)
  | k + 1, c, hc, hm => by
    by_cases he : c = k
    · subst he
      exact ⟨_, by rw [mtK_snoc hm]; exact List.mem_append_right _ (List.mem_singleton_self _), rfl⟩
    · obtain ⟨q, h1, h2⟩ := mtK_at (k := k) (acc := acc) (show c < k by omega) hm
      refine ⟨q, ?_, h2⟩
      unfold mtK
      split
      · exact List.mem_append_left _ h1
      · exact h1
theorem lcs_mono2 (M : Nat → Nat → Bool) (i : Nat) : ∀ {k n : Nat}, k ≤ n → lcs M i k ≤ lcs M i n
  | k, 0, h => by rw [show k = 0 from by omega]; exact Nat.le_refl _
  | k, n + 1, h => by
    by_cases he : k = n + 1
    · rw [he]; exact Nat.le_refl _
    · exact Nat.le_trans (lcs_mono2 M i (show k ≤ n by omega)) (lcs_up2 M i n)
theorem mtL_le (M : Nat → Nat → Bool) (n : Nat) : ∀ (i : Nat), ∀ q ∈ mtL M n i, q.2.1 ≤ (lcs M i n : Int)
  | 0, q, h => by cases h
  | i + 1, q, h => by
    have hu := lcs_up1 M i n
    rcases mtK_val n h with h | ⟨c, h1, h2, h3⟩
    · have := mtL_le M n i q h; omega
    · have h4 := lcs_pair h2
      have h5 := lcs_mono2 M (i + 1) (show c + 1 ≤ n by omega)
      omega
theorem mtL_at (M : Nat → Nat → Bool) (n : Nat) : ∀ (i k : Nat), k ≤ n → lcs M i k = 0 ∨ ∃ q ∈ mtL M n i, q.2.1 = (lcs M i k : Int)
  | 0, k, _ => .inl (lcs_0k M k)
  | i + 1, 0, _ => .inl (lcs_i0 M _)
  | i + 1, k + 1, h => by
    rcases lcs_cases M i k with e | e | ⟨hm, e⟩
    · rcases mtL_at M n i (k + 1) h with h1 | ⟨q, h1, h2⟩
      · exact .inl (by omega)
      · exact .inr ⟨q, mtK_sub n h1, by rw [e]; exact h2⟩
    · rcases mtL_at M n (i + 1) k (by omega) with h1 | ⟨q, h1, h2⟩
      · exact .inl (by omega)
      · exact .inr ⟨q, h1, by rw [e]; exact h2⟩
    · obtain ⟨q, h1, h2⟩ := mtK_at (acc := mtL M n i) (show k < n by omega) hm
      exact .inr ⟨q, h1, by rw [e]; exact h2⟩
theorem mtL_mx (M : Nat → Nat → Bool) (n i : Nat) : mxL (mtL M n i) = (lcs M i n : Int) := by
  refine (mxL_eq (by omega) (mtL_le M n i) ?_).symm
  rcases mtL_at M n i n (Nat.le_refl _) with h | ⟨q, h1, h2⟩
  · exact .inl (by omega)
  · exact .inr ⟨q, h1, h2.symm⟩
/-- Each came after those before it. -/
def Stm (L : List Q) : Prop := ∀ (j : Nat) (q : Q), L[j]? = some q → q.2.2 = j
theorem stm_snoc {L : List Q} (h : Stm L) (p : P2) (v : Int) : Stm (L ++ [(p, v, L.length)]) := by
  intro j q hj
  by_cases hl : j < L.length
  · rw [List.getElem?_append_left hl] at hj; exact h j q hj
  · have hlt := (List.getElem?_eq_some_iff.1 hj).1
    rw [List.length_append, List.length_singleton] at hlt
    have ej : j = L.length := by omega
    subst ej
    rw [List.getElem?_append_right (Nat.le_refl _), Nat.sub_self] at hj
    cases hj; rfl
theorem stm_K {M : Nat → Nat → Bool} {i : Nat} {acc : List Q} (h : Stm acc) : ∀ k, Stm (mtK M i acc k)
  | 0 => h
  | k + 1 => by
    unfold mtK
    split
    · exact stm_snoc (stm_K h k) _ _
    · exact stm_K h k
theorem stm_L (M : Nat → Nat → Bool) (n : Nat) : ∀ i, Stm (mtL M n i)
  | 0 => fun j q h => by simp [mtL] at h
  | i + 1 => stm_K (stm_L M n i) n
theorem stm_lt {L : List Q} (h : Stm L) : ∀ q ∈ L, q.2.2 < L.length := fun q hq => by
  obtain ⟨j, hj⟩ := List.mem_iff_getElem?.1 hq
  rw [h j q hj]
  exact (List.getElem?_eq_some_iff.1 hj).1
theorem stm_one {L : List Q} (h : Stm L) : ∀ q ∈ L, ∀ a ∈ L, a.2.2 = q.2.2 → a = q := fun q hq a ha e => by
  obtain ⟨j, hj⟩ := List.mem_iff_getElem?.1 hq
  obtain ⟨j', hj'⟩ := List.mem_iff_getElem?.1 ha
  rw [h j q hj, h j' a hj'] at e
  subst e
  rw [hj] at hj'
  cases hj'; rfl
theorem textsFor_ok (h : H) (a b : List UInt8) : CallOk Try.prog 64 [tx a, tx b] h (.tup [if a.length ≤ 12 ∧ b.length ≤ 12 then .agg [tx a, tx b] else .agg [tx [], tx []], .int .i64 (if a.length ≤ 12 ∧ b.length ≤ 12 then 0 else 7)]) h := by
  have kA := fun h' sv hs => areTexts2_ok h' a b sv hs
  by_cases hab : a.length ≤ 12 ∧ b.length ≤ 12
  · rw [if_pos hab, if_pos hab]
    rw [decide_eq_true hab] at kA
    refine CallOk.run0 Try.func64 rfl rfl rfl rfl rfl (WpR.of_vc ?_)
    (conv => whnf); (repeat' (first | ((with_reducible refine ifb_mk (fun hc => ?_) (fun hc => ?_)) <;> ((try simp only [decide_eq_true_eq, decide_eq_false_iff_not, Bool.not_eq_true', Bool.not_eq_false', Int.not_lt, Int.not_le, ne_eq, Decidable.not_not, beq_iff_eq, List.cons.injEq, and_true] at hc); (first | (exfalso; omega) | exact absurd True.intro hc | conv => whnf))) | ((with_reducible refine And.intro True.intro ?_); conv => whnf) | ((with_reducible refine CallX.all ?_); refine CallW.of_ok (kA _ _ (SlC.own rfl)) ?_; conv => whnf) | ((with_reducible refine And.intro ?hh ?_); (case hh => exact condA); conv => whnf) | fail))
    (refine ⟨[], ?_, rfl, rfl, trivial, trivs⟩; simp only [renV, renL]; (first | done | rfl | (simp; done) | (simp; omega) | grind))
  · rw [if_neg hab, if_neg hab]
    rw [decide_eq_false hab] at kA
    refine CallOk.run0 Try.func64 rfl rfl rfl rfl rfl (WpR.of_vc ?_)
    (conv => whnf); (repeat' (first | ((with_reducible refine ifb_mk (fun hc => ?_) (fun hc => ?_)) <;> ((try simp only [decide_eq_true_eq, decide_eq_false_iff_not, Bool.not_eq_true', Bool.not_eq_false', Int.not_lt, Int.not_le, ne_eq, Decidable.not_not, beq_iff_eq, List.cons.injEq, and_true] at hc); (first | (exfalso; omega) | exact absurd True.intro hc | conv => whnf))) | ((with_reducible refine And.intro True.intro ?_); conv => whnf) | ((with_reducible refine CallX.all ?_); refine CallW.of_ok (kA _ _ (SlC.own rfl)) ?_; conv => whnf) | ((with_reducible refine And.intro ?hh ?_); (case hh => exact condA); conv => whnf) | fail))
    (refine ⟨[], ?_, rfl, rfl, trivial, trivs⟩; simp only [renV, renL]; (first | done | rfl | (simp; done) | (simp; omega) | grind))
/-- The fewest marks. -/
def fewI (a b : List UInt8) : Int := (a.length : Int) + b.length - 2 * (lcs (mq a b) a.length b.length : Int)
set_option maxHeartbeats 4000000 in
theorem fewest_ok (h : H) (a b : List UInt8) (ha : a.length ≤ 12) (hb : b.length ≤ 12) : CallOk Try.prog 31 [tx a, tx b] h (.tup [.int .i64 (fewI a b), .int .i64 0]) h := by
  have kT := fun h' => textsFor_ok h' a b
  rw [if_pos ⟨ha, hb⟩, if_pos ⟨ha, hb⟩] at kT
  obtain ⟨L, hL⟩ : ∃ L, L = mtL (mq a b) b.length a.length := ⟨_, rfl⟩
  have kL := fun h' => labels_ok h' a b ha hb (mq a b) rfl L hL
  have kG := fun h' mb hm => greatestLabel_ok h' mb L L.length hm (by rw [hL]; exact stm_lt (stm_L _ _ _)) (by rw [hL]; exact stm_one (stm_L _ _ _))
  rw [hL, mtL_mx, ← hL] at kG
  have hle := lcs_le1 (mq a b) a.length b.length
  unfold fewI
  refine CallOk.run0 Try.func31 rfl rfl rfl rfl rfl (WpR.of_vc ?_)
  (conv => whnf); (repeat' (first | ((with_reducible refine ifb_mk (fun hc => ?_) (fun hc => ?_)) <;> ((try simp only [decide_eq_true_eq, decide_eq_false_iff_not, Bool.not_eq_true', Bool.not_eq_false', Int.not_lt, Int.not_le, ne_eq, Decidable.not_not, beq_iff_eq, List.cons.injEq, and_true] at hc); (first | (exfalso; omega) | exact absurd True.intro hc | conv => whnf))) | ((with_reducible refine And.intro True.intro ?_); conv => whnf) | ((with_reducible refine CallX.all ?_); refine CallW.of_ok (kT _) ?_; conv => whnf) | ((with_reducible refine CallX.all ?_); refine CallW.of_ok (kL _) ?_; conv => whnf) | ((with_reducible refine CallX.all ?_); refine CallW.of_ok (kG _ _ (by show (addBs _ _).get 1 = _; conv => lhs; whnf)) ?_; conv => whnf) | ((with_reducible refine And.intro ?hh ?_); (case hh => exact condA); conv => whnf) | fail))
  (refine ⟨[], ?_, rfl, rfl, trivial, trivs⟩; simp only [renV, renL]; (first | done | rfl | (simp; done) | (simp; omega) | grind))
end Go.Proofs.Q

namespace Go.Proofs.Q
open Go.As
set_option maxRecDepth 20000
set_option linter.unusedVariables false
set_option linter.unusedSimpArgs false
theorem mq_sym (a b : List UInt8) (i k : Nat) : mq a b i k = mq b a k i := by
  unfold mq
  exact decide_eq_decide.2 ⟨fun h => ⟨h.2.1, h.1, h.2.2.symm⟩, fun h => ⟨h.2.1, h.1, h.2.2.symm⟩⟩
theorem few_sym (a b : List UInt8) : fewI a b = fewI b a := by
  unfold fewI
  rw [lcs_sym (N := mq b a) (mq_sym a b)]; omega
theorem few_bd (a b : List UInt8) : 0 ≤ fewI a b ∧ fewI a b ≤ (a.length : Int) + b.length ∧ (a.length : Int) - b.length ≤ fewI a b ∧ (b.length : Int) - a.length ≤ fewI a b := by
  unfold fewI
  have h1 := lcs_le1 (mq a b) a.length b.length
  have h2 := lcs_le2 (mq a b) a.length b.length
  omega
theorem few_par (a b : List UInt8) : (fewI a b + a.length + b.length).tmod 2 = 0 := by
  have h := few_bd a b
  rw [Int.tmod_eq_emod_of_nonneg (by omega)]
  unfold fewI
  omega
theorem few_tri (a b c : List UInt8) : fewI a c ≤ fewI a b + fewI b c := by
  unfold fewI
  have h := lcs_tri (M := mq a b) (N := mq b c) (K := mq a c) (fun i j k h1 h2 => by
    have h1 := of_decide_eq_true h1
    have h2 := of_decide_eq_true h2
    exact decide_eq_true ⟨h1.1, h2.2.1, h1.2.2.trans h2.2.2⟩) a.length b.length c.length
  omega
theorem few_eq (a b : List UInt8) : fewI a b = 0 ↔ a = b := by
  constructor
  · intro h
    have h1 := lcs_le1 (mq a b) a.length b.length
    have h2 := lcs_le2 (mq a b) a.length b.length
    unfold fewI at h
    have e : a.length = b.length := by omega
    rw [e] at h h1
    have hd := lcs_diag' (M := mq a b) (n := b.length) (by omega)
    apply List.ext_getElem e
    intro i hi hi'
    have := (of_decide_eq_true (hd i hi')).2.2
    unfold byteAt at this
    rw [List.getD_eq_getElem?_getD, List.getD_eq_getElem?_getD, List.getElem?_eq_getElem hi, List.getElem?_eq_getElem hi'] at this
    exact UInt8.toNat_inj.1 (Int.ofNat.inj this)
  · rintro rfl
    unfold fewI
    rw [lcs_diag (M := mq a a) fun i hi => decide_eq_true ⟨hi, hi, rfl⟩]
    omega
def ok2 (a b : List UInt8) : Prop := a.length ≤ 12 ∧ b.length ≤ 12
instance (a b : List UInt8) : Decidable (ok2 a b) := by unfold ok2; infer_instance
theorem textsL_ok (h : H) (a b : List UInt8) : CallOk Try.prog 45 [tx a, tx b] h (.bool (decide (ok2 a b))) h := by
  have k1 := fun h' => checkTextR_ok h' a
  have k2 := fun h' => checkTextR_ok h' b
  unfold ok2
  by_cases h1 : a.length ≤ 12
  · rw [if_pos h1] at k1
    by_cases h2 : b.length ≤ 12
    · rw [if_pos h2] at k2
      rw [decide_eq_true (show a.length ≤ 12 ∧ b.length ≤ 12 from ⟨h1, h2⟩)]
      refine CallOk.run0 Try.func45 rfl rfl rfl rfl rfl (WpR.of_vc ?_)
      (conv => whnf); (repeat' (first | ((with_reducible refine ifb_mk (fun hc => ?_) (fun hc => ?_)) <;> ((try simp only [decide_eq_true_eq, decide_eq_false_iff_not, Bool.not_eq_true', Bool.not_eq_false', Int.not_lt, Int.not_le, ne_eq, Decidable.not_not, beq_iff_eq, List.cons.injEq, and_true] at hc); (first | (exfalso; omega) | exact absurd True.intro hc | conv => whnf))) | ((with_reducible refine And.intro True.intro ?_); conv => whnf) | ((with_reducible refine CallX.all (f := 67) ?_); refine CallW.inline Try.func67 rfl rfl (Nat.le_of_ble_eq_true rfl) (WpR.of_vc ?_); conv => whnf) | ((with_reducible refine CallX.all ?_); refine CallW.of_ok (k1 _) ?_; conv => whnf) | ((with_reducible refine CallX.all ?_); refine CallW.of_ok (k2 _) ?_; conv => whnf) | ((with_reducible refine And.intro ?hh ?_); (case hh => exact condA); conv => whnf) | fail))
      (refine ⟨[], ?_, rfl, rfl, trivial, trivs⟩; simp only [renV, renL]; (first | done | rfl | (simp; done) | (simp; omega) | grind))
    · rw [if_neg h2] at k2
      rw [decide_eq_false (show ¬ (a.length ≤ 12 ∧ b.length ≤ 12) from fun h => h2 h.2)]
      refine CallOk.run0 Try.func45 rfl rfl rfl rfl rfl (WpR.of_vc ?_)
      (conv => whnf); (repeat' (first | ((with_reducible refine ifb_mk (fun hc => ?_) (fun hc => ?_)) <;> ((try simp only [decide_eq_true_eq, decide_eq_false_iff_not, Bool.not_eq_true', Bool.not_eq_false', Int.not_lt, Int.not_le, ne_eq, Decidable.not_not, beq_iff_eq, List.cons.injEq, and_true] at hc); (first | (exfalso; omega) | exact absurd True.intro hc | conv => whnf))) | ((with_reducible refine And.intro True.intro ?_); conv => whnf) | ((with_reducible refine CallX.all (f := 67) ?_); refine CallW.inline Try.func67 rfl rfl (Nat.le_of_ble_eq_true rfl) (WpR.of_vc ?_); conv => whnf) | ((with_reducible refine CallX.all ?_); refine CallW.of_ok (k1 _) ?_; conv => whnf) | ((with_reducible refine CallX.all ?_); refine CallW.of_ok (k2 _) ?_; conv => whnf) | ((with_reducible refine And.intro ?hh ?_); (case hh => exact condA); conv => whnf) | fail))
      (refine ⟨[], ?_, rfl, rfl, trivial, trivs⟩; simp only [renV, renL]; (first | done | rfl | (simp; done) | (simp; omega) | grind))
  · rw [if_neg h1] at k1
    rw [decide_eq_false (show ¬ (a.length ≤ 12 ∧ b.length ≤ 12) from fun h => h1 h.1)]
    refine CallOk.run0 Try.func45 rfl rfl rfl rfl rfl (WpR.of_vc ?_)
    (conv => whnf); (repeat' (first | ((with_reducible refine ifb_mk (fun hc => ?_) (fun hc => ?_)) <;> ((try simp only [decide_eq_true_eq, decide_eq_false_iff_not, Bool.not_eq_true', Bool.not_eq_false', Int.not_lt, Int.not_le, ne_eq, Decidable.not_not, beq_iff_eq, List.cons.injEq, and_true] at hc); (first | (exfalso; omega) | exact absurd True.intro hc | conv => whnf))) | ((with_reducible refine And.intro True.intro ?_); conv => whnf) | ((with_reducible refine CallX.all (f := 67) ?_); refine CallW.inline Try.func67 rfl rfl (Nat.le_of_ble_eq_true rfl) (WpR.of_vc ?_); conv => whnf) | ((with_reducible refine CallX.all ?_); refine CallW.of_ok (k1 _) ?_; conv => whnf) | ((with_reducible refine CallX.all ?_); refine CallW.of_ok (k2 _) ?_; conv => whnf) | ((with_reducible refine And.intro ?hh ?_); (case hh => exact condA); conv => whnf) | fail))
    (refine ⟨[], ?_, rfl, rfl, trivial, trivs⟩; simp only [renV, renL]; (first | done | rfl | (simp; done) | (simp; omega) | grind))
set_option maxHeartbeats 4000000 in
theorem proofNear_ok (hW : ∀ h, CallOk Try.prog 19 [] h (.bool true) h) (h : H) (a b c : List UInt8) (hA : a.length ≤ 9223372036854775807) (hB : b.length ≤ 9223372036854775807) (hC : c.length ≤ 9223372036854775807) : CallOk Try.prog 9 [tx a, tx b, tx c] h (.bool true) h := by
  have k1 := fun h' => textsL_ok h' a b
  have k2 := fun h' => textsL_ok h' b c
  by_cases h1 : ok2 a b
  · rw [decide_eq_true h1] at k1
    by_cases h2 : ok2 b c
    · rw [decide_eq_true h2] at k2
      have f1 := fun h' => fewest_ok h' a b h1.1 h1.2
      have f2 := fun h' => fewest_ok h' b a h1.2 h1.1
      have f3 := fun h' => fewest_ok h' b c h2.1 h2.2
      have f4 := fun h' => fewest_ok h' a c h1.1 h2.2
      have g1 := few_bd a b
      have g2 := few_sym a b
      have g3 := few_bd b c
      have g4 := few_tri a b c
      have g5 := few_par a b
      have g6 := few_eq a b
      have g7 := few_bd a c
      obtain ⟨z1, z2⟩ := h1
      obtain ⟨z3, z4⟩ := h2
      generalize fewI a b = x at *
      generalize fewI b a = x' at *
      generalize fewI b c = y at *
      generalize fewI a c = z at *
      have g8 : (decide (x = 0) == decide (a = b)) = true := by rw [decide_eq_decide.2 g6]; exact beq_self_eq_true _
      refine CallOk.run0 Try.func9 rfl rfl rfl rfl rfl (WpR.of_vc ?_)
      (conv => whnf); (repeat' (first | ((with_reducible refine ifb_mk (fun hc => ?_) (fun hc => ?_)) <;> ((try simp only [decide_eq_true_eq, decide_eq_false_iff_not, Bool.not_eq_true', Bool.not_eq_false', Int.not_lt, Int.not_le, ne_eq, Decidable.not_not, beq_iff_eq, List.cons.injEq, and_true] at hc); (first | (exfalso; omega) | exact absurd True.intro hc | conv => whnf))) | ((with_reducible refine And.intro True.intro ?_); conv => whnf) | ((with_reducible refine CallX.all ?_); refine CallW.of_ok (k1 _) ?_; conv => whnf) | ((with_reducible refine CallX.all ?_); refine CallW.of_ok (k2 _) ?_; conv => whnf) | ((with_reducible refine CallX.all ?_); refine CallW.of_ok (f1 _) ?_; conv => whnf) | ((with_reducible refine CallX.all ?_); refine CallW.of_ok (f2 _) ?_; conv => whnf) | ((with_reducible refine CallX.all ?_); refine CallW.of_ok (f3 _) ?_; conv => whnf) | ((with_reducible refine CallX.all ?_); refine CallW.of_ok (f4 _) ?_; conv => whnf) | ((with_reducible refine CallX.all ?_); refine CallW.of_ok (hW _) ?_; conv => whnf) | ((with_reducible refine And.intro ?hh ?_); (case hh => exact condA); conv => whnf) | fail))
      · (refine ⟨[], ?_, rfl, rfl, trivial, trivs⟩; simp only [renV, renL]; (first | done | rfl | (simp; done) | (simp; omega) | grind))
      · rw [g8] at hc
        cases hc
    · rw [decide_eq_false h2] at k2
      refine CallOk.run0 Try.func9 rfl rfl rfl rfl rfl (WpR.of_vc ?_)
      (conv => whnf); (repeat' (first | ((with_reducible refine ifb_mk (fun hc => ?_) (fun hc => ?_)) <;> ((try simp only [decide_eq_true_eq, decide_eq_false_iff_not, Bool.not_eq_true', Bool.not_eq_false', Int.not_lt, Int.not_le, ne_eq, Decidable.not_not, beq_iff_eq, List.cons.injEq, and_true] at hc); (first | (exfalso; omega) | exact absurd True.intro hc | conv => whnf))) | ((with_reducible refine And.intro True.intro ?_); conv => whnf) | ((with_reducible refine CallX.all ?_); refine CallW.of_ok (k1 _) ?_; conv => whnf) | ((with_reducible refine CallX.all ?_); refine CallW.of_ok (k2 _) ?_; conv => whnf) | ((with_reducible refine CallX.all ?_); refine CallW.of_ok (hW _) ?_; conv => whnf) | ((with_reducible refine And.intro ?hh ?_); (case hh => exact condA); conv => whnf) | fail))
      (refine ⟨[], ?_, rfl, rfl, trivial, trivs⟩; simp only [renV, renL]; (first | done | rfl | (simp; done) | (simp; omega) | grind))
  · rw [decide_eq_false h1] at k1
    refine CallOk.run0 Try.func9 rfl rfl rfl rfl rfl (WpR.of_vc ?_)
    (conv => whnf); (repeat' (first | ((with_reducible refine ifb_mk (fun hc => ?_) (fun hc => ?_)) <;> ((try simp only [decide_eq_true_eq, decide_eq_false_iff_not, Bool.not_eq_true', Bool.not_eq_false', Int.not_lt, Int.not_le, ne_eq, Decidable.not_not, beq_iff_eq, List.cons.injEq, and_true] at hc); (first | (exfalso; omega) | exact absurd True.intro hc | conv => whnf))) | ((with_reducible refine And.intro True.intro ?_); conv => whnf) | ((with_reducible refine CallX.all ?_); refine CallW.of_ok (k1 _) ?_; conv => whnf) | ((with_reducible refine CallX.all ?_); refine CallW.of_ok (k2 _) ?_; conv => whnf) | ((with_reducible refine CallX.all ?_); refine CallW.of_ok (hW _) ?_; conv => whnf) | ((with_reducible refine And.intro ?hh ?_); (case hh => exact condA); conv => whnf) | fail))
    (refine ⟨[], ?_, rfl, rfl, trivial, trivs⟩; simp only [renV, renL]; (first | done | rfl | (simp; done) | (simp; omega) | grind))
end Go.Proofs.Q
