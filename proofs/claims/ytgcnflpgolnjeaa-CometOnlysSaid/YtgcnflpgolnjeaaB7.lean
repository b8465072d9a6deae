/- What the functions answer that the laws call, one after another (B7). -/
import Derived.Test.YtgcnflpgolnjeaaAs6
import Derived.Test.YtgcnflpgolnjeaaB0
set_option linter.unusedVariables false
set_option linter.unusedSimpArgs false
namespace Go.Proofs.K
open Go.As
set_option maxRecDepth 20000
def rwP (g : Nat → Nat → Int) (a : Nat) : Nat → Int
  | 0 => 1
  | m + 1 => rwP g a m * g a m
def trP (g : Nat → Nat → Int) : Nat → Int
  | 0 => 1
  | n + 1 => trP g n * rwP g n n
def rwN (c : Nat → Nat → Nat) (a : Nat) : Nat → Nat
  | 0 => 1
  | m + 1 => rwN c a m * c a m
def trN (c : Nat → Nat → Nat) : Nat → Nat
  | 0 => 1
  | n + 1 => trN c n * rwN c n n
theorem rwP_congr {g g' : Nat → Nat → Int} {a : Nat} : ∀ m, (∀ b, b < m → g a b = g' a b) → rwP g a m = rwP g' a m
  | 0, _ => rfl
  | m + 1, h => by unfold rwP; rw [rwP_congr m (fun b hb => h b (by omega)), h m (by omega)]
theorem trP_congr {g g' : Nat → Nat → Int} : ∀ n, (∀ a b, a < n → b < a → g a b = g' a b) → trP g n = trP g' n
  | 0, _ => rfl
  | n + 1, h => by unfold trP; rw [trP_congr n (fun a b ha hb => h a b (by omega) hb), rwP_congr n (fun b hb => h n b (by omega) hb)]
theorem trP_one {g g' : Nat → Nat → Int} {A B : Nat} {w : Int} (hB : B < A) (hw : g A B = g' A B * w) (ho : ∀ a b, b < a → (a ≠ A ∨ b ≠ B) → g a b = g' a b) : ∀ n, A < n → trP g n = trP g' n * w
  | 0, h => absurd h (Nat.not_lt_zero _)
  | n + 1, h => by
    unfold trP
    by_cases e : A = n
    · subst e
      have h1 : trP g A = trP g' A := trP_congr A fun a b ha hb => ho a b hb (.inl (by omega))
      have h2 : rwP g A A = rwP g' A A * w := by
        have hc : ∀ m, m ≤ A → B < m → rwP g A m = rwP g' A m * w := fun m => by
          induction m with
          | zero => intro _ h; omega
          | succ m ih =>
            intro hm hb
            unfold rwP
            by_cases e : B = m
            · subst e
              rw [hw, rwP_congr (g := g) (g' := g') B fun b hb => ho A b (by omega) (.inr (by omega)), Int.mul_assoc]
            · rw [ih (by omega) (by omega), ho A m (by omega) (.inr (by omega))]
              grind
        exact hc A (Nat.le_refl _) hB
      rw [h1, h2, Int.mul_assoc]
    · rw [trP_one hB hw ho n (by omega), rwP_congr (g := g) (g' := g') n fun b hb => ho n b hb (.inl (by omega))]
      grind
theorem rwP_bd {g : Nat → Nat → Int} {c : Nat → Nat → Nat} {a : Nat} : ∀ m, (∀ b, b < m → (g a b).natAbs ≤ c a b) → (rwP g a m).natAbs ≤ rwN c a m
  | 0, _ => Nat.le_refl _
  | m + 1, h => by unfold rwP rwN; rw [Int.natAbs_mul]; exact Nat.mul_le_mul (rwP_bd m fun b hb => h b (by omega)) (h m (by omega))
theorem trP_bd {g : Nat → Nat → Int} {c : Nat → Nat → Nat} : ∀ n, (∀ a b, a < n → b < a → (g a b).natAbs ≤ c a b) → (trP g n).natAbs ≤ trN c n
  | 0, _ => Nat.le_refl _
  | n + 1, h => by unfold trP trN; rw [Int.natAbs_mul]; exact Nat.mul_le_mul (trP_bd n fun a b ha hb => h a b (by omega) hb) (rwP_bd n fun b hb => h n b (by omega) hb)
def df (x : Nat → Int) (a b : Nat) : Int := x a - x b
def gq (x : Nat → Int) (i j a b : Nat) : Int := if a = i ∧ b < j then 1 else if b = i ∧ a < j then -1 else x a - x b
def cq (i j a b : Nat) : Nat := if (a = i ∧ b < j) ∨ (b = i ∧ a < j) then 1 else 60
def tmP (x : Nat → Int) (d : Int) (i : Nat) : Nat → Int
  | 0 => 1
  | j + 1 => tmP x d i j * (if j = i then 1 else d - x j)
def tmN (i : Nat) : Nat → Nat
  | 0 => 1
  | j + 1 => tmN i j * (if j = i then 1 else 60)
structure Dy (n : Nat) (x : Nat → Int) : Prop where
  le : n ≤ 4
  rg : ∀ i, i < n → 0 ≤ x i ∧ x i ≤ 60
  up : ∀ a b, a < n → b < a → x b < x a
section
variable {n : Nat} {x : Nat → Int}
theorem Dy.ne (h : Dy n x) {i j : Nat} (hi : i < n) (hj : j < n) : x j = x i ↔ j = i := by
  constructor
  · intro e
    rcases Nat.lt_trichotomy i j with hl | hl | hl
    · have := h.up j i hj hl; omega
    · exact hl.symm
    · have := h.up i j hi hl; omega
  · intro e; rw [e]
theorem gq_zero (x : Nat → Int) (i : Nat) : trP (gq x i 0) n = trP (df x) n := trP_congr n fun a b _ _ => by unfold gq df; rw [if_neg (by omega), if_neg (by omega)]
theorem gq_skip (x : Nat → Int) (i : Nat) : trP (gq x i i) n = trP (gq x i (i + 1)) n := trP_congr n fun a b _ hb => by
  unfold gq
  (repeat' split) <;> first | rfl | (exfalso; omega)
theorem gq_step (x : Nat → Int) {i j : Nat} (hi : i < n) (hj : j < n) (hne : j ≠ i) : trP (gq x i j) n = trP (gq x i (j + 1)) n * (x i - x j) := by
  have hoth : ∀ a b, b < a → ¬ (a = i ∧ b = j) → ¬ (b = i ∧ a = j) → gq x i j a b = gq x i (j + 1) a b := fun a b hb h1 h2 => by
    unfold gq
    (repeat' split) <;> first | rfl | (exfalso; omega)
  rcases Nat.lt_or_gt_of_ne hne with hl | hl
  · refine trP_one (A := i) (B := j) hl ?_ (fun a b hb h => hoth a b hb (by omega) (by omega)) n hi
    unfold gq
    (repeat' split) <;> first | (rw [Int.one_mul]; done) | (exfalso; omega)
  · refine trP_one (A := j) (B := i) hl ?_ (fun a b hb h => hoth a b hb (by omega) (by omega)) n hj
    unfold gq
    (repeat' split) <;> first | (exfalso; omega) | omega
theorem rw_self (x : Nat → Int) (i : Nat) : ∀ m, m ≤ n → rwP (gq x i n) i m = 1
  | 0, _ => rfl
  | m + 1, h => by unfold rwP; rw [rw_self x i m (by omega)]; unfold gq; rw [if_pos (by omega)]; rfl
theorem df_bd (h : Dy n x) {a b : Nat} (ha : a < n) (hb : b < n) : (x a - x b).natAbs ≤ 60 := by have := h.rg a ha; have := h.rg b hb; omega
theorem gq_bd (h : Dy n x) {i j a b : Nat} (ha : a < n) (hb : b < n) : (gq x i j a b).natAbs ≤ cq i j a b := by
  unfold gq cq
  by_cases h1 : a = i ∧ b < j
  · rw [if_pos h1, if_pos (.inl h1)]; decide
  · rw [if_neg h1]
    by_cases h2 : b = i ∧ a < j
    · rw [if_pos h2, if_pos (.inr h2)]; decide
    · rw [if_neg h2, if_neg (by omega)]; exact df_bd h ha hb
theorem tmP_bd {d : Int} (h : Dy n x) (hd : 0 ≤ d ∧ d ≤ 60) (i : Nat) : ∀ j, j ≤ n → (tmP x d i j).natAbs ≤ tmN i j
  | 0, _ => Nat.le_refl _
  | j + 1, hj => by
    unfold tmP tmN
    rw [Int.natAbs_mul]
    refine Nat.mul_le_mul (tmP_bd h hd i j (by omega)) ?_
    by_cases e : j = i
    · rw [if_pos e, if_pos e]; decide
    · rw [if_neg e, if_neg e]; have := h.rg j (by omega); omega
def tabB : Bool := (List.range 5).all fun n => (List.range n).all fun i => (List.range (n + 1)).all fun j => decide (tmN i j ≤ 216000) && (List.range n).all fun a => (List.range (a + 1)).all fun b =>
  decide (trN (cq i j) n ≤ 46656000000) && decide (trN (cq i n) n ≤ 216000) && decide (trN (cq i n) a * rwN (cq i n) a b ≤ 216000) && decide (trN (fun _ _ => 60) a * rwN (fun _ _ => 60) a b ≤ 46656000000)
theorem tab_all : tabB = true := by decide +kernel
theorem tab_at {n i j a b : Nat} (hn : n ≤ 4) (hi : i < n) (hj : j ≤ n) (ha : a < n) (hb : b ≤ a) : tmN i j ≤ 216000 ∧ trN (cq i j) n ≤ 46656000000 ∧ trN (cq i n) n ≤ 216000 ∧ trN (cq i n) a * rwN (cq i n) a b ≤ 216000 ∧ trN (fun _ _ => 60) a * rwN (fun _ _ => 60) a b ≤ 46656000000 := by
  have h := List.all_eq_true.1 (List.all_eq_true.1 (List.all_eq_true.1 tab_all n (List.mem_range.2 (by omega))) i (List.mem_range.2 hi)) j (List.mem_range.2 (by omega))
  simp only [Bool.and_eq_true, decide_eq_true_eq] at h
  have h2 := List.all_eq_true.1 (List.all_eq_true.1 h.2 a (List.mem_range.2 ha)) b (List.mem_range.2 (by omega))
  simp only [Bool.and_eq_true, decide_eq_true_eq] at h2
  exact ⟨h.1, h2.1.1.1, h2.1.1.2, h2.1.2, h2.2⟩
def nuP (n : Nat) (x y : Nat → Int) (d : Int) : Nat → Int
  | 0 => 0
  | i + 1 => nuP n x y d i + y i * tmP x d i n * trP (gq x i n) n
def Pl (n : Nat) (y : Nat → Int) : Prop := ∀ i, i < n → -100000 ≤ y i ∧ y i ≤ 100000
theorem nat_bd {z : Int} {N : Nat} (h : z.natAbs ≤ N) : -(N : Int) ≤ z ∧ z ≤ N := by omega
theorem den_bd (h : Dy n x) {i j : Nat} (hi : i < n) (hj : j ≤ i) : -46656000000 ≤ trP (df x) i * rwP (df x) i j ∧ trP (df x) i * rwP (df x) i j ≤ 46656000000 := by
  have h1 := trP_bd (g := df x) (c := fun _ _ => 60) i fun a b ha hb => df_bd h (by omega) (by omega)
  have h2 := rwP_bd (g := df x) (c := fun _ _ => 60) (a := i) j fun b hb => df_bd h (by omega) (by omega)
  have h3 : (trP (df x) i * rwP (df x) i j).natAbs ≤ 46656000000 := by
    rw [Int.natAbs_mul]
    exact Nat.le_trans (Nat.mul_le_mul h1 h2) (tab_at (j := 0) h.le hi (Nat.zero_le _) hi hj).2.2.2.2
  exact nat_bd h3
theorem by_bd (h : Dy n x) {i j : Nat} (hi : i < n) (hj : j ≤ n) : -46656000000 ≤ trP (gq x i j) n ∧ trP (gq x i j) n ≤ 46656000000 := by
  have h1 := trP_bd (g := gq x i j) (c := cq i j) n fun a b ha hb => gq_bd h ha (by omega)
  exact nat_bd (Nat.le_trans h1 (tab_at (b := 0) h.le hi hj hi (Nat.zero_le _)).2.1)
theorem tm_bd (h : Dy n x) {y : Nat → Int} (hy : Pl n y) {d : Int} (hd : 0 ≤ d ∧ d ≤ 60) {i j : Nat} (hi : i < n) (hj : j ≤ n) : -21600000000 ≤ y i * tmP x d i j ∧ y i * tmP x d i j ≤ 21600000000 := by
  have h1 := tmP_bd h hd i j hj
  have h2 := (tab_at (b := 0) h.le hi hj hi (Nat.zero_le _)).1
  have h3 : (y i * tmP x d i j).natAbs ≤ 21600000000 := by
    rw [Int.natAbs_mul]
    have h4 : (y i).natAbs ≤ 100000 := by have := hy i hi; omega
    exact Nat.le_trans (Nat.mul_le_mul h4 (Nat.le_trans h1 h2)) (by decide)
  exact nat_bd h3
theorem tr_bd (h : Dy n x) {y : Nat → Int} (hy : Pl n y) {d : Int} (hd : 0 ≤ d ∧ d ≤ 60) {i j a b : Nat} (hi : i < n) (hj : j ≤ n) (ha : a < n) (hb : b ≤ a) : -4665600000000000 ≤ y i * tmP x d i j * (trP (gq x i n) a * rwP (gq x i n) a b) ∧ y i * tmP x d i j * (trP (gq x i n) a * rwP (gq x i n) a b) ≤ 4665600000000000 := by
  have h1 := tm_bd h hy hd hi hj
  have h4 := trP_bd (g := gq x i n) (c := cq i n) a fun a' b' ha hb => gq_bd h (by omega) (by omega)
  have h5 := rwP_bd (g := gq x i n) (c := cq i n) (a := a) b fun b' hb => gq_bd h (by omega) (by omega)
  have h6 := (tab_at (j := j) h.le hi hj ha hb).2.2.2.1
  have h3 : (y i * tmP x d i j * (trP (gq x i n) a * rwP (gq x i n) a b)).natAbs ≤ 4665600000000000 := by
    rw [Int.natAbs_mul, Int.natAbs_mul (trP _ _)]
    have h7 : (y i * tmP x d i j).natAbs ≤ 21600000000 := by omega
    exact Nat.le_trans (Nat.mul_le_mul h7 (Nat.le_trans (Nat.mul_le_mul h4 h5) h6)) (by decide)
  exact nat_bd h3
theorem te_bd (h : Dy n x) {y : Nat → Int} (hy : Pl n y) {d : Int} (hd : 0 ≤ d ∧ d ≤ 60) {i : Nat} (hi : i < n) : -4665600000000000 ≤ y i * tmP x d i n * trP (gq x i n) n ∧ y i * tmP x d i n * trP (gq x i n) n ≤ 4665600000000000 := by
  have h1 := tm_bd h hy hd hi (Nat.le_refl n)
  have h4 := trP_bd (g := gq x i n) (c := cq i n) n fun a' b' ha hb => gq_bd h (by omega) (by omega)
  have h6 := (tab_at (j := n) (b := 0) h.le hi (Nat.le_refl _) hi (Nat.zero_le _)).2.2.1
  have h3 : (y i * tmP x d i n * trP (gq x i n) n).natAbs ≤ 4665600000000000 := by
    rw [Int.natAbs_mul]
    have h7 : (y i * tmP x d i n).natAbs ≤ 21600000000 := by omega
    exact Nat.le_trans (Nat.mul_le_mul h7 (Nat.le_trans h4 h6)) (by decide)
  exact nat_bd h3
theorem nu_bd (h : Dy n x) {y : Nat → Int} (hy : Pl n y) {d : Int} (hd : 0 ≤ d ∧ d ≤ 60) : ∀ i, i ≤ n → -(4665600000000000 * i) ≤ nuP n x y d i ∧ nuP n x y d i ≤ 4665600000000000 * i
  | 0, _ => by simp [nuP]
  | i + 1, hi => by
    have h1 := nu_bd h hy hd i (by omega)
    have h2 := te_bd h hy hd (i := i) (by omega)
    have e : nuP n x y d (i + 1) = nuP n x y d i + y i * tmP x d i n * trP (gq x i n) n := rfl
    rw [e]
    omega
theorem rw_pos {g : Nat → Nat → Int} {a : Nat} : ∀ m, (∀ b, b < m → 0 < g a b) → 0 < rwP g a m
  | 0, _ => Int.one_pos
  | m + 1, h => Int.mul_pos (rw_pos m fun b hb => h b (by omega)) (h m (by omega))
theorem tr_pos {g : Nat → Nat → Int} : ∀ n, (∀ a b, a < n → b < a → 0 < g a b) → 0 < trP g n
  | 0, _ => Int.one_pos
  | n + 1, h => Int.mul_pos (tr_pos n fun a b ha hb => h a b (by omega) hb) (rw_pos n fun b hb => h n b (by omega) hb)
theorem den_pos (h : Dy n x) : 0 < trP (df x) n := tr_pos n fun a b ha hb => by have := h.up a b ha hb; unfold df; omega
end
end Go.Proofs.K
namespace Go.Proofs.K
open Go.As
set_option maxRecDepth 20000
set_option maxHeartbeats 8000000 in
theorem placeBy_ok (h : As.H) (ex : Bool) (n : Nat) (x y : Nat → Int) (d : Int) (hD : Dy n x) (hy : Pl n y) (hd : 0 ≤ d ∧ d ≤ 60) :
    CallOk Try.prog 89 [.rsl ex 2 n (lkG x y), .int .i64 d] h (.tup [.int .i64 (nuP n x y d n), .int .i64 (trP (df x) n)]) h := by
  have hn := hD.le
  have hdb := fun i j hi hj => den_bd hD (i := i) (j := j) hi hj
  have hrg := hD.rg
  have hP0 : trP (df x) 0 = 1 := rfl
  have hPs : ∀ i, trP (df x) (i + 1) = trP (df x) i * rwP (df x) i i := fun i => rfl
  have hR0 : ∀ i, rwP (df x) i 0 = 1 := fun i => rfl
  have hRs : ∀ i j, rwP (df x) i (j + 1) = rwP (df x) i j * (x i - x j) := fun i j => rfl
  have hbz : ∀ i, trP (gq x i 0) n = trP (df x) n := fun i => gq_zero x i
  refine CallOk.run0 Try.func89 rfl rfl rfl rfl rfl (WpR.of_vc ?_)
  (conv => whnf); (repeat' (first | ((with_reducible refine ifb_mk (fun hc => ?_) (fun hc => ?_)) <;> ((try simp only [decide_eq_true_eq, decide_eq_false_iff_not, Bool.not_eq_true', Bool.not_eq_false', Int.not_lt, Int.not_le, ne_eq, Decidable.not_not, beq_iff_eq, List.cons.injEq, and_true] at hc); (first | (exfalso; omega) | exact absurd True.intro hc | conv => whnf))) | ((with_reducible refine And.intro True.intro ?_); conv => whnf) | ((with_reducible refine And.intro ?hh ?_); (case hh => exact condA); conv => whnf) | fail))
  refine WpR.loopA (ι := Nat × Int) [] [0, 1, 4, 16, 17] [] [] 0 (fun p => [(18, .int .i64 p.1), (5, .int .i64 p.2)]) (fun _ => []) (fun p => n - p.1) (fun p => p.1 ≤ n ∧ p.2 = trP (df x) p.1) ?_ ((0, 1)) (⟨Nat.zero_le _, hP0.symm⟩) [] Back.auto
  rintro ⟨i, dn⟩ ⟨j1, j2⟩
  dsimp only at j1 j2
  refine WpR.of_vc ?_
  by_cases hi : i < n
  · have hri := hrg i hi
    (conv => whnf); (repeat' (first | ((with_reducible refine ifb_mk (fun hc => ?_) (fun hc => ?_)) <;> ((try simp only [decide_eq_true_eq, decide_eq_false_iff_not, Bool.not_eq_true', Bool.not_eq_false', Int.not_lt, Int.not_le, ne_eq, Decidable.not_not, beq_iff_eq, List.cons.injEq, and_true] at hc); (first | (exfalso; omega) | exact absurd True.intro hc | conv => whnf))) | ((with_reducible refine And.intro True.intro ?_); conv => whnf) | ((with_reducible refine grd_and ?_); refine And.intro (hi) ?_; conv => whnf) | ((with_reducible refine And.intro ?hh ?_); (case hh => exact condA); conv => whnf) | fail))
    refine WpR.loopA (ι := Nat × Int) [] [0, 1, 4, 7, 16, 17, 18, 25, 26] [] [] 1 (fun p => [(27, .int .i64 p.1), (5, .int .i64 p.2)]) (fun _ => []) (fun p => i - p.1) (fun p => p.1 ≤ i ∧ p.2 = trP (df x) i * rwP (df x) i p.1) ?_ ((0, dn)) (⟨Nat.zero_le _, by rw [hR0, j2]; omega⟩) [] Back.auto
    rintro ⟨j, dm⟩ ⟨k1, k2⟩
    dsimp only at k1 k2
    refine WpR.of_vc ?_
    by_cases hj : j < i
    · have hrj := hrg j (by omega)
      have b1 := hdb i (j + 1) hi (by omega)
      have e1 : dm * (x i - x (0 + j)) = trP (df x) i * rwP (df x) i (j + 1) := by rw [Nat.zero_add, k2, hRs, Int.mul_assoc]
      have y1 : InR (dm * (x i - x (0 + j))) := by rw [e1]; unfold InR; omega
      have y0 : InR (x i - x (0 + j)) := by rw [Nat.zero_add]; unfold InR; omega
      (conv => whnf); (repeat' (first | ((with_reducible refine ifb_mk (fun hc => ?_) (fun hc => ?_)) <;> ((try simp only [decide_eq_true_eq, decide_eq_false_iff_not, Bool.not_eq_true', Bool.not_eq_false', Int.not_lt, Int.not_le, ne_eq, Decidable.not_not, beq_iff_eq, List.cons.injEq, and_true] at hc); (first | (exfalso; omega) | exact absurd True.intro hc | conv => whnf))) | ((with_reducible refine And.intro True.intro ?_); conv => whnf) | ((with_reducible refine grd_and ?_); refine And.intro (hj) ?_; conv => whnf) | ((with_reducible refine grd_and ?_); refine And.intro (y0) ?_; conv => whnf) | ((with_reducible refine grd_and ?_); refine And.intro (y1) ?_; conv => whnf) | ((with_reducible refine And.intro ?hh ?_); (case hh => exact condA); conv => whnf) | fail))
      all_goals first | (exfalso; omega) | exact ⟨(j + 1, dm * (x i - x (0 + j))), [], by dsimp only; omega, ⟨by dsimp only; omega, e1⟩, Back.auto⟩
    · have e : j = i := by omega
      subst e
      (conv => whnf); (repeat' (first | ((with_reducible refine ifb_mk (fun hc => ?_) (fun hc => ?_)) <;> ((try simp only [decide_eq_true_eq, decide_eq_false_iff_not, Bool.not_eq_true', Bool.not_eq_false', Int.not_lt, Int.not_le, ne_eq, Decidable.not_not, beq_iff_eq, List.cons.injEq, and_true] at hc); (first | (exfalso; omega) | exact absurd True.intro hc | conv => whnf))) | ((with_reducible refine And.intro True.intro ?_); conv => whnf) | ((with_reducible refine grd_and ?_); refine And.intro (hj) ?_; conv => whnf) | ((with_reducible refine And.intro ?hh ?_); (case hh => exact condA); conv => whnf) | fail))
      all_goals first | (exfalso; omega) | exact ⟨(j + 1, dm), [], by dsimp only; omega, ⟨by dsimp only; omega, by dsimp only; rw [hPs, k2]⟩, Back.auto⟩
  · have e : i = n := by omega
    subst e
    have hdp := den_pos hD
    rw [← j2] at hdp hbz ⊢
    (conv => whnf); (repeat' (first | ((with_reducible refine ifb_mk (fun hc => ?_) (fun hc => ?_)) <;> ((try simp only [decide_eq_true_eq, decide_eq_false_iff_not, Bool.not_eq_true', Bool.not_eq_false', Int.not_lt, Int.not_le, ne_eq, Decidable.not_not, beq_iff_eq, List.cons.injEq, and_true] at hc); (first | (exfalso; omega) | exact absurd True.intro hc | conv => whnf))) | ((with_reducible refine And.intro True.intro ?_); conv => whnf) | ((with_reducible refine grd_and ?_); refine And.intro (hi) ?_; conv => whnf) | ((with_reducible refine And.intro ?hh ?_); (case hh => exact condA); conv => whnf) | fail))
    generalize hDn : trP (df x) i = DN at *
    clear hdb hP0 hPs hR0 hRs
    refine WpR.loopA (ι := Nat × Int) [] [0, 1, 5, 40, 41] [] [] 0 (fun p => [(42, .int .i64 p.1), (4, .int .i64 p.2)]) (fun _ => []) (fun p => i - p.1) (fun p => p.1 ≤ i ∧ p.2 = nuP i x y d p.1) ?_ ((0, 0)) (⟨Nat.zero_le _, rfl⟩) [] Back.auto
    rintro ⟨k, nm⟩ ⟨k1, k2⟩
    dsimp only at k1 k2
    refine WpR.of_vc ?_
    by_cases hk : k < i
    · have hrk := hrg k hk
      have hyk := hy k hk
      (conv => whnf); (repeat' (first | ((with_reducible refine ifb_mk (fun hc => ?_) (fun hc => ?_)) <;> ((try simp only [decide_eq_true_eq, decide_eq_false_iff_not, Bool.not_eq_true', Bool.not_eq_false', Int.not_lt, Int.not_le, ne_eq, Decidable.not_not, beq_iff_eq, List.cons.injEq, and_true] at hc); (first | (exfalso; omega) | exact absurd True.intro hc | conv => whnf))) | ((with_reducible refine And.intro True.intro ?_); conv => whnf) | ((with_reducible refine grd_and ?_); refine And.intro (hk) ?_; conv => whnf) | ((with_reducible refine And.intro ?hh ?_); (case hh => exact condA); conv => whnf) | fail))
      refine WpR.loopA (ι := Nat × Int × Int) [] [0, 1, 4, 5, 11, 40, 41, 42, 49, 50] [] [] 1 (fun p => [(51, .int .i64 p.1), (12, .int .i64 p.2.1), (13, .int .i64 p.2.2)]) (fun _ => []) (fun p => i - p.1) (fun p => p.1 ≤ i ∧ p.2.1 = y k * tmP x d k p.1 ∧ p.2.2 = trP (gq x k p.1) i) ?_ ((0, y k, dn)) (⟨Nat.zero_le _, by show y k = y k * 1; rw [Int.mul_one], (hbz k).symm⟩) [] Back.auto
      rintro ⟨m, te, by'⟩ ⟨l1, l2, l3⟩
      dsimp only at l1 l2 l3
      refine WpR.of_vc ?_
      by_cases hm : m < i
      · have hrm := hrg m hm
        by_cases hmk : m = k
        · have ex : x m = x k := by rw [hmk]
          have hts : tmP x d k (m + 1) = tmP x d k m * (if m = k then 1 else d - x m) := rfl
          have e1 : te = y k * tmP x d k (m + 1) := by rw [l2, hts, if_pos hmk, Int.mul_one]
          have e2 : by' = trP (gq x k (m + 1)) i := by rw [l3, hmk]; exact gq_skip x k
          (conv => whnf); (repeat' (first | ((with_reducible refine ifb_mk (fun hc => ?_) (fun hc => ?_)) <;> ((try simp only [decide_eq_true_eq, decide_eq_false_iff_not, Bool.not_eq_true', Bool.not_eq_false', Int.not_lt, Int.not_le, ne_eq, Decidable.not_not, beq_iff_eq, List.cons.injEq, and_true] at hc); (first | (exfalso; omega) | exact absurd True.intro hc | conv => whnf))) | ((with_reducible refine And.intro True.intro ?_); conv => whnf) | ((with_reducible refine grd_and ?_); refine And.intro (hm) ?_; conv => whnf) | ((with_reducible refine And.intro ?hh ?_); (case hh => exact condA); conv => whnf) | fail))
          all_goals first | (exfalso; omega) | exact ⟨(m + 1, te, by'), [], by dsimp only; omega, ⟨by dsimp only; omega, e1, e2⟩, Back.auto⟩
        · have ex : x m ≠ x k := fun hc => hmk ((hD.ne hk hm).1 hc)
          have b1 := tm_bd hD hy hd hk (j := m + 1) (by omega)
          have b2 := by_bd hD hk (j := m + 1) (by omega)
          have hts : tmP x d k (m + 1) = tmP x d k m * (if m = k then 1 else d - x m) := rfl
          have e1 : te * (d - x m) = y k * tmP x d k (m + 1) := by rw [l2, hts, if_neg hmk, Int.mul_assoc]
          have e2 : by'.tdiv (x k - x m) = trP (gq x k (m + 1)) i := by rw [l3, gq_step x hk hm hmk]; exact Int.mul_tdiv_cancel _ (by omega)
          have y1 : InR (te * (d - x m)) := by rw [e1]; unfold InR; omega
          have y2 : x k - x m ≠ 0 := by omega
          have y3 : InR (by'.tdiv (x k - x m)) := by rw [e2]; unfold InR; omega
          have y4 : InR (d - x m) := by unfold InR; omega
          have y5 : InR (x k - x m) := by unfold InR; omega
          (conv => whnf); (repeat' (first | ((with_reducible refine ifb_mk (fun hc => ?_) (fun hc => ?_)) <;> ((try simp only [decide_eq_true_eq, decide_eq_false_iff_not, Bool.not_eq_true', Bool.not_eq_false', Int.not_lt, Int.not_le, ne_eq, Decidable.not_not, beq_iff_eq, List.cons.injEq, and_true] at hc); (first | (exfalso; omega) | exact absurd True.intro hc | conv => whnf))) | ((with_reducible refine And.intro True.intro ?_); conv => whnf) | ((with_reducible refine grd_and ?_); refine And.intro (hm) ?_; conv => whnf) | ((with_reducible refine grd_and ?_); refine And.intro (y1) ?_; conv => whnf) | ((with_reducible refine grd_and ?_); refine And.intro (y2) ?_; conv => whnf) | ((with_reducible refine grd_and ?_); refine And.intro (y3) ?_; conv => whnf) | ((with_reducible refine grd_and ?_); refine And.intro (y4) ?_; conv => whnf) | ((with_reducible refine grd_and ?_); refine And.intro (y5) ?_; conv => whnf) | ((with_reducible refine And.intro ?hh ?_); (case hh => exact condA); conv => whnf) | fail))
          all_goals first | (exfalso; omega) | exact ⟨(m + 1, te * (d - x m), by'.tdiv (x k - x m)), [], by dsimp only; omega, ⟨by dsimp only; omega, e1, e2⟩, Back.auto⟩
      · have e : m = i := by omega
        subst e
        have b1 := te_bd hD hy hd hk
        have b2 := nu_bd hD hy hd k (by omega)
        have e1 : nm + te * by' = nuP m x y d (k + 1) := by rw [k2, l2, l3]; rfl
        have e2 : te * by' = y k * tmP x d k m * trP (gq x k m) m := by rw [l2, l3]
        have y1 : InR (te * by') := by rw [e2]; unfold InR; omega
        have y2 : InR (nm + te * by') := by rw [e2, k2]; unfold InR; omega
        (conv => whnf); (repeat' (first | ((with_reducible refine ifb_mk (fun hc => ?_) (fun hc => ?_)) <;> ((try simp only [decide_eq_true_eq, decide_eq_false_iff_not, Bool.not_eq_true', Bool.not_eq_false', Int.not_lt, Int.not_le, ne_eq, Decidable.not_not, beq_iff_eq, List.cons.injEq, and_true] at hc); (first | (exfalso; omega) | exact absurd True.intro hc | conv => whnf))) | ((with_reducible refine And.intro True.intro ?_); conv => whnf) | ((with_reducible refine grd_and ?_); refine And.intro (hm) ?_; conv => whnf) | ((with_reducible refine grd_and ?_); refine And.intro (y1) ?_; conv => whnf) | ((with_reducible refine grd_and ?_); refine And.intro (y2) ?_; conv => whnf) | ((with_reducible refine And.intro ?hh ?_); (case hh => exact condA); conv => whnf) | fail))
        all_goals first | (exfalso; omega) | exact ⟨(k + 1, nm + te * by'), [], by dsimp only; omega, ⟨by dsimp only; omega, e1⟩, Back.auto⟩
    · have e : k = i := by omega
      subst e
      (conv => whnf); (repeat' (first | ((with_reducible refine ifb_mk (fun hc => ?_) (fun hc => ?_)) <;> ((try simp only [decide_eq_true_eq, decide_eq_false_iff_not, Bool.not_eq_true', Bool.not_eq_false', Int.not_lt, Int.not_le, ne_eq, Decidable.not_not, beq_iff_eq, List.cons.injEq, and_true] at hc); (first | (exfalso; omega) | exact absurd True.intro hc | conv => whnf))) | ((with_reducible refine And.intro True.intro ?_); conv => whnf) | ((with_reducible refine grd_and ?_); refine And.intro (hk) ?_; conv => whnf) | ((with_reducible refine And.intro ?hh ?_); (case hh => exact condA); conv => whnf) | fail))
      all_goals (refine ⟨[], ?_, rfl, rfl, trivial, trivs⟩; simp only [renV, renL]; rw [k2, j2])
end Go.Proofs.K
namespace Go.Proofs.K
open Go.As
set_option maxRecDepth 20000
def qP (n : Nat) (x y : Nat → Int) (d : Nat) : Int := (nuP n x y d n).tdiv (trP (df x) n)
def whP (n : Nat) (x y : Nat → Int) (d : Nat) : Bool := decide ((nuP n x y d n).tmod (trP (df x) n) = 0)
def dif (q : Nat → Int) : Nat → Nat → Int
  | 0, i => q i
  | k + 1, i => dif q k (i + 1) - dif q k i
def csP (n : Nat) (q : Nat → Int) : Nat → Int := cut n fun k => dif q k 0
def alW (n : Nat) (x y : Nat → Int) : Bool := allF n (whP n x y)
def thP (n : Nat) (x y : Nat → Int) : Nat → Int := match alW n x y with | true => csP n (qP n x y) | false => fun _ => 0
section
variable {n : Nat} {x y : Nat → Int}
theorem natAbs_pos_le {a b : Int} (hb : 0 < b) {k : Nat} (h : a.natAbs ≤ k * b.natAbs) : (a.tdiv b).natAbs ≤ k := by
  rw [Int.natAbs_tdiv]
  have hb' : 0 < b.natAbs := by omega
  exact Nat.div_le_of_le_mul (by rw [Nat.mul_comm]; exact h)
theorem fac_le {P D w : Int} (h : D = P * w) (hD : 0 < D) : P.natAbs ≤ D.natAbs := by
  rw [h, Int.natAbs_mul]
  have hw : w ≠ 0 := by intro e; rw [e, Int.mul_zero] at h; omega
  exact Nat.le_mul_of_pos_right _ (by omega)
theorem gq_fac (h : Dy n x) {i : Nat} (hi : i < n) : ∀ j, j ≤ n → ∃ w, trP (df x) n = trP (gq x i j) n * w
  | 0, _ => ⟨1, by rw [gq_zero, Int.mul_one]⟩
  | j + 1, hj => by
    obtain ⟨w, hw⟩ := gq_fac h hi j (by omega)
    by_cases e : j = i
    · subst e; exact ⟨w, by rw [hw, gq_skip]⟩
    · exact ⟨(x i - x j) * w, by rw [hw, gq_step x hi (by omega) e, Int.mul_assoc]⟩
theorem nu_le (h : Dy n x) (hy : Pl n y) {d : Int} (hd : 0 ≤ d ∧ d ≤ 60) : ∀ i, i ≤ n → (nuP n x y d i).natAbs ≤ 21600000000 * i * (trP (df x) n).natAbs
  | 0, _ => by simp [nuP]
  | i + 1, hi => by
    have ih := nu_le h hy hd i (by omega)
    have h1 := tm_bd h hy hd (i := i) (j := n) (by omega) (Nat.le_refl _)
    obtain ⟨w, hw⟩ := gq_fac h (i := i) (by omega) n (Nat.le_refl _)
    have h2 := fac_le hw (den_pos h)
    have e : nuP n x y d (i + 1) = nuP n x y d i + y i * tmP x d i n * trP (gq x i n) n := rfl
    rw [e]
    have h3 : (y i * tmP x d i n * trP (gq x i n) n).natAbs ≤ 21600000000 * (trP (df x) n).natAbs := by
      rw [Int.natAbs_mul]
      exact Nat.mul_le_mul (by omega) h2
    have h4 := Int.natAbs_add_le (nuP n x y d i) (y i * tmP x d i n * trP (gq x i n) n)
    have e2 : 21600000000 * (i + 1) * (trP (df x) n).natAbs = 21600000000 * i * (trP (df x) n).natAbs + 21600000000 * (trP (df x) n).natAbs := by rw [Nat.mul_add, Nat.add_mul]
    omega
theorem qP_bd (h : Dy n x) (hy : Pl n y) {d : Nat} (hd : d ≤ 60) : -86400000000 ≤ qP n x y d ∧ qP n x y d ≤ 86400000000 := by
  have h1 := nu_le h hy (d := d) (by omega) n (Nat.le_refl _)
  have h2 : 21600000000 * n ≤ 86400000000 := by have := h.le; omega
  have h3 := natAbs_pos_le (den_pos h) (Nat.le_trans h1 (Nat.mul_le_mul_right _ h2))
  unfold qP
  omega
theorem tmod_bd {a b : Int} (hb : 0 < b ∧ b ≤ 46656000000) : InR (a.tmod b) := by
  have h1 := Int.tmod_lt_of_pos a hb.1
  have h2 := Int.lt_tmod_of_pos a hb.1
  unfold InR; omega
theorem den_le (h : Dy n x) : trP (df x) n ≤ 46656000000 := by
  have h0 := h.le
  match n, h with
  | 0, _ => show (1 : Int) ≤ _; decide
  | n + 1, h => exact (den_bd h (i := n) (j := n) (by omega) (Nat.le_refl _)).2
end
set_option maxHeartbeats 8000000 in
theorem through0 (h : As.H) (ex : Bool) (x y : Nat → Int) (hD : Dy 0 x) (hy : Pl 0 y) :
    CallOk Try.prog 80 [.rsl ex 2 0 (lkG x y)] h (.tup [crV (thP 0 x y), .bool (alW 0 x y)]) h := by
  have hdp : 0 < trP (df x) 0 ∧ trP (df x) 0 ≤ 46656000000 := ⟨den_pos hD, den_le hD⟩
  unfold thP alW csP
  have w : ∀ d, whP 0 x y d = decide ((nuP 0 x y d 0).tmod (trP (df x) 0) = 0) := fun d => rfl
  have q : ∀ d, qP 0 x y d = (nuP 0 x y d 0).tdiv (trP (df x) 0) := fun d => rfl
  clear w q
  generalize hW : whP 0 x y = W at *
  generalize hQ : qP 0 x y = Q at *
  generalize trP (df x) 0 = dn at *
  have y0 : dn ≠ 0 := by omega
  have e : allF 0 W = true := rfl
  rw [e]
  have ec : crV (match true with | true => cut 0 fun k => dif Q k 0 | false => fun _ => 0) = .agg [.int .i64 0, .int .i64 0, .int .i64 0, .int .i64 0] := by simp [crV, cut, dif]
  rw [ec]
  clear ec e
  refine CallOk.run0 Try.func80 rfl rfl rfl rfl rfl (WpR.of_vc ?_)
  (conv => whnf); (repeat' (first | ((with_reducible refine ifb_mk (fun hc => ?_) (fun hc => ?_)) <;> ((try simp only [decide_eq_true_eq, decide_eq_false_iff_not, Bool.not_eq_true', Bool.not_eq_false', Int.not_lt, Int.not_le, ne_eq, Decidable.not_not, beq_iff_eq, List.cons.injEq, and_true] at hc); (first | (exfalso; omega) | exact absurd True.intro hc | conv => whnf))) | ((with_reducible refine And.intro True.intro ?_); conv => whnf) | ((with_reducible refine grd_and ?_); refine And.intro (y0) ?_; conv => whnf) | ((with_reducible refine WpR.loopU 5 ?_); conv => whnf) | ((with_reducible refine CallX.all (f := 67) ?_); refine CallW.inline Try.func67 rfl rfl (Nat.le_of_ble_eq_true rfl) (WpR.of_vc ?_); conv => whnf) | ((with_reducible refine WpR.draw (id := 2) mixed [0, 1, 2, 3, 4] [0, 1, 0, 4, 15] ?hh ?_); (case hh => kernel_rfl); conv => whnf) | ((with_reducible refine WpR.draw (id := 16) mixed [0, 1, 2, 3, 4, 5, 6, 7, 8, 9] [0, 1, 3, 0, 8, 24, 56, 127, 255, 511] ?hh ?_); (case hh => kernel_rfl); conv => whnf) | ((with_reducible refine And.intro ?hh ?_); (case hh => exact condA); conv => whnf) | fail))
  all_goals first | (refine ⟨[], ?_, rfl, rfl, trivial, trivs⟩; simp only [renV, renL]; (first | done | rfl | (simp; done) | (simp; omega) | grind)) | (exfalso; omega)
set_option maxHeartbeats 8000000 in
theorem through1 (h : As.H) (ex : Bool) (x y : Nat → Int) (hD : Dy 1 x) (hy : Pl 1 y) :
    CallOk Try.prog 80 [.rsl ex 2 1 (lkG x y)] h (.tup [crV (thP 1 x y), .bool (alW 1 x y)]) h := by
  have k0 := fun h' => placeBy_ok h' ex 1 x y 0 hD hy (by omega)
  have b0 := qP_bd hD hy (d := 0) (by omega)
  have hdp : 0 < trP (df x) 1 ∧ trP (df x) 1 ≤ 46656000000 := ⟨den_pos hD, den_le hD⟩
  unfold thP alW csP
  have w : ∀ d, whP 1 x y d = decide ((nuP 1 x y d 1).tmod (trP (df x) 1) = 0) := fun d => rfl
  have q : ∀ d, qP 1 x y d = (nuP 1 x y d 1).tdiv (trP (df x) 1) := fun d => rfl
  have w0 := w 0
  have q0 := q 0
  clear w q
  generalize hW : whP 1 x y = W at *
  generalize hQ : qP 1 x y = Q at *
  rw [show ((0 : Nat) : Int) = 0 from rfl] at w0 q0
  generalize nuP 1 x y 0 1 = u0 at *
  generalize trP (df x) 1 = dn at *
  have y0 : dn ≠ 0 := by omega
  have m0 := tmod_bd (a := u0) hdp
  have n0 : InR (u0.tdiv dn) := by rw [← q0]; unfold InR; omega
  rw [q0] at b0
  by_cases c0 : u0.tmod dn = 0
  rotate_left
  · have e : allF 1 W = false := allF_f (i := 0) (by omega) (by rw [w0]; exact decide_eq_false c0)
    rw [e]
    refine CallOk.run0 Try.func80 rfl rfl rfl rfl rfl (WpR.of_vc ?_)
    (conv => whnf); (repeat' (first | ((with_reducible refine ifb_mk (fun hc => ?_) (fun hc => ?_)) <;> ((try simp only [decide_eq_true_eq, decide_eq_false_iff_not, Bool.not_eq_true', Bool.not_eq_false', Int.not_lt, Int.not_le, ne_eq, Decidable.not_not, beq_iff_eq, List.cons.injEq, and_true] at hc); (first | (exfalso; omega) | exact absurd True.intro hc | conv => whnf))) | ((with_reducible refine And.intro True.intro ?_); conv => whnf) | ((with_reducible refine CallX.all ?_); refine CallW.of_ok (k0 _) ?_; conv => whnf) | ((with_reducible refine grd_and ?_); refine And.intro (y0) ?_; conv => whnf) | ((with_reducible refine grd_and ?_); refine And.intro (m0) ?_; conv => whnf) | ((with_reducible refine grd_and ?_); refine And.intro (n0) ?_; conv => whnf) | ((with_reducible refine WpR.loopU 5 ?_); conv => whnf) | ((with_reducible refine And.intro ?hh ?_); (case hh => exact condA); conv => whnf) | fail))
    all_goals first | (refine ⟨[], ?_, rfl, rfl, trivial, trivs⟩; simp only [renV, renL]; (first | done | rfl | (simp; done) | (simp; omega) | grind)) | (exfalso; omega)
  have e : allF 1 W = true := allF_t fun i hi => by
    match i, hi with
    | 0, _ => rw [w0]; exact decide_eq_true c0
  rw [e]
  have ec : crV (match true with | true => cut 1 fun k => dif Q k 0 | false => fun _ => 0) = .agg [.int .i64 (u0.tdiv dn), .int .i64 0, .int .i64 0, .int .i64 0] := by simp [crV, cut, dif, q0]
  rw [ec]
  clear ec e
  refine CallOk.run0 Try.func80 rfl rfl rfl rfl rfl (WpR.of_vc ?_)
  (conv => whnf); (repeat' (first | ((with_reducible refine ifb_mk (fun hc => ?_) (fun hc => ?_)) <;> ((try simp only [decide_eq_true_eq, decide_eq_false_iff_not, Bool.not_eq_true', Bool.not_eq_false', Int.not_lt, Int.not_le, ne_eq, Decidable.not_not, beq_iff_eq, List.cons.injEq, and_true] at hc); (first | (exfalso; omega) | exact absurd True.intro hc | conv => whnf))) | ((with_reducible refine And.intro True.intro ?_); conv => whnf) | ((with_reducible refine CallX.all ?_); refine CallW.of_ok (k0 _) ?_; conv => whnf) | ((with_reducible refine grd_and ?_); refine And.intro (y0) ?_; conv => whnf) | ((with_reducible refine grd_and ?_); refine And.intro (m0) ?_; conv => whnf) | ((with_reducible refine grd_and ?_); refine And.intro (n0) ?_; conv => whnf) | ((with_reducible refine WpR.loopU 5 ?_); conv => whnf) | ((with_reducible refine CallX.all (f := 67) ?_); refine CallW.inline Try.func67 rfl rfl (Nat.le_of_ble_eq_true rfl) (WpR.of_vc ?_); conv => whnf) | ((with_reducible refine WpR.draw (id := 2) mixed [0, 1, 2, 3, 4] [0, 1, 0, 4, 15] ?hh ?_); (case hh => kernel_rfl); conv => whnf) | ((with_reducible refine WpR.draw (id := 16) mixed [0, 1, 2, 3, 4, 5, 6, 7, 8, 9] [0, 1, 3, 0, 8, 24, 56, 127, 255, 511] ?hh ?_); (case hh => kernel_rfl); conv => whnf) | ((with_reducible refine And.intro ?hh ?_); (case hh => exact condA); conv => whnf) | fail))
  all_goals first | (refine ⟨[], ?_, rfl, rfl, trivial, trivs⟩; simp only [renV, renL]; (first | done | rfl | (simp; done) | (simp; omega) | grind)) | (exfalso; omega)
set_option maxHeartbeats 8000000 in
theorem through2 (h : As.H) (ex : Bool) (x y : Nat → Int) (hD : Dy 2 x) (hy : Pl 2 y) :
    CallOk Try.prog 80 [.rsl ex 2 2 (lkG x y)] h (.tup [crV (thP 2 x y), .bool (alW 2 x y)]) h := by
  have k0 := fun h' => placeBy_ok h' ex 2 x y 0 hD hy (by omega)
  have b0 := qP_bd hD hy (d := 0) (by omega)
  have k1 := fun h' => placeBy_ok h' ex 2 x y 1 hD hy (by omega)
  have b1 := qP_bd hD hy (d := 1) (by omega)
  have hdp : 0 < trP (df x) 2 ∧ trP (df x) 2 ≤ 46656000000 := ⟨den_pos hD, den_le hD⟩
  unfold thP alW csP
  have w : ∀ d, whP 2 x y d = decide ((nuP 2 x y d 2).tmod (trP (df x) 2) = 0) := fun d => rfl
  have q : ∀ d, qP 2 x y d = (nuP 2 x y d 2).tdiv (trP (df x) 2) := fun d => rfl
  have w0 := w 0
  have q0 := q 0
  have w1 := w 1
  have q1 := q 1
  clear w q
  generalize hW : whP 2 x y = W at *
  generalize hQ : qP 2 x y = Q at *
  rw [show ((0 : Nat) : Int) = 0 from rfl] at w0 q0
  rw [show ((1 : Nat) : Int) = 1 from rfl] at w1 q1
  generalize nuP 2 x y 0 2 = u0 at *
  generalize nuP 2 x y 1 2 = u1 at *
  generalize trP (df x) 2 = dn at *
  have y0 : dn ≠ 0 := by omega
  have m0 := tmod_bd (a := u0) hdp
  have n0 : InR (u0.tdiv dn) := by rw [← q0]; unfold InR; omega
  rw [q0] at b0
  have m1 := tmod_bd (a := u1) hdp
  have n1 : InR (u1.tdiv dn) := by rw [← q1]; unfold InR; omega
  rw [q1] at b1
  by_cases c0 : u0.tmod dn = 0
  rotate_left
  · have e : allF 2 W = false := allF_f (i := 0) (by omega) (by rw [w0]; exact decide_eq_false c0)
    rw [e]
    refine CallOk.run0 Try.func80 rfl rfl rfl rfl rfl (WpR.of_vc ?_)
    (conv => whnf); (repeat' (first | ((with_reducible refine ifb_mk (fun hc => ?_) (fun hc => ?_)) <;> ((try simp only [decide_eq_true_eq, decide_eq_false_iff_not, Bool.not_eq_true', Bool.not_eq_false', Int.not_lt, Int.not_le, ne_eq, Decidable.not_not, beq_iff_eq, List.cons.injEq, and_true] at hc); (first | (exfalso; omega) | exact absurd True.intro hc | conv => whnf))) | ((with_reducible refine And.intro True.intro ?_); conv => whnf) | ((with_reducible refine CallX.all ?_); refine CallW.of_ok (k0 _) ?_; conv => whnf) | ((with_reducible refine grd_and ?_); refine And.intro (y0) ?_; conv => whnf) | ((with_reducible refine grd_and ?_); refine And.intro (m0) ?_; conv => whnf) | ((with_reducible refine grd_and ?_); refine And.intro (n0) ?_; conv => whnf) | ((with_reducible refine WpR.loopU 5 ?_); conv => whnf) | ((with_reducible refine And.intro ?hh ?_); (case hh => exact condA); conv => whnf) | fail))
    all_goals first | (refine ⟨[], ?_, rfl, rfl, trivial, trivs⟩; simp only [renV, renL]; (first | done | rfl | (simp; done) | (simp; omega) | grind)) | (exfalso; omega)
  by_cases c1 : u1.tmod dn = 0
  rotate_left
  · have e : allF 2 W = false := allF_f (i := 1) (by omega) (by rw [w1]; exact decide_eq_false c1)
    rw [e]
    refine CallOk.run0 Try.func80 rfl rfl rfl rfl rfl (WpR.of_vc ?_)
    (conv => whnf); (repeat' (first | ((with_reducible refine ifb_mk (fun hc => ?_) (fun hc => ?_)) <;> ((try simp only [decide_eq_true_eq, decide_eq_false_iff_not, Bool.not_eq_true', Bool.not_eq_false', Int.not_lt, Int.not_le, ne_eq, Decidable.not_not, beq_iff_eq, List.cons.injEq, and_true] at hc); (first | (exfalso; omega) | exact absurd True.intro hc | conv => whnf))) | ((with_reducible refine And.intro True.intro ?_); conv => whnf) | ((with_reducible refine CallX.all ?_); refine CallW.of_ok (k0 _) ?_; conv => whnf) | ((with_reducible refine CallX.all ?_); refine CallW.of_ok (k1 _) ?_; conv => whnf) | ((with_reducible refine grd_and ?_); refine And.intro (y0) ?_; conv => whnf) | ((with_reducible refine grd_and ?_); refine And.intro (m0) ?_; conv => whnf) | ((with_reducible refine grd_and ?_); refine And.intro (m1) ?_; conv => whnf) | ((with_reducible refine grd_and ?_); refine And.intro (n0) ?_; conv => whnf) | ((with_reducible refine grd_and ?_); refine And.intro (n1) ?_; conv => whnf) | ((with_reducible refine WpR.loopU 5 ?_); conv => whnf) | ((with_reducible refine And.intro ?hh ?_); (case hh => exact condA); conv => whnf) | fail))
    all_goals first | (refine ⟨[], ?_, rfl, rfl, trivial, trivs⟩; simp only [renV, renL]; (first | done | rfl | (simp; done) | (simp; omega) | grind)) | (exfalso; omega)
  have e : allF 2 W = true := allF_t fun i hi => by
    match i, hi with
    | 0, _ => rw [w0]; exact decide_eq_true c0
    | 1, _ => rw [w1]; exact decide_eq_true c1
  rw [e]
  have ec : crV (match true with | true => cut 2 fun k => dif Q k 0 | false => fun _ => 0) = .agg [.int .i64 (u0.tdiv dn), .int .i64 ((u1.tdiv dn) - (u0.tdiv dn)), .int .i64 0, .int .i64 0] := by simp [crV, cut, dif, q0, q1]
  rw [ec]
  clear ec e
  refine CallOk.run0 Try.func80 rfl rfl rfl rfl rfl (WpR.of_vc ?_)
  (conv => whnf); (repeat' (first | ((with_reducible refine ifb_mk (fun hc => ?_) (fun hc => ?_)) <;> ((try simp only [decide_eq_true_eq, decide_eq_false_iff_not, Bool.not_eq_true', Bool.not_eq_false', Int.not_lt, Int.not_le, ne_eq, Decidable.not_not, beq_iff_eq, List.cons.injEq, and_true] at hc); (first | (exfalso; omega) | exact absurd True.intro hc | conv => whnf))) | ((with_reducible refine And.intro True.intro ?_); conv => whnf) | ((with_reducible refine CallX.all ?_); refine CallW.of_ok (k0 _) ?_; conv => whnf) | ((with_reducible refine CallX.all ?_); refine CallW.of_ok (k1 _) ?_; conv => whnf) | ((with_reducible refine grd_and ?_); refine And.intro (y0) ?_; conv => whnf) | ((with_reducible refine grd_and ?_); refine And.intro (m0) ?_; conv => whnf) | ((with_reducible refine grd_and ?_); refine And.intro (m1) ?_; conv => whnf) | ((with_reducible refine grd_and ?_); refine And.intro (n0) ?_; conv => whnf) | ((with_reducible refine grd_and ?_); refine And.intro (n1) ?_; conv => whnf) | ((with_reducible refine WpR.loopU 5 ?_); conv => whnf) | ((with_reducible refine CallX.all (f := 67) ?_); refine CallW.inline Try.func67 rfl rfl (Nat.le_of_ble_eq_true rfl) (WpR.of_vc ?_); conv => whnf) | ((with_reducible refine WpR.draw (id := 2) mixed [0, 1, 2, 3, 4] [0, 1, 0, 4, 15] ?hh ?_); (case hh => kernel_rfl); conv => whnf) | ((with_reducible refine WpR.draw (id := 16) mixed [0, 1, 2, 3, 4, 5, 6, 7, 8, 9] [0, 1, 3, 0, 8, 24, 56, 127, 255, 511] ?hh ?_); (case hh => kernel_rfl); conv => whnf) | ((with_reducible refine And.intro ?hh ?_); (case hh => exact condA); conv => whnf) | fail))
  all_goals first | (refine ⟨[], ?_, rfl, rfl, trivial, trivs⟩; simp only [renV, renL]; (first | done | rfl | (simp; done) | (simp; omega) | grind)) | (exfalso; omega)
set_option maxHeartbeats 8000000 in
theorem through3 (h : As.H) (ex : Bool) (x y : Nat → Int) (hD : Dy 3 x) (hy : Pl 3 y) :
    CallOk Try.prog 80 [.rsl ex 2 3 (lkG x y)] h (.tup [crV (thP 3 x y), .bool (alW 3 x y)]) h := by
  have k0 := fun h' => placeBy_ok h' ex 3 x y 0 hD hy (by omega)
  have b0 := qP_bd hD hy (d := 0) (by omega)
  have k1 := fun h' => placeBy_ok h' ex 3 x y 1 hD hy (by omega)
  have b1 := qP_bd hD hy (d := 1) (by omega)
  have k2 := fun h' => placeBy_ok h' ex 3 x y 2 hD hy (by omega)
  have b2 := qP_bd hD hy (d := 2) (by omega)
  have hdp : 0 < trP (df x) 3 ∧ trP (df x) 3 ≤ 46656000000 := ⟨den_pos hD, den_le hD⟩
  unfold thP alW csP
  have w : ∀ d, whP 3 x y d = decide ((nuP 3 x y d 3).tmod (trP (df x) 3) = 0) := fun d => rfl
  have q : ∀ d, qP 3 x y d = (nuP 3 x y d 3).tdiv (trP (df x) 3) := fun d => rfl
  have w0 := w 0
  have q0 := q 0
  have w1 := w 1
  have q1 := q 1
  have w2 := w 2
  have q2 := q 2
  clear w q
  generalize hW : whP 3 x y = W at *
  generalize hQ : qP 3 x y = Q at *
  rw [show ((0 : Nat) : Int) = 0 from rfl] at w0 q0
  rw [show ((1 : Nat) : Int) = 1 from rfl] at w1 q1
  rw [show ((2 : Nat) : Int) = 2 from rfl] at w2 q2
  generalize nuP 3 x y 0 3 = u0 at *
  generalize nuP 3 x y 1 3 = u1 at *
  generalize nuP 3 x y 2 3 = u2 at *
  generalize trP (df x) 3 = dn at *
  have y0 : dn ≠ 0 := by omega
  have m0 := tmod_bd (a := u0) hdp
  have n0 : InR (u0.tdiv dn) := by rw [← q0]; unfold InR; omega
  rw [q0] at b0
  have m1 := tmod_bd (a := u1) hdp
  have n1 : InR (u1.tdiv dn) := by rw [← q1]; unfold InR; omega
  rw [q1] at b1
  have m2 := tmod_bd (a := u2) hdp
  have n2 : InR (u2.tdiv dn) := by rw [← q2]; unfold InR; omega
  rw [q2] at b2
  by_cases c0 : u0.tmod dn = 0
  rotate_left
  · have e : allF 3 W = false := allF_f (i := 0) (by omega) (by rw [w0]; exact decide_eq_false c0)
    rw [e]
    refine CallOk.run0 Try.func80 rfl rfl rfl rfl rfl (WpR.of_vc ?_)
    (conv => whnf); (repeat' (first | ((with_reducible refine ifb_mk (fun hc => ?_) (fun hc => ?_)) <;> ((try simp only [decide_eq_true_eq, decide_eq_false_iff_not, Bool.not_eq_true', Bool.not_eq_false', Int.not_lt, Int.not_le, ne_eq, Decidable.not_not, beq_iff_eq, List.cons.injEq, and_true] at hc); (first | (exfalso; omega) | exact absurd True.intro hc | conv => whnf))) | ((with_reducible refine And.intro True.intro ?_); conv => whnf) | ((with_reducible refine CallX.all ?_); refine CallW.of_ok (k0 _) ?_; conv => whnf) | ((with_reducible refine grd_and ?_); refine And.intro (y0) ?_; conv => whnf) | ((with_reducible refine grd_and ?_); refine And.intro (m0) ?_; conv => whnf) | ((with_reducible refine grd_and ?_); refine And.intro (n0) ?_; conv => whnf) | ((with_reducible refine WpR.loopU 5 ?_); conv => whnf) | ((with_reducible refine And.intro ?hh ?_); (case hh => exact condA); conv => whnf) | fail))
    all_goals first | (refine ⟨[], ?_, rfl, rfl, trivial, trivs⟩; simp only [renV, renL]; (first | done | rfl | (simp; done) | (simp; omega) | grind)) | (exfalso; omega)
  by_cases c1 : u1.tmod dn = 0
  rotate_left
  · have e : allF 3 W = false := allF_f (i := 1) (by omega) (by rw [w1]; exact decide_eq_false c1)
    rw [e]
    refine CallOk.run0 Try.func80 rfl rfl rfl rfl rfl (WpR.of_vc ?_)
    (conv => whnf); (repeat' (first | ((with_reducible refine ifb_mk (fun hc => ?_) (fun hc => ?_)) <;> ((try simp only [decide_eq_true_eq, decide_eq_false_iff_not, Bool.not_eq_true', Bool.not_eq_false', Int.not_lt, Int.not_le, ne_eq, Decidable.not_not, beq_iff_eq, List.cons.injEq, and_true] at hc); (first | (exfalso; omega) | exact absurd True.intro hc | conv => whnf))) | ((with_reducible refine And.intro True.intro ?_); conv => whnf) | ((with_reducible refine CallX.all ?_); refine CallW.of_ok (k0 _) ?_; conv => whnf) | ((with_reducible refine CallX.all ?_); refine CallW.of_ok (k1 _) ?_; conv => whnf) | ((with_reducible refine grd_and ?_); refine And.intro (y0) ?_; conv => whnf) | ((with_reducible refine grd_and ?_); refine And.intro (m0) ?_; conv => whnf) | ((with_reducible refine grd_and ?_); refine And.intro (m1) ?_; conv => whnf) | ((with_reducible refine grd_and ?_); refine And.intro (n0) ?_; conv => whnf) | ((with_reducible refine grd_and ?_); refine And.intro (n1) ?_; conv => whnf) | ((with_reducible refine WpR.loopU 5 ?_); conv => whnf) | ((with_reducible refine And.intro ?hh ?_); (case hh => exact condA); conv => whnf) | fail))
    all_goals first | (refine ⟨[], ?_, rfl, rfl, trivial, trivs⟩; simp only [renV, renL]; (first | done | rfl | (simp; done) | (simp; omega) | grind)) | (exfalso; omega)
  by_cases c2 : u2.tmod dn = 0
  rotate_left
  · have e : allF 3 W = false := allF_f (i := 2) (by omega) (by rw [w2]; exact decide_eq_false c2)
    rw [e]
    refine CallOk.run0 Try.func80 rfl rfl rfl rfl rfl (WpR.of_vc ?_)
    (conv => whnf); (repeat' (first | ((with_reducible refine ifb_mk (fun hc => ?_) (fun hc => ?_)) <;> ((try simp only [decide_eq_true_eq, decide_eq_false_iff_not, Bool.not_eq_true', Bool.not_eq_false', Int.not_lt, Int.not_le, ne_eq, Decidable.not_not, beq_iff_eq, List.cons.injEq, and_true] at hc); (first | (exfalso; omega) | exact absurd True.intro hc | conv => whnf))) | ((with_reducible refine And.intro True.intro ?_); conv => whnf) | ((with_reducible refine CallX.all ?_); refine CallW.of_ok (k0 _) ?_; conv => whnf) | ((with_reducible refine CallX.all ?_); refine CallW.of_ok (k1 _) ?_; conv => whnf) | ((with_reducible refine CallX.all ?_); refine CallW.of_ok (k2 _) ?_; conv => whnf) | ((with_reducible refine grd_and ?_); refine And.intro (y0) ?_; conv => whnf) | ((with_reducible refine grd_and ?_); refine And.intro (m0) ?_; conv => whnf) | ((with_reducible refine grd_and ?_); refine And.intro (m1) ?_; conv => whnf) | ((with_reducible refine grd_and ?_); refine And.intro (m2) ?_; conv => whnf) | ((with_reducible refine grd_and ?_); refine And.intro (n0) ?_; conv => whnf) | ((with_reducible refine grd_and ?_); refine And.intro (n1) ?_; conv => whnf) | ((with_reducible refine grd_and ?_); refine And.intro (n2) ?_; conv => whnf) | ((with_reducible refine WpR.loopU 5 ?_); conv => whnf) | ((with_reducible refine And.intro ?hh ?_); (case hh => exact condA); conv => whnf) | fail))
    all_goals first | (refine ⟨[], ?_, rfl, rfl, trivial, trivs⟩; simp only [renV, renL]; (first | done | rfl | (simp; done) | (simp; omega) | grind)) | (exfalso; omega)
  have e : allF 3 W = true := allF_t fun i hi => by
    match i, hi with
    | 0, _ => rw [w0]; exact decide_eq_true c0
    | 1, _ => rw [w1]; exact decide_eq_true c1
    | 2, _ => rw [w2]; exact decide_eq_true c2
  rw [e]
  have ec : crV (match true with | true => cut 3 fun k => dif Q k 0 | false => fun _ => 0) = .agg [.int .i64 (u0.tdiv dn), .int .i64 ((u1.tdiv dn) - (u0.tdiv dn)), .int .i64 (((u2.tdiv dn) - (u1.tdiv dn)) - ((u1.tdiv dn) - (u0.tdiv dn))), .int .i64 0] := by simp [crV, cut, dif, q0, q1, q2]
  rw [ec]
  clear ec e
  refine CallOk.run0 Try.func80 rfl rfl rfl rfl rfl (WpR.of_vc ?_)
  (conv => whnf); (repeat' (first | ((with_reducible refine ifb_mk (fun hc => ?_) (fun hc => ?_)) <;> ((try simp only [decide_eq_true_eq, decide_eq_false_iff_not, Bool.not_eq_true', Bool.not_eq_false', Int.not_lt, Int.not_le, ne_eq, Decidable.not_not, beq_iff_eq, List.cons.injEq, and_true] at hc); (first | (exfalso; omega) | exact absurd True.intro hc | conv => whnf))) | ((with_reducible refine And.intro True.intro ?_); conv => whnf) | ((with_reducible refine CallX.all ?_); refine CallW.of_ok (k0 _) ?_; conv => whnf) | ((with_reducible refine CallX.all ?_); refine CallW.of_ok (k1 _) ?_; conv => whnf) | ((with_reducible refine CallX.all ?_); refine CallW.of_ok (k2 _) ?_; conv => whnf) | ((with_reducible refine grd_and ?_); refine And.intro (y0) ?_; conv => whnf) | ((with_reducible refine grd_and ?_); refine And.intro (m0) ?_; conv => whnf) | ((with_reducible refine grd_and ?_); refine And.intro (m1) ?_; conv => whnf) | ((with_reducible refine grd_and ?_); refine And.intro (m2) ?_; conv => whnf) | ((with_reducible refine grd_and ?_); refine And.intro (n0) ?_; conv => whnf) | ((with_reducible refine grd_and ?_); refine And.intro (n1) ?_; conv => whnf) | ((with_reducible refine grd_and ?_); refine And.intro (n2) ?_; conv => whnf) | ((with_reducible refine WpR.loopU 5 ?_); conv => whnf) | ((with_reducible refine CallX.all (f := 67) ?_); refine CallW.inline Try.func67 rfl rfl (Nat.le_of_ble_eq_true rfl) (WpR.of_vc ?_); conv => whnf) | ((with_reducible refine WpR.draw (id := 2) mixed [0, 1, 2, 3, 4] [0, 1, 0, 4, 15] ?hh ?_); (case hh => kernel_rfl); conv => whnf) | ((with_reducible refine WpR.draw (id := 16) mixed [0, 1, 2, 3, 4, 5, 6, 7, 8, 9] [0, 1, 3, 0, 8, 24, 56, 127, 255, 511] ?hh ?_); (case hh => kernel_rfl); conv => whnf) | ((with_reducible refine And.intro ?hh ?_); (case hh => exact condA); conv => whnf) | fail))
  all_goals first | (refine ⟨[], ?_, rfl, rfl, trivial, trivs⟩; simp only [renV, renL]; (first | done | rfl | (simp; done) | (simp; omega) | grind)) | (exfalso; omega)
set_option maxHeartbeats 8000000 in
theorem through4 (h : As.H) (ex : Bool) (x y : Nat → Int) (hD : Dy 4 x) (hy : Pl 4 y) :
    CallOk Try.prog 80 [.rsl ex 2 4 (lkG x y)] h (.tup [crV (thP 4 x y), .bool (alW 4 x y)]) h := by
  have k0 := fun h' => placeBy_ok h' ex 4 x y 0 hD hy (by omega)
  have b0 := qP_bd hD hy (d := 0) (by omega)
  have k1 := fun h' => placeBy_ok h' ex 4 x y 1 hD hy (by omega)
  have b1 := qP_bd hD hy (d := 1) (by omega)
  have k2 := fun h' => placeBy_ok h' ex 4 x y 2 hD hy (by omega)
  have b2 := qP_bd hD hy (d := 2) (by omega)
  have k3 := fun h' => placeBy_ok h' ex 4 x y 3 hD hy (by omega)
  have b3 := qP_bd hD hy (d := 3) (by omega)
  have hdp : 0 < trP (df x) 4 ∧ trP (df x) 4 ≤ 46656000000 := ⟨den_pos hD, den_le hD⟩
  unfold thP alW csP
  have w : ∀ d, whP 4 x y d = decide ((nuP 4 x y d 4).tmod (trP (df x) 4) = 0) := fun d => rfl
  have q : ∀ d, qP 4 x y d = (nuP 4 x y d 4).tdiv (trP (df x) 4) := fun d => rfl
  have w0 := w 0
  have q0 := q 0
  have w1 := w 1
  have q1 := q 1
  have w2 := w 2
  have q2 := q 2
  have w3 := w 3
  have q3 := q 3
  clear w q
  generalize hW : whP 4 x y = W at *
  generalize hQ : qP 4 x y = Q at *
  rw [show ((0 : Nat) : Int) = 0 from rfl] at w0 q0
  rw [show ((1 : Nat) : Int) = 1 from rfl] at w1 q1
  rw [show ((2 : Nat) : Int) = 2 from rfl] at w2 q2
  rw [show ((3 : Nat) : Int) = 3 from rfl] at w3 q3
  generalize nuP 4 x y 0 4 = u0 at *
  generalize nuP 4 x y 1 4 = u1 at *
  generalize nuP 4 x y 2 4 = u2 at *
  generalize nuP 4 x y 3 4 = u3 at *
  generalize trP (df x) 4 = dn at *
  have y0 : dn ≠ 0 := by omega
  have m0 := tmod_bd (a := u0) hdp
  have n0 : InR (u0.tdiv dn) := by rw [← q0]; unfold InR; omega
  rw [q0] at b0
  have m1 := tmod_bd (a := u1) hdp
  have n1 : InR (u1.tdiv dn) := by rw [← q1]; unfold InR; omega
  rw [q1] at b1
  have m2 := tmod_bd (a := u2) hdp
  have n2 : InR (u2.tdiv dn) := by rw [← q2]; unfold InR; omega
  rw [q2] at b2
  have m3 := tmod_bd (a := u3) hdp
  have n3 : InR (u3.tdiv dn) := by rw [← q3]; unfold InR; omega
  rw [q3] at b3
  by_cases c0 : u0.tmod dn = 0
  rotate_left
  · have e : allF 4 W = false := allF_f (i := 0) (by omega) (by rw [w0]; exact decide_eq_false c0)
    rw [e]
    refine CallOk.run0 Try.func80 rfl rfl rfl rfl rfl (WpR.of_vc ?_)
    (conv => whnf); (repeat' (first | ((with_reducible refine ifb_mk (fun hc => ?_) (fun hc => ?_)) <;> ((try simp only [decide_eq_true_eq, decide_eq_false_iff_not, Bool.not_eq_true', Bool.not_eq_false', Int.not_lt, Int.not_le, ne_eq, Decidable.not_not, beq_iff_eq, List.cons.injEq, and_true] at hc); (first | (exfalso; omega) | exact absurd True.intro hc | conv => whnf))) | ((with_reducible refine And.intro True.intro ?_); conv => whnf) | ((with_reducible refine CallX.all ?_); refine CallW.of_ok (k0 _) ?_; conv => whnf) | ((with_reducible refine grd_and ?_); refine And.intro (y0) ?_; conv => whnf) | ((with_reducible refine grd_and ?_); refine And.intro (m0) ?_; conv => whnf) | ((with_reducible refine grd_and ?_); refine And.intro (n0) ?_; conv => whnf) | ((with_reducible refine WpR.loopU 5 ?_); conv => whnf) | ((with_reducible refine And.intro ?hh ?_); (case hh => exact condA); conv => whnf) | fail))
    all_goals first | (refine ⟨[], ?_, rfl, rfl, trivial, trivs⟩; simp only [renV, renL]; (first | done | rfl | (simp; done) | (simp; omega) | grind)) | (exfalso; omega)
  by_cases c1 : u1.tmod dn = 0
  rotate_left
  · have e : allF 4 W = false := allF_f (i := 1) (by omega) (by rw [w1]; exact decide_eq_false c1)
    rw [e]
    refine CallOk.run0 Try.func80 rfl rfl rfl rfl rfl (WpR.of_vc ?_)
    (conv => whnf); (repeat' (first | ((with_reducible refine ifb_mk (fun hc => ?_) (fun hc => ?_)) <;> ((try simp only [decide_eq_true_eq, decide_eq_false_iff_not, Bool.not_eq_true', Bool.not_eq_false', Int.not_lt, Int.not_le, ne_eq, Decidable.not_not, beq_iff_eq, List.cons.injEq, and_true] at hc); (first | (exfalso; omega) | exact absurd True.intro hc | conv => whnf))) | ((with_reducible refine And.intro True.intro ?_); conv => whnf) | ((with_reducible refine CallX.all ?_); refine CallW.of_ok (k0 _) ?_; conv => whnf) | ((with_reducible refine CallX.all ?_); refine CallW.of_ok (k1 _) ?_; conv => whnf) | ((with_reducible refine grd_and ?_); refine And.intro (y0) ?_; conv => whnf) | ((with_reducible refine grd_and ?_); refine And.intro (m0) ?_; conv => whnf) | ((with_reducible refine grd_and ?_); refine And.intro (m1) ?_; conv => whnf) | ((with_reducible refine grd_and ?_); refine And.intro (n0) ?_; conv => whnf) | ((with_reducible refine grd_and ?_); refine And.intro (n1) ?_; conv => whnf) | ((with_reducible refine WpR.loopU 5 ?_); conv => whnf) | ((with_reducible refine And.intro ?hh ?_); (case hh => exact condA); conv => whnf) | fail))
    all_goals first | (refine ⟨[], ?_, rfl, rfl, trivial, trivs⟩; simp only [renV, renL]; (first | done | rfl | (simp; done) | (simp; omega) | grind)) | (exfalso; omega)
  by_cases c2 : u2.tmod dn = 0
  rotate_left
  · have e : allF 4 W = false := allF_f (i := 2) (by omega) (by rw [w2]; exact decide_eq_false c2)
    rw [e]
    refine CallOk.run0 Try.func80 rfl rfl rfl rfl rfl (WpR.of_vc ?_)
    (conv => whnf); (repeat' (first | ((with_reducible refine ifb_mk (fun hc => ?_) (fun hc => ?_)) <;> ((try simp only [decide_eq_true_eq, decide_eq_false_iff_not, Bool.not_eq_true', Bool.not_eq_false', Int.not_lt, Int.not_le, ne_eq, Decidable.not_not, beq_iff_eq, List.cons.injEq, and_true] at hc); (first | (exfalso; omega) | exact absurd True.intro hc | conv => whnf))) | ((with_reducible refine And.intro True.intro ?_); conv => whnf) | ((with_reducible refine CallX.all ?_); refine CallW.of_ok (k0 _) ?_; conv => whnf) | ((with_reducible refine CallX.all ?_); refine CallW.of_ok (k1 _) ?_; conv => whnf) | ((with_reducible refine CallX.all ?_); refine CallW.of_ok (k2 _) ?_; conv => whnf) | ((with_reducible refine grd_and ?_); refine And.intro (y0) ?_; conv => whnf) | ((with_reducible refine grd_and ?_); refine And.intro (m0) ?_; conv => whnf) | ((with_reducible refine grd_and ?_); refine And.intro (m1) ?_; conv => whnf) | ((with_reducible refine grd_and ?_); refine And.intro (m2) ?_; conv => whnf) | ((with_reducible refine grd_and ?_); refine And.intro (n0) ?_; conv => whnf) | ((with_reducible refine grd_and ?_); refine And.intro (n1) ?_; conv => whnf) | ((with_reducible refine grd_and ?_); refine And.intro (n2) ?_; conv => whnf) | ((with_reducible refine WpR.loopU 5 ?_); conv => whnf) | ((with_reducible refine And.intro ?hh ?_); (case hh => exact condA); conv => whnf) | fail))
    all_goals first | (refine ⟨[], ?_, rfl, rfl, trivial, trivs⟩; simp only [renV, renL]; (first | done | rfl | (simp; done) | (simp; omega) | grind)) | (exfalso; omega)
  by_cases c3 : u3.tmod dn = 0
  rotate_left
  · have e : allF 4 W = false := allF_f (i := 3) (by omega) (by rw [w3]; exact decide_eq_false c3)
    rw [e]
    refine CallOk.run0 Try.func80 rfl rfl rfl rfl rfl (WpR.of_vc ?_)
    (conv => whnf); (repeat' (first | ((with_reducible refine ifb_mk (fun hc => ?_) (fun hc => ?_)) <;> ((try simp only [decide_eq_true_eq, decide_eq_false_iff_not, Bool.not_eq_true', Bool.not_eq_false', Int.not_lt, Int.not_le, ne_eq, Decidable.not_not, beq_iff_eq, List.cons.injEq, and_true] at hc); (first | (exfalso; omega) | exact absurd True.intro hc | conv => whnf))) | ((with_reducible refine And.intro True.intro ?_); conv => whnf) | ((with_reducible refine CallX.all ?_); refine CallW.of_ok (k0 _) ?_; conv => whnf) | ((with_reducible refine CallX.all ?_); refine CallW.of_ok (k1 _) ?_; conv => whnf) | ((with_reducible refine CallX.all ?_); refine CallW.of_ok (k2 _) ?_; conv => whnf) | ((with_reducible refine CallX.all ?_); refine CallW.of_ok (k3 _) ?_; conv => whnf) | ((with_reducible refine grd_and ?_); refine And.intro (y0) ?_; conv => whnf) | ((with_reducible refine grd_and ?_); refine And.intro (m0) ?_; conv => whnf) | ((with_reducible refine grd_and ?_); refine And.intro (m1) ?_; conv => whnf) | ((with_reducible refine grd_and ?_); refine And.intro (m2) ?_; conv => whnf) | ((with_reducible refine grd_and ?_); refine And.intro (m3) ?_; conv => whnf) | ((with_reducible refine grd_and ?_); refine And.intro (n0) ?_; conv => whnf) | ((with_reducible refine grd_and ?_); refine And.intro (n1) ?_; conv => whnf) | ((with_reducible refine grd_and ?_); refine And.intro (n2) ?_; conv => whnf) | ((with_reducible refine grd_and ?_); refine And.intro (n3) ?_; conv => whnf) | ((with_reducible refine WpR.loopU 5 ?_); conv => whnf) | ((with_reducible refine And.intro ?hh ?_); (case hh => exact condA); conv => whnf) | fail))
    all_goals first | (refine ⟨[], ?_, rfl, rfl, trivial, trivs⟩; simp only [renV, renL]; (first | done | rfl | (simp; done) | (simp; omega) | grind)) | (exfalso; omega)
  have e : allF 4 W = true := allF_t fun i hi => by
    match i, hi with
    | 0, _ => rw [w0]; exact decide_eq_true c0
    | 1, _ => rw [w1]; exact decide_eq_true c1
    | 2, _ => rw [w2]; exact decide_eq_true c2
    | 3, _ => rw [w3]; exact decide_eq_true c3
  rw [e]
  have ec : crV (match true with | true => cut 4 fun k => dif Q k 0 | false => fun _ => 0) = .agg [.int .i64 (u0.tdiv dn), .int .i64 ((u1.tdiv dn) - (u0.tdiv dn)), .int .i64 (((u2.tdiv dn) - (u1.tdiv dn)) - ((u1.tdiv dn) - (u0.tdiv dn))), .int .i64 ((((u3.tdiv dn) - (u2.tdiv dn)) - ((u2.tdiv dn) - (u1.tdiv dn))) - (((u2.tdiv dn) - (u1.tdiv dn)) - ((u1.tdiv dn) - (u0.tdiv dn))))] := by simp [crV, cut, dif, q0, q1, q2, q3]
  rw [ec]
  clear ec e
  refine CallOk.run0 Try.func80 rfl rfl rfl rfl rfl (WpR.of_vc ?_)
  (conv => whnf); (repeat' (first | ((with_reducible refine ifb_mk (fun hc => ?_) (fun hc => ?_)) <;> ((try simp only [decide_eq_true_eq, decide_eq_false_iff_not, Bool.not_eq_true', Bool.not_eq_false', Int.not_lt, Int.not_le, ne_eq, Decidable.not_not, beq_iff_eq, List.cons.injEq, and_true] at hc); (first | (exfalso; omega) | exact absurd True.intro hc | conv => whnf))) | ((with_reducible refine And.intro True.intro ?_); conv => whnf) | ((with_reducible refine CallX.all ?_); refine CallW.of_ok (k0 _) ?_; conv => whnf) | ((with_reducible refine CallX.all ?_); refine CallW.of_ok (k1 _) ?_; conv => whnf) | ((with_reducible refine CallX.all ?_); refine CallW.of_ok (k2 _) ?_; conv => whnf) | ((with_reducible refine CallX.all ?_); refine CallW.of_ok (k3 _) ?_; conv => whnf) | ((with_reducible refine grd_and ?_); refine And.intro (y0) ?_; conv => whnf) | ((with_reducible refine grd_and ?_); refine And.intro (m0) ?_; conv => whnf) | ((with_reducible refine grd_and ?_); refine And.intro (m1) ?_; conv => whnf) | ((with_reducible refine grd_and ?_); refine And.intro (m2) ?_; conv => whnf) | ((with_reducible refine grd_and ?_); refine And.intro (m3) ?_; conv => whnf) | ((with_reducible refine grd_and ?_); refine And.intro (n0) ?_; conv => whnf) | ((with_reducible refine grd_and ?_); refine And.intro (n1) ?_; conv => whnf) | ((with_reducible refine grd_and ?_); refine And.intro (n2) ?_; conv => whnf) | ((with_reducible refine grd_and ?_); refine And.intro (n3) ?_; conv => whnf) | ((with_reducible refine WpR.loopU 5 ?_); conv => whnf) | ((with_reducible refine CallX.all (f := 67) ?_); refine CallW.inline Try.func67 rfl rfl (Nat.le_of_ble_eq_true rfl) (WpR.of_vc ?_); conv => whnf) | ((with_reducible refine WpR.draw (id := 2) mixed [0, 1, 2, 3, 4] [0, 1, 0, 4, 15] ?hh ?_); (case hh => kernel_rfl); conv => whnf) | ((with_reducible refine WpR.draw (id := 16) mixed [0, 1, 2, 3, 4, 5, 6, 7, 8, 9] [0, 1, 3, 0, 8, 24, 56, 127, 255, 511] ?hh ?_); (case hh => kernel_rfl); conv => whnf) | ((with_reducible refine And.intro ?hh ?_); (case hh => exact condA); conv => whnf) | fail))
  all_goals first | (refine ⟨[], ?_, rfl, rfl, trivial, trivs⟩; simp only [renV, renL]; (first | done | rfl | (simp; done) | (simp; omega) | grind)) | (exfalso; omega)
theorem through_ok (h : As.H) (ex : Bool) (n : Nat) (x y : Nat → Int) (hD : Dy n x) (hy : Pl n y) :
    CallOk Try.prog 80 [.rsl ex 2 n (lkG x y)] h (.tup [crV (thP n x y), .bool (alW n x y)]) h := by
  have hn := hD.le
  match n, hn with
  | 0, _ => exact through0 h ex x y hD hy
  | 1, _ => exact through1 h ex x y hD hy
  | 2, _ => exact through2 h ex x y hD hy
  | 3, _ => exact through3 h ex x y hD hy
  | 4, _ => exact through4 h ex x y hD hy
end Go.Proofs.K
