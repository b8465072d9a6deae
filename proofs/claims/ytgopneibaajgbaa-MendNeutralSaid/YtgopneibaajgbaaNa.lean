/- What the functions answer that the laws call, one after another (Na). -/
import Derived.Test.YtgopneibaajgbaaAs6
import Derived.Test.YtgopneibaajgbaaKt
import Derived.Test.YtgopneibaajgbaaB3

set_option linter.unusedVariables false
namespace Go.Proofs.H
open Go.As
set_option maxRecDepth 20000
set_option linter.unusedVariables false
set_option linter.unusedSimpArgs false

/-! ### The neutral plate -/

theorem max_at : ∀ (n : Nat) (g : Nat → Int), 1 ≤ n → ∃ k, k < n ∧ ∀ j, j < n → g j ≤ g k
  | 0, _, h => by omega
  | 1, g, _ => ⟨0, by omega, fun j hj => by rw [show j = 0 from by omega]; exact Int.le_refl _⟩
  | n + 2, g, _ => by
    obtain ⟨k, hk, h⟩ := max_at (n + 1) g (by omega)
    by_cases hc : g k ≤ g (n + 1)
    · exact ⟨n + 1, by omega, fun j hj => by
        by_cases e : j = n + 1
        · subst e; exact Int.le_refl _
        · have := h j (by omega); omega⟩
    · exact ⟨k, by omega, fun j hj => by
        by_cases e : j = n + 1
        · subst e; omega
        · exact h j (by omega)⟩
section
variable {W H n : Nat} {c v a x y : Nat → Int}
/-- What is left of looks at a set. -/
theorem dl_F (hW : 1 ≤ W ∧ W ≤ 6) (hH : 1 ≤ H ∧ H ≤ 6) (hn : n = W * H) (F : Nat → Bool) {i : Nat} (hi : i < n) : dl n (adI W H) (fun k => bI (F k)) i = 4 * bI (F i) - nF W H F i := by
  have g : Gr n (adI W H) (wgt W) := by rw [hn]; exact gr_ok hW hH
  unfold Go.Proofs.H.dl
  rw [nF_sum hW hH hn F hi, sm_congr (f := fun k => adI W H i k * bI (F k)) fun k hk => by rw [g.sym i k hi hk]]
theorem nF_nn (W H : Nat) (F : Nat → Bool) (i : Nat) : 0 ≤ nF W H F i := by
  unfold nF
  refine sm_nn fun k _ => ?_
  split
  · unfold bI; split <;> omega
  · omega
theorem bI_rng (b : Bool) : 0 ≤ bI b ∧ bI b ≤ 1 := by cases b <;> exact ⟨by decide, by decide⟩
/-- A plate that comes back differs from no other flat one by what was hit too seldom. -/
theorem gle (hW : 1 ≤ W ∧ W ≤ 6) (hH : 1 ≤ H ∧ H ≤ 6) (hn : n = W * H) (hx : ¬ ∃ F, Fb W H n x F) (hy : ∀ k, k < n → y k ≤ 3) {g : Nat → Int} (he : ∀ k, k < n → y k = x k + dl n (adI W H) g k) : ∀ k, k < n → g k ≤ 0 := by
  have gr : Gr n (adI W H) (wgt W) := by rw [hn]; exact gr_ok hW hH
  have hwh := wh_le hW hH
  intro k0 hk0
  apply Classical.byContradiction
  intro hc
  obtain ⟨m, hm, hmax⟩ := max_at n g (by omega)
  have hM := hmax k0 hk0
  refine hx ⟨fun k => decide (g k = g m), ⟨m, hm, decide_eq_true rfl⟩, fun i hi hF => ?_⟩
  have hgi : g i = g m := of_decide_eq_true hF
  have h1 := he i hi
  have h2 := hy i hi
  have h3 : sm n (fun k => adI W H i k * g k) ≤ (g m - 1) * sm n (adI W H i) + nF W H (fun k => decide (g k = g m)) i := by
    rw [nF_sum hW hH hn _ hi, ← sm_mul, ← sm_add]
    refine sm_le fun k hk => ?_
    (try dsimp only)
    rw [gr.sym k i hk hi]
    have hA := gr.nn i k
    have hb : g k ≤ g m - 1 + bI (decide (g k = g m)) := by
      by_cases e : g k = g m
      · rw [decide_eq_true e]; show g k ≤ g m - 1 + 1; omega
      · rw [decide_eq_false e]; show g k ≤ g m - 1 + 0; have := hmax k hk; omega
    have h4 := Int.mul_le_mul_of_nonneg_left hb hA
    rw [Int.mul_add, Int.mul_comm (adI W H i k) (g m - 1)] at h4
    exact h4
  have h5 : (g m - 1) * sm n (adI W H i) ≤ (g m - 1) * 4 := Int.mul_le_mul_of_nonneg_left (gr.deg i hi) (by omega)
  unfold Go.Proofs.H.dl at h1
  rw [hgi] at h1
  omega
theorem same_of (hW : 1 ≤ W ∧ W ≤ 6) (hH : 1 ≤ H ∧ H ≤ 6) (hn : n = W * H) (hx : ¬ ∃ F, Fb W H n x F) (hy : ¬ ∃ F, Fb W H n y F) (hx3 : ∀ k, k < n → x k ≤ 3) (hy3 : ∀ k, k < n → y k ≤ 3) {g : Nat → Int} (he : ∀ k, k < n → y k = x k + dl n (adI W H) g k) : ∀ k, k < n → y k = x k := by
  have h1 := gle hW hH hn hx hy3 he
  have h2 := gle (g := fun k => 0 - g k) hW hH hn hy hx3 fun k hk => by
    have := dl_sub (n := n) (A := adI W H) (fun _ => 0) g k
    rw [this, dl_0, he k hk]; omega
  intro k hk
  have h0 : dl n (adI W H) g k = dl n (adI W H) (fun _ => 0) k := dl_congr hk fun j hj => by have a1 := h1 j hj; have a2 := h2 j hj; (try dsimp only at a2); omega
  rw [he k hk, h0, dl_0]; omega
/-- The neutral plate: flat, it comes back, and blows alone lead to it. -/
structure Neu (W H n : Nat) (c : Nat → Int) : Prop where
  fl : ∀ k, k < n → 0 ≤ c k ∧ c k ≤ 3
  bk : ¬ ∃ F, Fb W H n c F
  im : ∃ v, ∀ k, k < n → c k = dl n (adI W H) v k
theorem Neu.uniq (hW : 1 ≤ W ∧ W ≤ 6) (hH : 1 ≤ H ∧ H ≤ 6) (hn : n = W * H) {c d : Nat → Int} (p : Neu W H n c) (q : Neu W H n d) : ∀ k, k < n → d k = c k := by
  obtain ⟨v, hv⟩ := p.im
  obtain ⟨u, hu⟩ := q.im
  refine same_of hW hH hn p.bk q.bk (fun k hk => (p.fl k hk).2) (fun k hk => (q.fl k hk).2) (g := fun k => u k - v k) fun k hk => ?_
  rw [dl_sub, hv k hk, hu k hk]; omega
/-- On the way to it. -/
structure Nv (W H n : Nat) (c v : Nat → Int) : Prop where
  fl : ∀ k, k < n → 0 ≤ c k ∧ c k ≤ 3
  eq : ∀ k, k < n → c k = dl n (adI W H) v k
  vn : ∀ k, k < n → 0 ≤ v k
theorem dl_one (hW : 1 ≤ W ∧ W ≤ 6) (hH : 1 ≤ H ∧ H ≤ 6) (hn : n = W * H) : ∀ k, k < n → 0 ≤ dl n (adI W H) (fun _ => 1) k ∧ dl n (adI W H) (fun _ => 1) k ≤ 4 := fun k hk => by
  have gr : Gr n (adI W H) (wgt W) := by rw [hn]; exact gr_ok hW hH
  have h1 := gr.deg k hk
  have h2 : 0 ≤ sm n (adI W H k) := sm_nn fun j _ => gr.nn k j
  have e : sm n (fun j => adI W H k j * 1) = sm n (adI W H k) := sm_congr fun j _ => Int.mul_one _
  unfold Go.Proofs.H.dl
  dsimp only
  rw [e]; omega
theorem Nv.sum (hW : 1 ≤ W ∧ W ≤ 6) (hH : 1 ≤ H ∧ H ≤ 6) (hn : n = W * H) (s : Nv W H n c v) : 0 ≤ sm n v ∧ sm n v ≤ 1296 := by
  have gr : Gr n (adI W H) (wgt W) := by rw [hn]; exact gr_ok hW hH
  have hwh := wh_le hW hH
  refine ⟨sm_nn s.vn, ?_⟩
  have h1 := dl_sym gr v (wgt W)
  have h2 : sm n (fun k => wgt W k * dl n (adI W H) v k) ≤ sm n (fun _ => (36 : Int)) := sm_le fun k hk => by
    have a1 := gr.w1 k hk
    have a2 := wgt_le hW hH k (by rw [← hn]; exact hk)
    have a3 := s.fl k hk
    rw [← s.eq k hk]
    have a4 : wgt W k * c k ≤ 12 * 3 := Int.mul_le_mul a2 a3.2 a3.1 (by omega)
    omega
  have h3 : sm n (fun k => 2 * v k) ≤ sm n (fun k => v k * dl n (adI W H) (wgt W) k) := sm_le fun k hk => by
    have a1 := gr.wd k hk
    have a2 := s.vn k hk
    have a3 : v k * 2 ≤ v k * dl n (adI W H) (wgt W) k := Int.mul_le_mul_of_nonneg_left a1 a2
    (try dsimp only)
    rw [Int.mul_comm]; exact a3
  rw [sm_mul] at h3
  rw [sm_c] at h2
  have : (n : Int) ≤ 36 := by omega
  have h4 : (n : Int) * 36 ≤ 36 * 36 := Int.mul_le_mul_of_nonneg_right this (by omega)
  omega
/-- One round. -/
theorem Nv.step (hW : 1 ≤ W ∧ W ≤ 6) (hH : 1 ≤ H ∧ H ≤ 6) (hn : n = W * H) (s : Nv W H n c v) (ha : ∀ k, k < n → a k = c k + dl n (adI W H) (fun _ => 1) k) :
    Nv W H n (fin n (adI W H) (wgt W) a).1 (fun k => v k + (1 - (fin n (adI W H) (wgt W) a).2 k)) ∧
    ((∀ k, k < n → (fin n (adI W H) (wgt W) a).1 k = c k) → Neu W H n c) ∧
    ((¬ ∀ k, k < n → (fin n (adI W H) (wgt W) a).1 k = c k) → sm n v < sm n (fun k => v k + (1 - (fin n (adI W H) (wgt W) a).2 k))) ∧
    (∀ k, k < n → 0 ≤ (fin n (adI W H) (wgt W) a).2 k ∧ (fin n (adI W H) (wgt W) a).2 k ≤ 1) ∧ ∀ k, k < n → 0 ≤ a k ∧ a k ≤ 7 := by
  have gr : Gr n (adI W H) (wgt W) := by rw [hn]; exact gr_ok hW hH
  have h1 := dl_one hW hH hn
  have ha0 : ∀ k, k < n → 0 ≤ a k ∧ a k ≤ 7 := fun k hk => by have := s.fl k hk; have := h1 k hk; rw [ha k hk]; omega
  have m := fin_mid gr fun k hk => (ha0 k hk).1
  have f := fin_flat gr fun k hk => (ha0 k hk).1
  have hle := m.least (fun _ => 1) (fun k hk => by (try dsimp only); omega) fun k hk => by rw [ha k hk]; have := s.fl k hk; omega
  have hu : ∀ k, k < n → 0 ≤ (fin n (adI W H) (wgt W) a).2 k ∧ (fin n (adI W H) (wgt W) a).2 k ≤ 1 := fun k hk => ⟨m.vn k hk, hle k hk⟩
  have heq : ∀ k, k < n → (fin n (adI W H) (wgt W) a).1 k = c k + dl n (adI W H) (fun k => 1 - (fin n (adI W H) (wgt W) a).2 k) k := fun k hk => by
    rw [dl_sub, m.eq k hk, ha k hk]; omega
  have hlst := m.least
  have hnn := m.nn
  clear m
  generalize (fin n (adI W H) (wgt W) a).2 = u at *
  generalize (fin n (adI W H) (wgt W) a).1 = c' at *
  refine ⟨⟨fun k hk => ⟨hnn k hk, f k hk⟩, fun k hk => by rw [heq k hk, dl_add, s.eq k hk], fun k hk => by have := hu k hk; have := s.vn k hk; (try dsimp only); omega⟩, fun hc => ?_, fun hc => ?_, hu, ha0⟩
  · have hz : ∀ k, k < n → dl n (adI W H) (fun k => 1 - u k) k = 0 := fun k hk => by have := heq k hk; have := hc k hk; omega
    have h2 := dl_sym gr (fun k => 1 - u k) (wgt W)
    have h3 : sm n (fun k => wgt W k * dl n (adI W H) (fun k => 1 - u k) k) = sm n (fun _ => 0) := sm_congr fun k hk => by rw [hz k hk, Int.mul_zero]
    have h4 : sm n (fun k => 2 * (1 - u k)) ≤ sm n (fun k => (1 - u k) * dl n (adI W H) (wgt W) k) := sm_le fun k hk => by
      have a1 := gr.wd k hk
      have a2 := hu k hk
      have a3 : (1 - u k) * 2 ≤ (1 - u k) * dl n (adI W H) (wgt W) k := Int.mul_le_mul_of_nonneg_left a1 (by omega)
      (try dsimp only)
      rw [Int.mul_comm]; exact a3
    rw [sm_0] at h3
    rw [sm_mul] at h4
    have h5 : ∀ k, k < n → u k = 1 := fun k hk => by
      have := sm_ge (n := n) (f := fun k => 1 - u k) (fun j hj => by have := hu j hj; (try dsimp only); omega) hk
      (try dsimp only at this)
      have := hu k hk
      omega
    refine ⟨s.fl, ?_, ⟨v, s.eq⟩⟩
    rintro ⟨F, hF⟩
    obtain ⟨i, hi, hFi⟩ := hF.one
    have h6 := hlst (fun k => 1 - bI (F k)) (fun k hk => by have := bI_rng (F k); (try dsimp only); omega) (fun k hk => by
      have e := dl_F hW hH hn F hk
      have e2 := nF_nn W H F k
      have e3 := s.fl k hk
      rw [ha k hk, dl_sub]
      cases hk2 : F k with
      | true =>
        have e4 := hF.few k hk hk2
        rw [hk2] at e
        have e5 : bI true = 1 := rfl
        rw [e5] at e
        omega
      | false =>
        rw [hk2] at e
        have e5 : bI false = 0 := rfl
        rw [e5] at e
        omega) i hi
    (try dsimp only at h6)
    rw [hFi, h5 i hi] at h6
    have e5 : bI true = 1 := rfl
    omega
  · apply Classical.byContradiction
    intro hlt
    refine hc fun k hk => ?_
    have h2 : sm n (fun k => 1 - u k) = 0 := by
      have e := sm_add n v (fun k => 1 - u k)
      have := sm_nn (n := n) (f := fun k => 1 - u k) fun j hj => by have := hu j hj; (try dsimp only); omega
      omega
    have h5 : ∀ k, k < n → 1 - u k = 0 := fun k hk => by
      have := sm_ge (n := n) (f := fun k => 1 - u k) (fun j hj => by have := hu j hj; (try dsimp only); omega) hk
      (try dsimp only at this)
      have := hu k hk
      omega
    rw [heq k hk, dl_congr hk h5, dl_0]; omega
open Classical in
end
end Go.Proofs.H

namespace Go.Proofs.H
open Go.As
set_option maxRecDepth 20000
set_option linter.unusedVariables false
set_option linter.unusedSimpArgs false

/-! ### How the neutral plate is made -/

theorem adI_ge {W H n i k : Nat} (hW : 1 ≤ W ∧ W ≤ 6) (hH : 1 ≤ H ∧ H ≤ 6) (hn : n = W * H) (hi : i < n) (hk : n ≤ k) : adI W H k i = 0 := by
  unfold adI
  rw [sm_congr (g := fun _ => 0) fun j hj => ?_, sm_0]
  cases hp : nbP W H i j with
  | false => rfl
  | true =>
    have hlt : nbI W i j < n := by rw [hn]; exact (grid_at hW hH (by rw [← hn]; exact hi)).2.2.2.2.2.2 j hj hp
    cases hb : Nat.beq k (nbI W i j) with
    | false => rfl
    | true => have := Nat.eq_of_beq_eq_true hb; omega
section
variable {W H n : Nat}
theorem itr_ge (hW : 1 ≤ W ∧ W ≤ 6) (hH : 1 ≤ H ∧ H ≤ 6) (hn : n = W * H) {k : Nat} (hk : n ≤ k) : ∀ (m : Nat) (s : F2), (itr n (adI W H) m s).1 k = s.1 k
  | 0, s => rfl
  | m + 1, s => by
    show (itr n (adI W H) m (stp n (adI W H) s)).1 k = _
    rw [itr_ge hW hH hn hk m]
    unfold stp
    split
    · rename_i h
      show hitA (adI W H) s.1 (fst4 s.1 n) _ k = _
      unfold hitA
      rw [if_neg (by omega), adI_ge hW hH hn h hk]; omega
    · rfl
/-- The numbers behind j blows that were taken back, one at each place. -/
def hA (W H : Nat) (c : Nat → Int) : Nat → Nat → Int
  | 0 => c
  | j + 1 => hitA (adI W H) (hA W H c j) j (-1)
def hU (u : Nat → Int) : Nat → Nat → Int
  | 0 => u
  | j + 1 => rs (hU u j) j (-1)
def hM (W H : Nat) (c : Nat → Int) (E : List En) (cl : Nat) : Nat → List En × Nat
  | 0 => (E, cl)
  | j + 1 => hitE W H (hA W H c j) (hM W H c E cl j).1 (hM W H c E cl j).2 j (-1) 4
theorem hM_ok (hW : 1 ≤ W ∧ W ≤ 6) (hH : 1 ≤ H ∧ H ≤ 6) {c : Nat → Int} {E : List En} (cl : Nat) (m : MapOk W (W * H) c E) : ∀ j, j ≤ W * H → MapOk W (W * H) (hA W H c j) (hM W H c E cl j).1
  | 0, _ => m
  | j + 1, hj => by
    have := hitE_ok hW hH (hM_ok hW hH cl m j (by omega)) (i := j) (by omega) (-1) (hM W H c E cl j).2 4 (Nat.le_refl _)
    rw [hitJ_4] at this
    exact this
theorem hA_at {c : Nat → Int} {k : Nat} (hk : k < n) : ∀ j, j ≤ n → hA W H c j k = c k + dl n (adI W H) (fun q => if q < j then 1 else 0) k
  | 0, _ => by
    have : dl n (adI W H) (fun q => if q < 0 then 1 else 0) k = dl n (adI W H) (fun _ => 0) k := dl_congr hk fun q _ => if_neg (Nat.not_lt_zero _)
    rw [this, dl_0]; show c k = _; omega
  | j + 1, hj => by
    show hitA (adI W H) (hA W H c j) j (-1) k = _
    rw [hit_dl (n := n) _ (by omega), hA_at hk j (by omega)]
    have : dl n (adI W H) (fun q => if q < j + 1 then 1 else 0) k = dl n (adI W H) (fun q => (if q < j then 1 else 0) - ee j (-1) q) k := dl_congr hk fun q _ => by
      unfold ee
      by_cases h1 : q = j
      · subst h1; rw [if_pos (by omega), if_neg (by omega), if_pos rfl]; rfl
      · by_cases h2 : q < j
        · rw [if_pos (by omega), if_pos h2, if_neg h1]; rfl
        · rw [if_neg (by omega), if_neg h2, if_neg h1]; rfl
    rw [this, dl_sub]; omega
theorem hA_ge (hW : 1 ≤ W ∧ W ≤ 6) (hH : 1 ≤ H ∧ H ≤ 6) (hn : n = W * H) {c : Nat → Int} {k : Nat} (hk : n ≤ k) : ∀ j, j ≤ n → hA W H c j k = c k
  | 0, _ => rfl
  | j + 1, hj => by
    show hitA (adI W H) (hA W H c j) j (-1) k = _
    unfold hitA
    rw [if_neg (by omega), adI_ge hW hH hn (by omega) hk, hA_ge hW hH hn hk j (by omega)]; omega
theorem hU_at {u : Nat → Int} {k : Nat} : ∀ j, hU u j k = u k - (if k < j then 1 else 0)
  | 0 => by rw [if_neg (by omega)]; show u k = _; omega
  | j + 1 => by
    show rs (hU u j) j (-1) k = _
    unfold rs
    rw [hU_at j]
    by_cases h1 : k = j
    · subst h1; rw [if_pos rfl, if_neg (by omega), if_pos (by omega)]; omega
    · rw [if_neg h1]
      by_cases h2 : k < j
      · rw [if_pos h2, if_pos (by omega)]
      · rw [if_neg h2, if_neg (by omega)]
theorem hA_rng (hW : 1 ≤ W ∧ W ≤ 6) (hH : 1 ≤ H ∧ H ≤ 6) (hn : n = W * H) {c : Nat → Int} (hc : ∀ k, k < n → 0 ≤ c k ∧ c k ≤ 3) {j k : Nat} (hj : j ≤ n) (hk : k < n) : -4 ≤ hA W H c j k ∧ hA W H c j k ≤ 7 := by
  have gr : Gr n (adI W H) (wgt W) := by rw [hn]; exact gr_ok hW hH
  rw [hA_at hk j hj]
  have h1 := gr.deg k hk
  have h2 : sm n (fun q => adI W H k q * (if q < j then 1 else 0)) ≤ sm n (adI W H k) := sm_le fun q _ => by
    have := gr.nn k q
    (try dsimp only)
    split <;> omega
  have h3 : 0 ≤ sm n (fun q => adI W H k q * (if q < j then 1 else 0)) := sm_nn fun q _ => by
    have := gr.nn k q
    (try dsimp only)
    split <;> omega
  have h4 := hc k hk
  unfold Go.Proofs.H.dl
  dsimp only
  split <;> omega
abbrev S3 := (Nat → Int) × (Nat → Int) × Nat
/-- A round, and rounds until nothing changes. -/
def rnd (W H : Nat) (s : S3) : S3 :=
  ((fin (W * H) (adI W H) (wgt W) (hA W H s.1 (W * H))).1, fun k => hU s.2.1 (W * H) k + (fin (W * H) (adI W H) (wgt W) (hA W H s.1 (W * H))).2 k, (finE W H (hA W H s.1 (W * H)) (hM W H s.1 [] s.2.2 (W * H)).1 (hM W H s.1 [] s.2.2 (W * H)).2).2.2)
def L36 (a : Nat → Int) : List Int := (List.range 36).map a
theorem aV_map (a : Nat → Int) : aV a = (L36 a).map (V.int .i64) := by unfold aV L36 arrV; rw [List.map_map]; rfl
theorem L36_iff {a b : Nat → Int} : L36 a = L36 b ↔ ∀ i, i < 36 → a i = b i := by
  unfold L36
  constructor
  · intro h i hi
    have h1 := congrArg (fun l => l[i]?) h
    rw [List.getElem?_map, List.getElem?_map, List.getElem?_range hi] at h1
    exact Option.some.inj h1
  · intro h
    exact List.map_congr_left fun i hi => h i (List.mem_range.1 hi)
def itN (W H : Nat) : Nat → S3 → S3
  | 0, s => s
  | m + 1, s => if L36 (rnd W H s).1 = L36 s.1 then rnd W H s else itN W H m (rnd W H s)
/-- Between two rounds. -/
structure Rd (W H : Nat) (s : S3) (v : Nat → Int) : Prop where
  nv : Nv W H (W * H) s.1 v
  bl : ∀ k, k < W * H → s.2.1 k = - v k
  z : ∀ k, W * H ≤ k → s.1 k = 0
theorem Rd.step (hW : 1 ≤ W ∧ W ≤ 6) (hH : 1 ≤ H ∧ H ≤ 6) {s : S3} {v : Nat → Int} (r : Rd W H s v) : ∃ v', Rd W H (rnd W H s) v' ∧ (L36 (rnd W H s).1 = L36 s.1 → Neu W H (W * H) (rnd W H s).1) ∧ (¬ L36 (rnd W H s).1 = L36 s.1 → sm (W * H) v < sm (W * H) v') := by
  have hwh := wh_le hW hH
  have ha : ∀ k, k < W * H → hA W H s.1 (W * H) k = s.1 k + dl (W * H) (adI W H) (fun _ => 1) k := fun k hk => by
    rw [hA_at hk _ (Nat.le_refl _)]
    rw [dl_congr hk (v := fun _ => 1) fun q hq => if_pos hq]
  obtain ⟨s1, s2, s3, s4, s5⟩ := r.nv.step hW hH rfl ha
  have hz : ∀ k, W * H ≤ k → (rnd W H s).1 k = 0 := fun k hk => by
    show (itr (W * H) (adI W H) _ _).1 k = 0
    rw [itr_ge hW hH rfl hk]
    show hA W H s.1 (W * H) k = 0
    rw [hA_ge hW hH rfl hk _ (Nat.le_refl _)]; exact r.z k hk
  have hiff : L36 (rnd W H s).1 = L36 s.1 ↔ ∀ k, k < W * H → (fin (W * H) (adI W H) (wgt W) (hA W H s.1 (W * H))).1 k = s.1 k := by
    rw [L36_iff]
    constructor
    · intro h k hk; exact h k (by omega)
    · intro h k _
      by_cases hk : k < W * H
      · exact h k hk
      · rw [hz k (by omega), r.z k (by omega)]
  refine ⟨_, ⟨s1, fun k hk => ?_, hz⟩, fun h => ?_, fun h => s3 fun hc => h (hiff.2 hc)⟩
  · show hU s.2.1 (W * H) k + _ = _
    rw [hU_at, if_pos hk, r.bl k hk]; omega
  · have h1 := hiff.1 h
    have q := s2 h1
    obtain ⟨v0, hv0⟩ := q.im
    refine ⟨s1.fl, ?_, ⟨_, s1.eq⟩⟩
    rintro ⟨F, hF⟩
    exact q.bk ⟨F, hF.one, fun i hi hFi => by have := hF.few i hi hFi; rw [← h1 i hi]; exact this⟩
theorem itN_neu (hW : 1 ≤ W ∧ W ≤ 6) (hH : 1 ≤ H ∧ H ≤ 6) : ∀ (m : Nat) (s : S3) (v : Nat → Int), Rd W H s v → 1296 - sm (W * H) v < m → Neu W H (W * H) (itN W H m s).1
  | 0, s, v, r, hm => by have := (r.nv.sum hW hH rfl).2; omega
  | m + 1, s, v, r, hm => by
    obtain ⟨v', r1, r2, r3⟩ := r.step hW hH
    unfold itN
    split
    · rename_i h; exact r2 h
    · rename_i h
      have := r3 h
      exact itN_neu hW hH m _ _ r1 (by omega)
def neS (W H : Nat) : S3 := itN W H 1297 (z0, z0, 0)
theorem rd_0 (W H : Nat) : Rd W H (z0, z0, 0) fun _ => 0 := ⟨⟨fun k hk => by show (0 : Int) ≤ 0 ∧ (0 : Int) ≤ 3; omega, fun k hk => (dl_0 k).symm, fun k hk => by (try dsimp only); omega⟩, fun k hk => rfl, fun k hk => rfl⟩
/-- The neutral plate's dents. -/
def neF (W H : Nat) : Nat → Int := (neS W H).1
theorem neF_ok (hW : 1 ≤ W ∧ W ≤ 6) (hH : 1 ≤ H ∧ H ≤ 6) (hn : n = W * H) : Neu W H n (neF W H) := by
  subst hn
  exact itN_neu hW hH 1297 _ _ (rd_0 W H) (by rw [sm_0]; decide)
end
end Go.Proofs.H

