/- What the functions answer that the laws call, one after another (Kt). -/
import Derived.Test.YtgopneibaajgbaaAs6
import Derived.Test.YtgopneibaajgbaaKb

set_option linter.unusedVariables false
namespace Go.Proofs.H
open Go.As
set_option maxRecDepth 20000
set_option linter.unusedVariables false
set_option linter.unusedSimpArgs false

/-! ### Plates that are mirrored, or of which rows and columns are exchanged -/

/-- For a place of the new plate the place of the old one, and the other way round. -/
def trP (W H : Nat) (ex co ro : Bool) (i : Nat) : Nat :=
  match ex, co, ro with
  | false, false, false => i / W * W + i % W
  | false, true, false => i / W * W + (W - 1 - i % W)
  | false, false, true => (H - 1 - i / W) * W + i % W
  | false, true, true => (H - 1 - i / W) * W + (W - 1 - i % W)
  | true, false, false => i % H * W + i / H
  | true, true, false => i % H * W + (W - 1 - i / H)
  | true, false, true => (H - 1 - i % H) * W + i / H
  | true, true, true => (H - 1 - i % H) * W + (W - 1 - i / H)
def trI (W H : Nat) (ex co ro : Bool) (i : Nat) : Nat :=
  match ex, co, ro with
  | false, false, false => i / W * W + i % W
  | false, true, false => i / W * W + (W - 1 - i % W)
  | false, false, true => (H - 1 - i / W) * W + i % W
  | false, true, true => (H - 1 - i / W) * W + (W - 1 - i % W)
  | true, false, false => i % W * H + i / W
  | true, true, false => (W - 1 - i % W) * H + i / W
  | true, false, true => i % W * H + (H - 1 - i / W)
  | true, true, true => (W - 1 - i % W) * H + (H - 1 - i / W)
def exW (W H : Nat) (ex : Bool) : Nat := match ex with | true => H | false => W
def allB (p : Bool → Bool) : Bool := p true && p false
def turnB (W H : Nat) : Bool := allB fun ex => allB fun co => allB fun ro => allN (W * H) fun i =>
  Nat.blt (trP W H ex co ro i) (W * H) && Nat.blt (trI W H ex co ro i) (W * H) && Nat.beq (trP W H ex co ro (trI W H ex co ro i)) i && Nat.beq (trI W H ex co ro (trP W H ex co ro i)) i &&
  allN (W * H) fun k => decide (adI (exW W H ex) (exW H W ex) i k = adI W H (trP W H ex co ro i) (trP W H ex co ro k))
theorem turn_all : sizes turnB = true := by kernel_rfl
theorem allB_at {p : Bool → Bool} (h : allB p = true) (b : Bool) : p b = true := by
  unfold allB at h
  rw [Bool.and_eq_true] at h
  cases b
  · exact h.2
  · exact h.1
structure Tn (W H n : Nat) (ex : Bool) (P I : Nat → Nat) : Prop where
  pl : ∀ i, i < n → P i < n
  il : ∀ i, i < n → I i < n
  pi : ∀ i, i < n → P (I i) = i
  ip : ∀ i, i < n → I (P i) = i
  ad : ∀ i k, i < n → k < n → adI (exW W H ex) (exW H W ex) i k = adI W H (P i) (P k)
theorem turn_ok {W H n : Nat} (hW : 1 ≤ W ∧ W ≤ 6) (hH : 1 ≤ H ∧ H ≤ 6) (hn : n = W * H) (ex co ro : Bool) : Tn W H n ex (trP W H ex co ro) (trI W H ex co ro) := by
  have h := fun i (hi : i < n) => allN_at (allB_at (allB_at (allB_at (sizes_at turn_all hW hH) ex) co) ro) i (by rw [← hn]; exact hi)
  simp only [Bool.and_eq_true, Nat.blt_eq] at h
  exact ⟨fun i hi => by rw [hn]; exact (h i hi).1.1.1.1, fun i hi => by rw [hn]; exact (h i hi).1.1.1.2, fun i hi => Nat.eq_of_beq_eq_true (h i hi).1.1.2, fun i hi => Nat.eq_of_beq_eq_true (h i hi).1.2, fun i k hi hk => of_decide_eq_true (allN_at (h i hi).2 k (by rw [← hn]; exact hk))⟩
theorem sm_turn {n : Nat} {P I : Nat → Nat} (hp : ∀ i, i < n → P i < n) (hil : ∀ i, i < n → I i < n) (hpi : ∀ i, i < n → P (I i) = i) (hip : ∀ i, i < n → I (P i) = i) (f : Nat → Int) : sm n (fun k => f (P k)) = sm n f := by
  have h1 : sm n (fun k => f (P k)) = sm n fun k => sm n fun q => if q = P k then f q else 0 := sm_congr fun k hk => (sm_one f (hp k hk)).symm
  have h2 : sm n f = sm n fun q => sm n fun k => if k = I q then f q else 0 := sm_congr fun q hq => (sm_one (fun _ => f q) (hil q hq)).symm
  rw [h1, h2, sm_swap]
  refine sm_congr fun q hq => sm_congr fun k hk => ?_
  by_cases e : q = P k
  · rw [if_pos e, if_pos (by rw [e, hip k hk])]
  · rw [if_neg e, if_neg (fun h => e (by rw [h, hpi q hq]))]
section
variable {W H n : Nat} {ex : Bool} {P I : Nat → Nat}
theorem Tn.dl (t : Tn W H n ex P I) (v : Nat → Int) {j : Nat} (hj : j < n) : dl n (adI (exW W H ex) (exW H W ex)) (fun k => v (P k)) j = dl n (adI W H) v (P j) := by
  unfold Go.Proofs.H.dl
  have h1 : sm n (fun k => adI (exW W H ex) (exW H W ex) j k * v (P k)) = sm n fun k => adI W H (P j) (P k) * v (P k) := sm_congr fun k hk => by rw [t.ad j k hj hk]
  rw [h1, sm_turn t.pl t.il t.pi t.ip (fun k => adI W H (P j) k * v k)]
theorem turn_flat {d : Nat → Int} (t : Tn W H n ex P I) (p : Pv W H n d) (q : Pv (exW W H ex) (exW H W ex) n fun j => d (P j)) :
    (∀ j, j < n → uF (exW W H ex) (exW H W ex) (fun j => d (P j)) j = uF W H d (P j)) ∧ ∀ j, j < n → xF (exW W H ex) (exW H W ex) (fun j => d (P j)) j = xF W H d (P j) := by
  have m1 := p.mid
  have m2 := q.mid
  have hu1 : ∀ j, j < n → uF (exW W H ex) (exW H W ex) (fun j => d (P j)) j ≤ uF W H d (P j) := m2.least (fun j => uF W H d (P j)) (fun j hj => (p.u _ (t.pl j hj)).1) fun j hj => by
    rw [t.dl _ hj]
    have h1 := m1.eq (P j) (t.pl j hj)
    have h2 := p.flat (P j) (t.pl j hj)
    dsimp only at h1 ⊢
    omega
  have hu2 : ∀ j, j < n → uF W H d j ≤ uF (exW W H ex) (exW H W ex) (fun j => d (P j)) (I j) := m1.least (fun j => uF (exW W H ex) (exW H W ex) (fun j => d (P j)) (I j)) (fun j hj => (q.u _ (t.il j hj)).1) fun j hj => by
    have e : dl n (adI W H) (fun j => uF (exW W H ex) (exW H W ex) (fun j => d (P j)) (I j)) j = dl n (adI (exW W H ex) (exW H W ex)) (uF (exW W H ex) (exW H W ex) (fun j => d (P j))) (I j) := by
      have h3 := t.dl (fun j => uF (exW W H ex) (exW H W ex) (fun j => d (P j)) (I j)) (t.il j hj)
      rw [t.pi j hj] at h3
      rw [← h3]
      exact dl_congr (t.il j hj) fun k hk => by (try dsimp only); rw [t.ip k hk]
    rw [e]
    have h1 := m2.eq (I j) (t.il j hj)
    have h2 := q.flat (I j) (t.il j hj)
    dsimp only at h1
    rw [t.pi j hj] at h1
    omega
  have hu : ∀ j, j < n → uF (exW W H ex) (exW H W ex) (fun j => d (P j)) j = uF W H d (P j) := fun j hj => by
    have h1 := hu1 j hj
    have h2 := hu2 (P j) (t.pl j hj)
    rw [t.ip j hj] at h2
    omega
  refine ⟨hu, fun j hj => ?_⟩
  have h1 := m1.eq (P j) (t.pl j hj)
  have h2 := m2.eq j hj
  dsimp only at h1 h2
  rw [h1, h2, dl_congr hj hu, t.dl _ hj]
theorem nF_sum {W H n : Nat} (hW : 1 ≤ W ∧ W ≤ 6) (hH : 1 ≤ H ∧ H ≤ 6) (hn : n = W * H) (F : Nat → Bool) {i : Nat} (hi : i < n) : nF W H F i = sm n fun k => adI W H k i * bI (F k) := by
  have h1 : (sm n fun k => adI W H k i * bI (F k)) = sm n fun k => sm 4 fun j => bI (nbP W H i j && Nat.beq k (nbI W i j)) * bI (F k) := sm_congr fun k hk => by unfold adI; rw [sm_mulr]
  rw [h1, sm_swap]
  unfold nF
  refine sm_congr fun j hj => ?_
  cases hp : nbP W H i j with
  | false =>
    rw [if_neg (by decide), sm_congr (g := fun _ => 0) fun k hk => by simp [bI], sm_0]
  | true =>
    rw [if_pos rfl]
    have hlt : nbI W i j < n := by rw [hn]; exact (grid_at hW hH (by omega)).2.2.2.2.2.2 j hj hp
    have h2 : (sm n fun k => bI (true && Nat.beq k (nbI W i j)) * bI (F k)) = sm n fun k => if k = nbI W i j then bI (F k) else 0 := sm_congr fun k hk => by
      by_cases e : k = nbI W i j
      · rw [if_pos e, e, Nat.beq_refl]; simp [bI]
      · rw [if_neg e]
        cases hb : Nat.beq k (nbI W i j) with
        | true => exact absurd (Nat.eq_of_beq_eq_true hb) e
        | false => simp [bI]
    rw [h2, sm_one _ hlt]
theorem turn_back (t : Tn W H n ex P I) (hW : 1 ≤ W ∧ W ≤ 6) (hH : 1 ≤ H ∧ H ≤ 6) (hn : n = W * H) {x y : Nat → Int} (hy : ∀ j, j < n → y j = x (P j)) : (brn (exW W H ex) (exW H W ex) n y).length = n ↔ (brn W H n x).length = n := by
  have hW' : 1 ≤ exW W H ex ∧ exW W H ex ≤ 6 := by cases ex <;> assumption
  have hH' : 1 ≤ exW H W ex ∧ exW H W ex ≤ 6 := by cases ex <;> assumption
  have hn' : n = exW W H ex * exW H W ex := by cases ex; exact hn; exact hn.trans (Nat.mul_comm _ _)
  rw [brn_iff hW' hH' hn', brn_iff hW hH hn]
  refine not_congr ⟨?_, ?_⟩
  · rintro ⟨F, f⟩
    refine ⟨fun k => F (I k), ?_, fun i hi hF => ?_⟩
    · obtain ⟨i, hi, hF⟩ := f.one
      exact ⟨P i, t.pl i hi, by rw [t.ip i hi]; exact hF⟩
    · have h1 := f.few (I i) (t.il i hi) hF
      rw [hy _ (t.il i hi), t.pi i hi, nF_sum hW' hH' hn' F (t.il i hi)] at h1
      rw [nF_sum hW hH hn _ hi]
      have h2 : (sm n fun k => adI (exW W H ex) (exW H W ex) k (I i) * bI (F k)) = sm n fun k => adI W H (P k) i * bI (F (I (P k))) := sm_congr fun k hk => by rw [t.ad k (I i) hk (t.il i hi), t.pi i hi, t.ip k hk]
      rw [h2, sm_turn t.pl t.il t.pi t.ip (fun k => adI W H k i * bI (F (I k)))] at h1
      exact h1
  · rintro ⟨F, f⟩
    refine ⟨fun k => F (P k), ?_, fun i hi hF => ?_⟩
    · obtain ⟨i, hi, hF⟩ := f.one
      exact ⟨I i, t.il i hi, by rw [t.pi i hi]; exact hF⟩
    · have h1 := f.few (P i) (t.pl i hi) hF
      rw [nF_sum hW hH hn F (t.pl i hi)] at h1
      rw [hy _ hi, nF_sum hW' hH' hn' _ hi]
      have h2 : (sm n fun k => adI (exW W H ex) (exW H W ex) k i * bI (F (P k))) = sm n fun k => adI W H (P k) (P i) * bI (F (P k)) := sm_congr fun k hk => by rw [t.ad k i hk hi]
      rw [h2, sm_turn t.pl t.il t.pi t.ip (fun k => adI W H k (P i) * bI (F k))]
      exact h1
end
end Go.Proofs.H

