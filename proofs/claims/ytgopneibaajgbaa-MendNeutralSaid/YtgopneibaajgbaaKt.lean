/- What the functions answer that the laws call, one after another (Kt). -/
import Derived.Test.YtgopneibaajgbaaAs6
import Derived.Test.YtgopneibaajgbaaKb

set_option linter.unusedVariables false
namespace Go.Proofs.H
open Go.As
set_option maxRecDepth 20000
set_option linter.unusedVariables false
set_option linter.unusedSimpArgs false

def exW (W H : Nat) (ex : Bool) : Nat := match ex with | true => H | false => W
structure Tn (W H n : Nat) (ex : Bool) (P I : Nat → Nat) : Prop where
  pl : ∀ i, i < n → P i < n
  il : ∀ i, i < n → I i < n
  pi : ∀ i, i < n → P (I i) = i
  ip : ∀ i, i < n → I (P i) = i
  ad : ∀ i k, i < n → k < n → adI (exW W H ex) (exW H W ex) i k = adI W H (P i) (P k)
theorem sm_turn {n : Nat} {P I : Nat → Nat} (hp : ∀ i, i < n → P i < n) (hil : ∀ i, i < n → I i < n) (hpi : ∀ i, i < n → P (I i) = i) (hip : ∀ i, i < n → I (P i) = i) (f : Nat → Int) : sm n (fun k => f (P k)) = sm n f := by
  have h1 : sm n (fun k => f (P k)) = sm n fun k => sm n fun q => if q = P k then f q else 0 := sm_congr fun k hk => (sm_one f (hp k hk)).symm
  have h2 : sm n f = sm n fun q => sm n fun k => if k = I q then f q else 0 := sm_congr fun q hq => (sm_one (fun _ => f q) (hil q hq)).symm
  rw [h1, h2, sm_swap]
  refine sm_congr fun q hq => sm_congr fun k hk => ?_
  by_cases e : q = P k
  · rw [if_pos e, if_pos (by rw [e, hip k hk])]
  · rw [if_neg e, if_neg (fun h => e (by rw [h, hpi q hq]))]
section
variable {W H n : Nat} {ex : Bool} {P I : Nat → Nat}
theorem Tn.dl (t : Tn W H n ex P I) (v : Nat → Int) {j : Nat} (hj : j < n) : dl n (adI (exW W H ex) (exW H W ex)) (fun k => v (P k)) j = dl n (adI W H) v (P j) := by
  unfold Go.Proofs.H.dl
  have h1 : sm n (fun k => adI (exW W H ex) (exW H W ex) j k * v (P k)) = sm n fun k => adI W H (P j) (P k) * v (P k) := sm_congr fun k hk => by rw [t.ad j k hj hk]
  rw [h1, sm_turn t.pl t.il t.pi t.ip (fun k => adI W H (P j) k * v k)]
theorem nF_sum {W H n : Nat} (hW : 1 ≤ W ∧ W ≤ 6) (hH : 1 ≤ H ∧ H ≤ 6) (hn : n = W * H) (F : Nat → Bool) {i : Nat} (hi : i < n) : nF W H F i = sm n fun k => adI W H k i * bI (F k) := by
  have h1 : (sm n fun k => adI W H k i * bI (F k)) = sm n fun k => sm 4 fun j => bI (nbP W H i j && Nat.beq k (nbI W i j)) * bI (F k) := sm_congr fun k hk => by unfold adI; rw [sm_mulr]
  rw [h1, sm_swap]
  unfold nF
  refine sm_congr fun j hj => ?_
  cases hp : nbP W H i j with
  | false =>
    rw [if_neg (by decide), sm_congr (g := fun _ => 0) fun k hk => by simp [bI], sm_0]
  | true =>
    rw [if_pos rfl]
    have hlt : nbI W i j < n := by rw [hn]; exact (grid_at hW hH (by omega)).2.2.2.2.2.2 j hj hp
    have h2 : (sm n fun k => bI (true && Nat.beq k (nbI W i j)) * bI (F k)) = sm n fun k => if k = nbI W i j then bI (F k) else 0 := sm_congr fun k hk => by
      by_cases e : k = nbI W i j
      · rw [if_pos e, e, Nat.beq_refl]; simp [bI]
      · rw [if_neg e]
        cases hb : Nat.beq k (nbI W i j) with
        | true => exact absurd (Nat.eq_of_beq_eq_true hb) e
        | false => simp [bI]
    rw [h2, sm_one _ hlt]
end
end Go.Proofs.H

