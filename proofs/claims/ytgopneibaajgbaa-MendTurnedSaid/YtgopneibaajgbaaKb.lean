/- What the functions answer that the laws call, one after another (Kb). -/
import Derived.Test.YtgopneibaajgbaaAs6
import Derived.Test.YtgopneibaajgbaaNx
import Derived.Test.YtgopneibaajgbaaU
import Derived.Test.YtgopneibaajgbaaWk

set_option linter.unusedVariables false
namespace Go.Proofs.H
open Go.As
set_option maxRecDepth 20000
set_option linter.unusedVariables false
set_option linter.unusedSimpArgs false

/-! ### What comes back: no set of places is forbidden -/

/-- How many neighbours lie in a set. -/
def nF (W H : Nat) (F : Nat → Bool) (i : Nat) : Int := sm 4 fun j => if nbP W H i j = true then bI (F (nbI W i j)) else 0
structure Fb (W H n : Nat) (x : Nat → Int) (F : Nat → Bool) : Prop where
  one : ∃ i, i < n ∧ F i = true
  few : ∀ i, i < n → F i = true → x i < nF W H F i
theorem nF_le {W H : Nat} {F G : Nat → Bool} {i n : Nat} (hi : ∀ j, j < 4 → nbP W H i j = true → nbI W i j < n) (h : ∀ k, k < n → F k = true → G k = true) : nF W H F i ≤ nF W H G i := by
  refine sm_le fun j hj => ?_
  split
  · rename_i hp
    have := h _ (hi j hj hp)
    cases hF : F (nbI W i j) with
    | true => rw [this hF]; exact Int.le_refl _
    | false => cases G (nbI W i j) <;> decide
  · exact Int.le_refl _
theorem lf_nF (W H : Nat) (L : List Nat) (i : Nat) : lf W H L i = nF W H (fun k => !decide (k ∈ L)) i := by
  rw [lf_cP]
  unfold nF
  rw [sm4]
  simp only [cP]
  have e : ∀ k, (1 - gn L k) = bI (!decide (k ∈ L)) := fun k => by
    unfold gn
    by_cases h : k ∈ L
    · rw [if_pos h, decide_eq_true h]; rfl
    · rw [if_neg h, decide_eq_false h]; rfl
  simp only [e]
  omega
section
variable {W H n : Nat} {x : Nat → Int}
theorem Bn.full {L : List Nat} (b : Bn n L) (h : L.length = n) : ∀ i, i < n → gn L i = 1 := fun i hi => by
  have h1 : sm n (fun k => 1 - gn L k) = 0 := by rw [sm_sub, b.len, sm_c]; omega
  have h2 := sm_ge (f := fun k => 1 - gn L k) (fun k _ => by have := gn_01 L k; (try dsimp only); omega) hi
  have h3 := gn_01 L i
  omega
theorem Bn.some {L : List Nat} (b : Bn n L) (h : L.length ≠ n) : ∃ i, i < n ∧ gn L i = 0 := by
  refine Classical.byContradiction fun hc => h ?_
  have h1 : sm n (gn L) = sm n fun _ => 1 := sm_congr fun k hk => by
    have h2 := gn_01 L k
    have h3 : gn L k ≠ 0 := fun h0 => hc ⟨k, hk, h0⟩
    omega
  rw [b.len, sm_c] at h1
  omega
theorem bI2_fix : ∀ m L, Bn n L → L.length + m = n → fst4 (okI W H x (bI2 W H n x m L)) n = n
  | 0, L, b, h => fst4_n fun j hj => by
    unfold okI
    rw [if_neg (fun hc => by have := b.full (by omega) j hj; have := hc.1; rw [show bI2 W H n x 0 L = L from rfl] at this; omega)]
    decide
  | m + 1, L, b, h => by
    show fst4 (okI W H x (bI2 W H n x m (bS W H n x L))) n = n
    by_cases hlt : fst4 (okI W H x L) n < n
    · have e : bS W H n x L = fst4 (okI W H x L) n :: L := if_pos hlt
      have h3 := (fst4_spec (okI W H x L) n).2.2 hlt
      have hg : gn L (fst4 (okI W H x L) n) = 0 := by
        generalize fst4 (okI W H x L) n = i at *
        unfold okI at h3
        split at h3
        · rename_i hc; exact hc.1
        · omega
      rw [e]
      exact bI2_fix m _ (b.cons hlt hg) (by rw [List.length_cons]; omega)
    · have e : bS W H n x L = L := if_neg hlt
      have h1 := (fst4_spec (okI W H x L) n).1
      rw [e, bI2_end (by omega) m]
      omega
theorem bI2_out {F : Nat → Bool} (hW : 1 ≤ W ∧ W ≤ 6) (hH : 1 ≤ H ∧ H ≤ 6) (hn : n = W * H) (f : Fb W H n x F) : ∀ m L, (∀ i, i ∈ L → F i = false) → ∀ i, i ∈ bI2 W H n x m L → F i = false
  | 0, L, h => h
  | m + 1, L, h => bI2_out hW hH hn f m (bS W H n x L) (by
    intro i hi
    unfold bS at hi
    split at hi
    · rename_i hlt
      rcases List.mem_cons.1 hi with e | e
      · have h3 := (fst4_spec (okI W H x L) n).2.2 hlt
        rw [← e] at h3 hlt
        refine Classical.byContradiction fun hF => ?_
        have hFt : F i = true := by cases hb : F i with | true => rfl | false => exact absurd hb hF
        have h4 := f.few i hlt hFt
        have h5 : lf W H L i ≤ x i := by
          unfold okI at h3
          split at h3
          · rename_i hc; exact hc.2
          · omega
        rw [lf_nF] at h5
        have h6 := nF_le (F := F) (G := fun k => !decide (k ∈ L)) (i := i) (n := n) (fun j hj hp => by rw [hn]; exact (grid_at hW hH (by omega)).2.2.2.2.2.2 j hj hp) (fun k _ hk => by
          rw [decide_eq_false (fun hm => by rw [h k hm] at hk; cases hk)]; rfl)
        omega
      · exact h i e
    · exact h i hi)
/-- All burn, or some set is forbidden. -/
theorem brn_iff (hW : 1 ≤ W ∧ W ≤ 6) (hH : 1 ≤ H ∧ H ≤ 6) (hn : n = W * H) : (brn W H n x).length = n ↔ ¬ ∃ F, Fb W H n x F := by
  have b := brn_le W H n x
  constructor
  · rintro h ⟨F, f⟩
    obtain ⟨i, hi, hF⟩ := f.one
    have h1 := b.full h i hi
    have h2 : i ∈ brn W H n x := by
      refine Classical.byContradiction fun hc => ?_
      unfold gn at h1
      rw [if_neg hc] at h1
      omega
    have h3 := bI2_out hW hH hn f n [] (fun i hi => by cases hi) i h2
    rw [hF] at h3
    cases h3
  · intro h
    refine Classical.byContradiction fun hc => h ⟨fun k => !decide (k ∈ brn W H n x), ?_, fun i hi hF => ?_⟩
    · obtain ⟨i, hi, hg⟩ := b.some hc
      refine ⟨i, hi, ?_⟩
      unfold gn at hg
      rw [decide_eq_false (fun hm => by rw [if_pos hm] at hg; omega)]; rfl
    · have h1 := bI2_fix (W := W) (H := H) (x := x) n [] (Bn.nil n) (by simp)
      have h2 := (fst4_spec (okI W H x (brn W H n x)) n).2.1 i (by show i < fst4 (okI W H x (bI2 W H n x n [])) n; omega)
      rw [← lf_nF]
      unfold okI at h2
      split at h2
      · omega
      · rename_i hc2
        have hg : gn (brn W H n x) i = 0 := by
          unfold gn
          rw [if_neg (fun hm => by rw [decide_eq_true hm] at hF; cases hF)]
        exact Int.not_le.1 fun h5 => hc2 ⟨hg, h5⟩
end
end Go.Proofs.H

namespace Go.Proofs.H
open Go.As
set_option maxRecDepth 20000
set_option linter.unusedVariables false
set_option linter.unusedSimpArgs false

end Go.Proofs.H

namespace Go.Proofs.H
open Go.As
set_option maxRecDepth 20000
set_option linter.unusedVariables false
set_option linter.unusedSimpArgs false

end Go.Proofs.H

