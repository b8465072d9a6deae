/- What the functions answer that the laws call, one after another (Kb). -/
import Derived.Test.YtgopneibaajgbaaAs6
import Derived.Test.YtgopneibaajgbaaNx
import Derived.Test.YtgopneibaajgbaaU
import Derived.Test.YtgopneibaajgbaaWk

set_option linter.unusedVariables false
namespace Go.Proofs.H
open Go.As
set_option maxRecDepth 20000
set_option linter.unusedVariables false
set_option linter.unusedSimpArgs false

/-! ### What comes back: no set of places is forbidden -/

/-- How many neighbours lie in a set. -/
def nF (W H : Nat) (F : Nat → Bool) (i : Nat) : Int := sm 4 fun j => if nbP W H i j = true then bI (F (nbI W i j)) else 0
structure Fb (W H n : Nat) (x : Nat → Int) (F : Nat → Bool) : Prop where
  one : ∃ i, i < n ∧ F i = true
  few : ∀ i, i < n → F i = true → x i < nF W H F i
theorem nF_le {W H : Nat} {F G : Nat → Bool} {i n : Nat} (hi : ∀ j, j < 4 → nbP W H i j = true → nbI W i j < n) (h : ∀ k, k < n → F k = true → G k = true) : nF W H F i ≤ nF W H G i := by
  refine sm_le fun j hj => ?_
  split
  · rename_i hp
    have := h _ (hi j hj hp)
    cases hF : F (nbI W i j) with
    | true => rw [this hF]; exact Int.le_refl _
    | false => cases G (nbI W i j) <;> decide
  · exact Int.le_refl _
theorem nF_del {W H : Nat} {F : Nat → Bool} {i k : Nat} (h : F i = true) : nF W H F k = nF W H (fun j => F j && !(Nat.beq i j)) k + adI W H i k := by
  unfold nF adI
  rw [← sm_add]
  refine sm_congr fun j hj => ?_
  cases hp : nbP W H k j with
  | false => simp [bI]
  | true =>
    rw [if_pos rfl, if_pos rfl]
    show bI (F (nbI W k j)) = bI (F (nbI W k j) && !(Nat.beq i (nbI W k j))) + bI (true && Nat.beq i (nbI W k j))
    cases hb : Nat.beq i (nbI W k j) with
    | true => rw [← Nat.eq_of_beq_eq_true hb, h]; rfl
    | false => cases F (nbI W k j) <;> rfl
theorem lf_nF (W H : Nat) (L : List Nat) (i : Nat) : lf W H L i = nF W H (fun k => !decide (k ∈ L)) i := by
  rw [lf_cP]
  unfold nF
  rw [sm4]
  simp only [cP]
  have e : ∀ k, (1 - gn L k) = bI (!decide (k ∈ L)) := fun k => by
    unfold gn
    by_cases h : k ∈ L
    · rw [if_pos h, decide_eq_true h]; rfl
    · rw [if_neg h, decide_eq_false h]; rfl
  simp only [e]
  omega
section
variable {W H n : Nat} {x : Nat → Int}
theorem Bn.full {L : List Nat} (b : Bn n L) (h : L.length = n) : ∀ i, i < n → gn L i = 1 := fun i hi => by
  have h1 : sm n (fun k => 1 - gn L k) = 0 := by rw [sm_sub, b.len, sm_c]; omega
  have h2 := sm_ge (f := fun k => 1 - gn L k) (fun k _ => by have := gn_01 L k; (try dsimp only); omega) hi
  have h3 := gn_01 L i
  omega
theorem Bn.some {L : List Nat} (b : Bn n L) (h : L.length ≠ n) : ∃ i, i < n ∧ gn L i = 0 := by
  refine Classical.byContradiction fun hc => h ?_
  have h1 : sm n (gn L) = sm n fun _ => 1 := sm_congr fun k hk => by
    have h2 := gn_01 L k
    have h3 : gn L k ≠ 0 := fun h0 => hc ⟨k, hk, h0⟩
    omega
  rw [b.len, sm_c] at h1
  omega
theorem bI2_fix : ∀ m L, Bn n L → L.length + m = n → fst4 (okI W H x (bI2 W H n x m L)) n = n
  | 0, L, b, h => fst4_n fun j hj => by
    unfold okI
    rw [if_neg (fun hc => by have := b.full (by omega) j hj; have := hc.1; rw [show bI2 W H n x 0 L = L from rfl] at this; omega)]
    decide
  | m + 1, L, b, h => by
    show fst4 (okI W H x (bI2 W H n x m (bS W H n x L))) n = n
    by_cases hlt : fst4 (okI W H x L) n < n
    · have e : bS W H n x L = fst4 (okI W H x L) n :: L := if_pos hlt
      have h3 := (fst4_spec (okI W H x L) n).2.2 hlt
      have hg : gn L (fst4 (okI W H x L) n) = 0 := by
        generalize fst4 (okI W H x L) n = i at *
        unfold okI at h3
        split at h3
        · rename_i hc; exact hc.1
        · omega
      rw [e]
      exact bI2_fix m _ (b.cons hlt hg) (by rw [List.length_cons]; omega)
    · have e : bS W H n x L = L := if_neg hlt
      have h1 := (fst4_spec (okI W H x L) n).1
      rw [e, bI2_end (by omega) m]
      omega
theorem bI2_out {F : Nat → Bool} (hW : 1 ≤ W ∧ W ≤ 6) (hH : 1 ≤ H ∧ H ≤ 6) (hn : n = W * H) (f : Fb W H n x F) : ∀ m L, (∀ i, i ∈ L → F i = false) → ∀ i, i ∈ bI2 W H n x m L → F i = false
  | 0, L, h => h
  | m + 1, L, h => bI2_out hW hH hn f m (bS W H n x L) (by
    intro i hi
    unfold bS at hi
    split at hi
    · rename_i hlt
      rcases List.mem_cons.1 hi with e | e
      · have h3 := (fst4_spec (okI W H x L) n).2.2 hlt
        rw [← e] at h3 hlt
        refine Classical.byContradiction fun hF => ?_
        have hFt : F i = true := by cases hb : F i with | true => rfl | false => exact absurd hb hF
        have h4 := f.few i hlt hFt
        have h5 : lf W H L i ≤ x i := by
          unfold okI at h3
          split at h3
          · rename_i hc; exact hc.2
          · omega
        rw [lf_nF] at h5
        have h6 := nF_le (F := F) (G := fun k => !decide (k ∈ L)) (i := i) (n := n) (fun j hj hp => by rw [hn]; exact (grid_at hW hH (by omega)).2.2.2.2.2.2 j hj hp) (fun k _ hk => by
          rw [decide_eq_false (fun hm => by rw [h k hm] at hk; cases hk)]; rfl)
        omega
      · exact h i e
    · exact h i hi)
/-- All burn, or some set is forbidden. -/
theorem brn_iff (hW : 1 ≤ W ∧ W ≤ 6) (hH : 1 ≤ H ∧ H ≤ 6) (hn : n = W * H) : (brn W H n x).length = n ↔ ¬ ∃ F, Fb W H n x F := by
  have b := brn_le W H n x
  constructor
  · rintro h ⟨F, f⟩
    obtain ⟨i, hi, hF⟩ := f.one
    have h1 := b.full h i hi
    have h2 : i ∈ brn W H n x := by
      refine Classical.byContradiction fun hc => ?_
      unfold gn at h1
      rw [if_neg hc] at h1
      omega
    have h3 := bI2_out hW hH hn f n [] (fun i hi => by cases hi) i h2
    rw [hF] at h3
    cases h3
  · intro h
    refine Classical.byContradiction fun hc => h ⟨fun k => !decide (k ∈ brn W H n x), ?_, fun i hi hF => ?_⟩
    · obtain ⟨i, hi, hg⟩ := b.some hc
      refine ⟨i, hi, ?_⟩
      unfold gn at hg
      rw [decide_eq_false (fun hm => by rw [if_pos hm] at hg; omega)]; rfl
    · have h1 := bI2_fix (W := W) (H := H) (x := x) n [] (Bn.nil n) (by simp)
      have h2 := (fst4_spec (okI W H x (brn W H n x)) n).2.1 i (by show i < fst4 (okI W H x (bI2 W H n x n [])) n; omega)
      rw [← lf_nF]
      unfold okI at h2
      split at h2
      · omega
      · rename_i hc2
        have hg : gn (brn W H n x) i = 0 := by
          unfold gn
          rw [if_neg (fun hm => by rw [decide_eq_true hm] at hF; cases hF)]
        exact Int.not_le.1 fun h5 => hc2 ⟨hg, h5⟩
/-- A possible blow, or some at once. -/
theorem fb_hit (hW : 1 ≤ W ∧ W ≤ 6) (hH : 1 ≤ H ∧ H ≤ 6) (hn : n = W * H) {i : Nat} (hi : i < n) {N : Int} (hN : 1 ≤ N) (h4 : 4 * N ≤ x i) {F : Nat → Bool} (f : Fb W H n (hitA (adI W H) x i N) F) : ∃ G, Fb W H n x G := by
  have g : Gr n (adI W H) (wgt W) := by rw [hn]; exact gr_ok hW hH
  cases hF : F i with
  | false =>
    refine ⟨F, f.one, fun k hk hk2 => ?_⟩
    have h1 := f.few k hk hk2
    have hne : k ≠ i := fun e => by rw [e, hF] at hk2; cases hk2
    have h2 : 0 ≤ adI W H k i * N := Int.mul_nonneg (g.nn k i) (by omega)
    unfold hitA at h1
    rw [if_neg hne] at h1
    omega
  | true =>
    refine ⟨fun j => F j && !(Nat.beq i j), ?_, fun k hk hk2 => ?_⟩
    · refine Classical.byContradiction fun hc => ?_
      have h1 := f.few i hi hF
      have h2 : nF W H F i ≤ nF W H (fun j => Nat.beq i j) i := nF_le (n := n) (fun j hj hp => by rw [hn]; exact (grid_at hW hH (by omega)).2.2.2.2.2.2 j hj hp) fun k hk hk2 => by
        cases hb : Nat.beq i k with
        | true => rfl
        | false => exact absurd ⟨k, hk, by simp [hk2, hb]⟩ hc
      have h3 : nF W H (fun j => Nat.beq i j) i = adI W H i i := by
        unfold nF adI
        exact sm_congr fun j hj => by cases nbP W H i j <;> simp [bI]
      have h5 := (grid_at (i := i) hW hH (by omega)).2.1
      unfold hitA at h1
      rw [if_pos rfl] at h1
      have h6 : 0 ≤ adI W H i i * N := Int.mul_nonneg (g.nn i i) (by omega)
      omega
    · simp only [Bool.and_eq_true, Bool.not_eq_true'] at hk2
      have hne : k ≠ i := fun e => by rw [e, Nat.beq_refl] at hk2; exact absurd hk2.2 (by decide)
      have h1 := f.few k hk hk2.1
      rw [nF_del hF] at h1
      unfold hitA at h1
      rw [if_neg hne, g.sym k i hk hi] at h1
      have h2 : adI W H i k * 1 ≤ adI W H i k * N := Int.mul_le_mul_of_nonneg_left hN (g.nn i k)
      omega
theorem fb_itr (hW : 1 ≤ W ∧ W ≤ 6) (hH : 1 ≤ H ∧ H ≤ 6) (hn : n = W * H) : ∀ (m : Nat) (s : F2) (F : Nat → Bool), Fb W H n (itr n (adI W H) m s).1 F → ∃ G, Fb W H n s.1 G
  | 0, s, F, f => ⟨F, f⟩
  | m + 1, s, F, f => by
    obtain ⟨G, f2⟩ := fb_itr hW hH hn m (stp n (adI W H) s) F f
    unfold stp at f2
    split at f2
    · rename_i h
      have h3 := (fst4_spec s.1 n).2.2 h
      exact fb_hit hW hH hn h (by omega) (by omega) f2
    · exact ⟨G, f2⟩
theorem back_add (p : Pv W H n x) {y e : Nat → Int} (hb : (brn W H n (xF W H x)).length = n) (q : Pv W H n e) (hy : ∀ k, k < n → y k = xF W H (fun i => x i + e i) k) : (brn W H n y).length = n := by
  rw [brn_cong hy, brn_iff p.hw p.hh p.hn]
  rw [brn_iff p.hw p.hh p.hn] at hb
  rintro ⟨F, f⟩
  have f2 : Fb W H n (xF W H (fun i => xF W H x i + e i)) F := ⟨f.one, fun i hi hF => by rw [flat_add p q.d0 i hi]; exact f.few i hi hF⟩
  unfold xF at f2
  rw [← p.hn] at f2
  obtain ⟨G, f3⟩ := fb_itr p.hw p.hh p.hn _ _ F f2
  refine hb ⟨G, f3.one, fun i hi hG => ?_⟩
  have h1 := f3.few i hi hG
  have h2 := q.d0 i hi
  dsimp only at h1
  unfold xF
  rw [← p.hn]
  omega
end
end Go.Proofs.H

namespace Go.Proofs.H
open Go.As
set_option maxRecDepth 20000
set_option linter.unusedVariables false
set_option linter.unusedSimpArgs false

end Go.Proofs.H

namespace Go.Proofs.H
open Go.As
set_option maxRecDepth 20000
set_option linter.unusedVariables false
set_option linter.unusedSimpArgs false

end Go.Proofs.H

