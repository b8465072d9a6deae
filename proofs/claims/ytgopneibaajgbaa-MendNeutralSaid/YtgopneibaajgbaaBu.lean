/- What the functions answer that the laws call, one after another (Bu). -/
import Derived.Test.YtgopneibaajgbaaAs6
import Derived.Test.YtgopneibaajgbaaL3
import Derived.Test.YtgopneibaajgbaaR2
import Derived.Test.YtgopneibaajgbaaG0

set_option linter.unusedVariables false
namespace Go.Proofs.H
open Go.As
set_option maxRecDepth 20000
set_option linter.unusedVariables false
set_option linter.unusedSimpArgs false

/-! ### What burns -/

def gn (L : List Nat) (k : Nat) : Int := if k ∈ L then 1 else 0
def lp (f : Nat → Int) (l : List Nat) : Nat → Int
  | 0 => 0
  | k + 1 => lp f l k + f (l.getD k 0)
/-- How many neighbours have not burnt. -/
def lf (W H : Nat) (L : List Nat) (i : Nat) : Int := lp (fun y => 1 - gn L y) (bsL W H i) (bsL W H i).length
/-- Whether a place burns next. -/
def okI (W H : Nat) (x : Nat → Int) (L : List Nat) (i : Nat) : Int := if gn L i = 0 ∧ lf W H L i ≤ x i then 4 else 0
def bS (W H n : Nat) (x : Nat → Int) (L : List Nat) : List Nat := if fst4 (okI W H x L) n < n then fst4 (okI W H x L) n :: L else L
def bI2 (W H n : Nat) (x : Nat → Int) : Nat → List Nat → List Nat
  | 0, L => L
  | k + 1, L => bI2 W H n x k (bS W H n x L)
/-- The places that burn, the last one first. -/
def brn (W H n : Nat) (x : Nat → Int) : List Nat := bI2 W H n x n []
structure Bn (n : Nat) (L : List Nat) : Prop where
  len : sm n (gn L) = L.length
theorem gn_01 (L : List Nat) (k : Nat) : 0 ≤ gn L k ∧ gn L k ≤ 1 := by unfold gn; split <;> omega
theorem gn_cons {L : List Nat} {i : Nat} (h : gn L i = 0) (k : Nat) : gn (i :: L) k = if k = i then 1 else gn L k := by
  unfold gn
  by_cases hk : k = i
  · subst hk; simp
  · simp [hk]
theorem Bn.nil (n : Nat) : Bn n [] := ⟨by
  have e : gn [] = fun _ => 0 := funext fun k => by simp [gn]
  rw [e, sm_0]; rfl⟩
theorem Bn.cons {n : Nat} {L : List Nat} (b : Bn n L) {i : Nat} (hi : i < n) (h : gn L i = 0) : Bn n (i :: L) := ⟨by
  have e : gn (i :: L) = fun k => gn L k + (if k = i then 1 else 0) := funext fun k => by
    rw [gn_cons h]
    by_cases hk : k = i
    · rw [if_pos hk, if_pos hk, hk, h]; rfl
    · rw [if_neg hk, if_neg hk]; omega
  rw [e, sm_add, b.len, sm_one (fun _ => 1) hi, List.length_cons]
  omega⟩
theorem Bn.le {n : Nat} {L : List Nat} (b : Bn n L) : L.length ≤ n := by
  have h1 := sm_le (n := n) (f := gn L) (g := fun _ => 1) fun k _ => (gn_01 L k).2
  rw [b.len, sm_c] at h1
  omega
theorem bI2_end {W H n : Nat} {x : Nat → Int} {L : List Nat} (h : fst4 (okI W H x L) n = n) : ∀ k, bI2 W H n x k L = L
  | 0 => rfl
  | k + 1 => by
    show bI2 W H n x k (bS W H n x L) = L
    have e : bS W H n x L = L := by unfold bS; rw [if_neg (by omega)]
    rw [e]
    exact bI2_end h k
def burV (L : List Nat) : Nat → List V := iG fun j => (L.reverse.getD j 0 : Nat)
end Go.Proofs.H

namespace Go.Proofs.H
open Go.As
set_option maxRecDepth 20000
set_option linter.unusedVariables false
set_option linter.unusedSimpArgs false

/-! ### The definitions: Burn and Back -/

section
variable {W H n : Nat} {x : Nat → Int}
end
theorem brn_le (W H n : Nat) (x : Nat → Int) : Bn n (brn W H n x) := by
  have : ∀ k L, Bn n L → Bn n (bI2 W H n x k L) := fun k => by
    induction k with
    | zero => exact fun L h => h
    | succ k ih =>
      intro L h
      refine ih _ ?_
      unfold bS
      split
      · rename_i hlt
        obtain ⟨h1, h2, h3⟩ := fst4_spec (okI W H x L) n
        have h4 := h3 hlt
        refine h.cons hlt ?_
        have e : okI W H x L (fst4 (okI W H x L) n) = if gn L (fst4 (okI W H x L) n) = 0 ∧ lf W H L (fst4 (okI W H x L) n) ≤ x (fst4 (okI W H x L) n) then 4 else 0 := rfl
        rw [e] at h4
        split at h4
        · rename_i hc; exact hc.1
        · omega
      · exact h
  exact this n [] (Bn.nil n)
end Go.Proofs.H

