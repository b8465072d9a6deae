/- What the functions answer that the laws call, one after another (B11). -/
import Derived.Test.YtppfddfmcnlioaaAs6
import Derived.Test.YtppfddfmcnlioaaB7

set_option linter.unusedVariables false
namespace Go.Proofs.J
open Go.As
set_option maxRecDepth 20000
set_option linter.unusedVariables false
set_option linter.unusedSimpArgs false

/-! ### Orders by looks, and by all that follows -/

theorem php : ∀ (n : Nat) (f : Nat → Nat), (∀ i, i < n → f i < n) → (∀ i j, i < n → j < n → f i = f j → i = j) → ∀ v, v < n → ∃ i, i < n ∧ f i = v
  | 0, _, _, _, v, hv => by omega
  | n + 1, f, hf, hi, v, hv => by
    have h1 : ∀ i, i < n → f i ≠ f n := fun i hin he => by have := hi i n (by omega) (by omega) he; omega
    have hn := hf n (by omega)
    have ih := php n (fun i => if f n < f i then f i - 1 else f i) (fun i hin => by
      have := hf i (by omega)
      have := h1 i hin
      (try dsimp only)
      split <;> omega) (fun i j hin hjn he => by
      have a1 := h1 i hin
      have a2 := h1 j hjn
      (try dsimp only at he)
      refine hi i j (by omega) (by omega) ?_
      split at he <;> split at he <;> omega)
    by_cases e : v = f n
    · exact ⟨n, by omega, e.symm⟩
    · by_cases hg : f n < v
      · obtain ⟨i, hin, hiv⟩ := ih (v - 1) (by omega)
        have a1 := h1 i hin
        (try dsimp only at hiv)
        refine ⟨i, by omega, ?_⟩
        split at hiv <;> omega
      · obtain ⟨i, hin, hiv⟩ := ih v (by omega)
        have a1 := h1 i hin
        (try dsimp only at hiv)
        refine ⟨i, by omega, ?_⟩
        split at hiv <;> omega
theorem loT_bit {S : Nat} {a b : Nat → Int} {x y : Nat} : ∀ {n : Nat}, (∀ i, i < n → okL S a b i = true) → ((loT a b n y).testBit x = true ↔ ∃ i, i < n ∧ a i = x ∧ b i = y)
  | 0, _ => by
    show (0 : Nat).testBit x = true ↔ _
    rw [Nat.zero_testBit]
    exact ⟨fun h => (by cases h), fun ⟨i, hi, _⟩ => (by omega)⟩
  | n + 1, h => by
    have ih := loT_bit (x := x) (y := y) (n := n) fun i hi => h i (by omega)
    have h1 := of_decide_eq_true (h n (by omega))
    show (seT (loT a b n) (a n).toNat (b n).toNat y).testBit x = true ↔ _
    unfold seT
    constructor
    · intro hb
      split at hb
      · rename_i e
        rw [testBit_with, Bool.or_eq_true] at hb
        rcases hb with hb | hb
        · obtain ⟨i, hi, h2⟩ := ih.1 hb; exact ⟨i, by omega, h2⟩
        · have := of_decide_eq_true hb; exact ⟨n, by omega, by omega, by omega⟩
      · obtain ⟨i, hi, h2⟩ := ih.1 hb; exact ⟨i, by omega, h2⟩
    · rintro ⟨i, hi, h2, h3⟩
      by_cases e : i = n
      · subst e
        rw [if_pos (by omega), testBit_with, decide_eq_true (by omega), Bool.or_true]
      · have hb := ih.2 ⟨i, by omega, h2, h3⟩
        split
        · rw [testBit_with, hb, Bool.true_or]
        · exact hb
section
variable {S n k : Nat} {a b l : Nat → Int}
end
end Go.Proofs.J

namespace Go.Proofs.J
open Go.As
set_option maxRecDepth 20000
set_option linter.unusedVariables false
set_option linter.unusedSimpArgs false

end Go.Proofs.J

