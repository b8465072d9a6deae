/- What the functions answer that the laws call, one after another (Wlk). -/
import Derived.Test.YtppfddfmcnlioaaAs6
import Derived.Test.YtppfddfmcnlioaaOrd

set_option linter.unusedVariables false
namespace Go.Proofs.J
open Go.As
set_option maxRecDepth 20000
set_option linter.unusedVariables false
set_option linter.unusedSimpArgs false

/-! ### The walk to a circle -/

/-- The first of n with p, n if there is none. -/
def leF (p : Nat → Bool) : Nat → Nat
  | 0 => 0
  | n + 1 => if leF p n < n then leF p n else (if p n = true then n else n + 1)
theorem leF_spec (p : Nat → Bool) : ∀ n, leF p n ≤ n ∧ (∀ j, j < leF p n → p j = false) ∧ (leF p n < n → p (leF p n) = true)
  | 0 => ⟨Nat.le_refl _, fun j hj => absurd hj (Nat.not_lt_zero _), fun h => absurd h (Nat.lt_irrefl _)⟩
  | n + 1 => by
    obtain ⟨h1, h2, h3⟩ := leF_spec p n
    unfold leF
    by_cases hc : leF p n < n
    · rw [if_pos hc]; exact ⟨by omega, h2, fun _ => h3 hc⟩
    · rw [if_neg hc]
      have e : leF p n = n := by omega
      rw [e] at h2
      by_cases hp : p n = true
      · rw [if_pos hp]; exact ⟨by omega, h2, fun _ => hp⟩
      · rw [if_neg hp]
        refine ⟨by omega, fun j hj => ?_, fun h => by omega⟩
        by_cases ej : j = n
        · subst ej; rwa [Bool.not_eq_true] at hp
        · exact h2 j (by omega)
theorem leF_lt {p : Nat → Bool} {n k : Nat} (hk : k < n) (h : p k = true) : leF p n < n := by
  obtain ⟨a1, a2, a3⟩ := leF_spec p n
  by_cases e : leF p n = n
  · rw [e] at a2; rw [a2 k hk] at h; cases h
  · omega
/-- The walk: where it is after i steps. -/
def wkN (S : Nat) (lk br : Nat → Nat) : Nat → Nat
  | 0 => leF (fun x => (br x).testBit x) S
  | i + 1 => leF (fun y => (lk y).testBit (wkN S lk br i) && (br (wkN S lk br i)).testBit y) S
/-- Has the walk been at x before step i? -/
def mkW (S : Nat) (lk br : Nat → Nat) (i : Nat) (x : Nat) : Bool := anyF i fun j => decide (wkN S lk br j = x)
/-- The step at which it is somewhere for the second time, and the one at which it was there first. -/
def enW1 (S : Nat) (lk br : Nat → Nat) : Nat := leF (fun i => mkW S lk br i (wkN S lk br i)) (S + 1)
def enW0 (S : Nat) (lk br : Nat → Nat) : Nat := leF (fun j => decide (wkN S lk br j = wkN S lk br (enW1 S lk br))) (enW1 S lk br)
/-- Looks among S stars, none at a star and itself; what follows from them; some star follows from itself. -/
structure Cy (S : Nat) (lk br : Nat → Nat) : Prop where
  tb : Tb lk
  eq : br = clo lk
  st : ∀ i j, i < 10 → (lk i).testBit j = true → j < S ∧ i < S
  no : ∀ i, i < 10 → (lk i).testBit i = false
  cy : hoB S br = false
section
variable {S : Nat} {lk br : Nat → Nat}
theorem Rch.first {t : Nat → Nat} {j i : Nat} (r : Rch t j i) : ∃ y, (t y).testBit j = true ∧ (y = i ∨ Rch t y i) := by
  induction r with
  | one h => exact ⟨_, h, .inl rfl⟩
  | @step m i h r ih =>
    obtain ⟨y, h1, h2⟩ := ih
    refine ⟨y, h1, .inr ?_⟩
    rcases h2 with h2 | h2
    · subst h2; exact .one h
    · exact .step h h2
theorem Cy.walk (hS : S ≤ 10) (c : Cy S lk br) : ∀ i, wkN S lk br i < S ∧ (br (wkN S lk br i)).testBit (wkN S lk br i) = true
  | 0 => by
    have h := c.cy
    unfold hoB at h
    have h2 : anyF S (fun x => (br x).testBit x) = true := by unfold anyF; rw [h]; rfl
    obtain ⟨x, hx, hp⟩ := anyF_iff.1 h2
    have hl := leF_lt (p := fun x => (br x).testBit x) hx hp
    exact ⟨hl, (leF_spec (fun x => (br x).testBit x) S).2.2 hl⟩
  | i + 1 => by
    obtain ⟨h1, h2⟩ := Cy.walk hS c i
    generalize hx : wkN S lk br i = x at *
    have hw : wkN S lk br (i + 1) = leF (fun y => (lk y).testBit x && (br x).testBit y) S := by rw [← hx]; rfl
    rw [hw]
    rw [c.eq] at h2
    have hr := (clo_bit.1 h2).2
    obtain ⟨y, hy, hyx⟩ := hr.first
    have hyr : Rch lk y x := by
      rcases hyx with e | e
      · subst e; exact hr
      · exact e
    have hy10 : y < 10 := hyr.lt c.tb (by omega)
    have hyS := (c.st y x hy10 hy).2
    have ht : ((lk y).testBit x && (br x).testBit y) = true := by rw [hy, c.eq, Bool.true_and]; exact clo_bit.2 ⟨hy10, hyr⟩
    have hl := leF_lt (p := fun y => (lk y).testBit x && (br x).testBit y) hyS ht
    refine ⟨hl, ?_⟩
    have hs := (leF_spec (fun y => (lk y).testBit x && (br x).testBit y) S).2.2 hl
    generalize leF (fun y => (lk y).testBit x && (br x).testBit y) S = z at *
    rw [Bool.and_eq_true, c.eq] at hs
    have hz := (clo_bit.1 hs.2).2
    rw [c.eq]
    exact clo_bit.2 ⟨by omega, hz.trans (Rch.one hs.1)⟩
theorem Cy.step (hS : S ≤ 10) (c : Cy S lk br) (i : Nat) : ((lk (wkN S lk br (i + 1))).testBit (wkN S lk br i) && (br (wkN S lk br i)).testBit (wkN S lk br (i + 1))) = true :=
  (leF_spec (fun y => (lk y).testBit (wkN S lk br i) && (br (wkN S lk br i)).testBit y) S).2.2 (c.walk hS (i + 1)).1
theorem mkW_iff {i x : Nat} : mkW S lk br i x = true ↔ ∃ j, j < i ∧ wkN S lk br j = x := by
  unfold mkW; rw [anyF_iff]; exact ⟨fun ⟨j, h, e⟩ => ⟨j, h, of_decide_eq_true e⟩, fun ⟨j, h, e⟩ => ⟨j, h, decide_eq_true e⟩⟩
/-- It is somewhere for the second time, after S steps at the latest. -/
theorem Cy.ends (hS : S ≤ 10) (c : Cy S lk br) : enW1 S lk br ≤ S ∧ mkW S lk br (enW1 S lk br) (wkN S lk br (enW1 S lk br)) = true ∧ ∀ j, j < enW1 S lk br → mkW S lk br j (wkN S lk br j) = false := by
  have hex : ∃ i, i < S + 1 ∧ mkW S lk br i (wkN S lk br i) = true := by
    apply Classical.byContradiction
    intro hc
    have hinj : ∀ i j, i < S → j < S → wkN S lk br i = wkN S lk br j → i = j := fun i j hi hj e => by
      rcases Nat.lt_trichotomy i j with h | h | h
      · exact absurd ⟨j, by omega, mkW_iff.2 ⟨i, h, e⟩⟩ hc
      · exact h
      · exact absurd ⟨i, by omega, mkW_iff.2 ⟨j, h, e.symm⟩⟩ hc
    obtain ⟨i, hi, he⟩ := php S (wkN S lk br) (fun i _ => (c.walk hS i).1) hinj _ (c.walk hS S).1
    exact hc ⟨S, by omega, mkW_iff.2 ⟨i, hi, he⟩⟩
  obtain ⟨i, hi, hp⟩ := hex
  have hl := leF_lt (p := fun i => mkW S lk br i (wkN S lk br i)) hi hp
  obtain ⟨_, a2, a3⟩ := leF_spec (fun i => mkW S lk br i (wkN S lk br i)) (S + 1)
  exact ⟨by unfold enW1; omega, a3 hl, a2⟩
theorem Cy.first (hS : S ≤ 10) (c : Cy S lk br) : enW0 S lk br + 2 ≤ enW1 S lk br ∧ wkN S lk br (enW0 S lk br) = wkN S lk br (enW1 S lk br) ∧ ∀ j, j < enW0 S lk br → wkN S lk br j ≠ wkN S lk br (enW1 S lk br) := by
  obtain ⟨h1, h2, _⟩ := c.ends hS
  obtain ⟨j, hj, he⟩ := mkW_iff.1 h2
  have hl := leF_lt (p := fun j => decide (wkN S lk br j = wkN S lk br (enW1 S lk br))) hj (decide_eq_true he)
  obtain ⟨_, a2, a3⟩ := leF_spec (fun j => decide (wkN S lk br j = wkN S lk br (enW1 S lk br))) (enW1 S lk br)
  have hd : wkN S lk br (enW0 S lk br) = wkN S lk br (enW1 S lk br) := of_decide_eq_true (a3 hl)
  have hl' : enW0 S lk br < enW1 S lk br := hl
  refine ⟨?_, hd, fun j hj e => by have := a2 j hj; rw [decide_eq_true e] at this; cases this⟩
  by_cases e : enW1 S lk br = enW0 S lk br + 1
  · exfalso
    have hs := c.step hS (enW0 S lk br)
    rw [← e, ← hd, Bool.and_eq_true, c.no _ (by have := (c.walk hS (enW0 S lk br)).1; omega)] at hs
    cases hs.1
  · omega
end
end Go.Proofs.J

namespace Go.Proofs.J
open Go.As
set_option maxRecDepth 20000
set_option linter.unusedVariables false
set_option linter.unusedSimpArgs false

end Go.Proofs.J

namespace Go.Proofs.J
open Go.As
set_option maxRecDepth 20000
set_option linter.unusedVariables false
set_option linter.unusedSimpArgs false

end Go.Proofs.J

namespace Go.Proofs.J
open Go.As
set_option maxRecDepth 20000
set_option linter.unusedVariables false
set_option linter.unusedSimpArgs false

end Go.Proofs.J

