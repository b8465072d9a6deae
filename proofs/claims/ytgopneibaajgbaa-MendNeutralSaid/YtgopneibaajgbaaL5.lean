/- What the functions answer that the laws call, one after another (L5). -/
import Derived.Test.YtgopneibaajgbaaAs6
import Derived.Test.YtgopneibaajgbaaL4

set_option linter.unusedVariables false
namespace Go.Proofs.H
open Go.As
set_option maxRecDepth 20000
set_option linter.unusedVariables false
set_option linter.unusedSimpArgs false

/-! ### Blows one after another -/

section
variable {n : Nat} {A : Nat → Nat → Int} {w : Nat → Int}
theorem Mid.trans {a : Nat → Int} {s t : F2} (m : Mid n A w a s) (m2 : Mid n A w s.1 t) : Mid n A w a (t.1, fun k => s.2 k + t.2 k) where
  nn := m2.nn
  eq := fun k hk => by
    dsimp only
    rw [m2.eq k hk, m.eq k hk, dl_add]; omega
  vn := fun k hk => by have := m.vn k hk; have := m2.vn k hk; dsimp only; omega
  pv := fun k hk => by have := m.pv k hk; have := m2.pv k hk; dsimp only; omega
  least := fun v hv hf k hk => by
    have h1 := m.least v hv hf
    have h2 := m2.least (fun k => v k - s.2 k) (fun k hk => by have := h1 k hk; (try dsimp only); omega) (fun k hk => by
      rw [dl_sub, m.eq k hk]
      have := hf k hk
      omega) k hk
    dsimp only at h2 ⊢
    omega
/-- With dents laid upon it. -/
theorem Mid.add {a b : Nat → Int} (hb : ∀ k, k < n → 0 ≤ b k) {s : F2} (m : Mid n A w a s) : Mid n A w (fun k => a k + b k) (fun k => s.1 k + b k, s.2) where
  nn := fun k hk => by have := m.nn k hk; have := hb k hk; dsimp only; omega
  eq := fun k hk => by have := m.eq k hk; dsimp only; omega
  vn := m.vn
  pv := fun k hk => by
    have := m.pv k hk
    have e : ∀ f g : Nat → Int, pt n w (fun k => f k + g k) = pt n w f + pt n w g := fun f g => by
      unfold pt
      rw [← sm_add]
      exact sm_congr fun k _ => Int.mul_add _ _ _
    dsimp only
    rw [e, e]; omega
  least := fun v hv hf => m.least v hv fun k hk => by have := hf k hk; have := hb k hk; (try dsimp only at this); omega
end
end Go.Proofs.H

