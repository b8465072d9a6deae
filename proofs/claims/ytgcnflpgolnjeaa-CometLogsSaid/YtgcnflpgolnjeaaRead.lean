/- What the functions answer that the laws call, one after another (Read). -/
import Derived.Test.YtgcnflpgolnjeaaAs6
import Derived.Test.YtgcnflpgolnjeaaRows
import Derived.WalkKit
import Derived.ProofKit
import Derived.OpenShut
import Derived.Carry
import Derived.Test.YtgcnflpgolnjeaaB0

set_option linter.unusedVariables false
namespace Go.Proofs.K
open Go.As Go.ChangeShapes Go.WideShapes Go.Deep Go.ChangeAt Go.RowKit
set_option maxRecDepth 20000
set_option linter.unusedVariables false

section
variable {H : Type} {enc : TypeId × Value → H} {W : World}

theorem l_read {fuel : Nat} {v : Value} {d : DataW H} {ps : List MemPlace} {b0 : Nat} (h : DataW.trod enc Try.prog W 0 (fun _ => true) true fuel 22 [v] = some (d, ps)) (hz : W.noneFrozen ps) (hok : Cell.okWide Try.prog W .any b0 22 v) :
    ∃ (n : Nat) (a : Nat → Int), n ≤ 9223372036854775807 ∧ FR (zW W) (.rsl false 1 n (iG a)) v := by
  rcases slice_read (n := 5) (k := 1) Try.underlying22 (by kernel_rfl) (by kernel_rfl) h hz hok with rfl | ⟨ad, len, cap, f, c, et, flo, fhi, rfl, hlc, hlm, hb, hcs⟩
  · exact ⟨0, fun _ => 0, by simp, .rsl0⟩
  · refine ⟨len, f, hlm, FR.ints hlc hb hcs (fun i hi => ⟨rfl, fun j v hv => ?_⟩)⟩
    match j with
    | 0 => simp [iG] at hv; rw [← hv, Nat.mul_one, Nat.add_zero]
    | j + 1 => simp [iG] at hv
theorem longs_read {v : Value} {d : DataW H} {ps : List MemPlace} {b0 : Nat} (hok : Value.okWide Try.prog W .any b0 22 v) (hd : DataW.Trod enc Try.prog W 0 (fun _ => true) true 22 v d ps) (hz : W.noneFrozen ps) :
    ∃ (n : Nat) (a : Nat → Int), n ≤ 9223372036854775807 ∧ VR (mW W) (.rsl false 1 n (iG a)) v := by
  obtain ⟨fuel, hf⟩ := hd
  have hc : v.cells.toList = [v] ∧ Cell.okWide Try.prog W .any b0 22 v := by
    simp only [Value.okWide, Try.underlying22] at hok
    cases v <;> first | exact ⟨rfl, hok⟩ | (simp [Cell.okWide, Cell.ok, Try.underlying22] at hok)
  have hf' : DataW.trod enc Try.prog W 0 (fun _ => true) true fuel 22 [v] = some (d, ps) := by rw [← hc.1]; exact hf
  obtain ⟨n, a, h1, h2⟩ := l_read hf' hz hc.2
  exact ⟨n, a, h1, h2.vr⟩
end
end Go.Proofs.K

