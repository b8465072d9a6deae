/- What the functions answer that the laws call, one after another (Rd2). -/
import Derived.Test.YtgcnflpgolnjeaaAs6
import Derived.Test.YtgcnflpgolnjeaaRows
import Derived.WalkKit
import Derived.ProofKit
import Derived.OpenShut
import Derived.Carry
import Derived.Test.YtgcnflpgolnjeaaSti
import Derived.Test.YtgcnflpgolnjeaaRead
set_option linter.unusedVariables false
set_option linter.unusedSimpArgs false
namespace Go.Proofs.K
open Go.As Go.ChangeShapes Go.WideShapes Go.Deep Go.ChangeAt Go.RowKit
set_option maxRecDepth 20000
section
variable {H : Type} {enc : TypeId × Value → H} {W : World}
theorem by4_read {v : Value} {d : DataW H} {ps : List MemPlace} {b0 : Nat} (hok : Value.okWide Try.prog W .any b0 47 v) (hd : DataW.Trod enc Try.prog W 0 (fun _ => true) true 47 v d ps) (hz : W.noneFrozen ps) :
    ∃ (p : Nat → Int), VR (mW W) (byV p) v := by
  simp only [Value.okWide, Try.underlying47] at hok
  obtain ⟨cs, rfl, hsz, ts, hts, _, hcell⟩ := hok
  have hts' : Try.prog.cellTypes Try.prog.depth 47 = some [46, 46, 46, 46] := by kernel_rfl
  rw [hts'] at hts
  cases hts
  have c25 : Try.prog.cellsOf 47 = 4 := by kernel_rfl
  rw [c25] at hsz
  have key : ∀ (i : Nat) (w : Value), Cell.okWide Try.prog W .any b0 46 w → ∃ x : Int, w = .int .i8 x := fun i w hw => by
    simp only [Cell.okWide, Try.underlying46, Cell.ok] at hw
    cases w <;> simp at hw
    rename_i k x
    exact ⟨x, by simp_all⟩
  obtain ⟨csl⟩ := cs
  match csl, hsz, hcell with
  | [a0, a1, a2, a3], _, hcell =>
  have g : ∀ (i : Nat) (w : Value), [a0, a1, a2, a3][i]? = some w → ∃ x : Int, w = .int .i8 x := fun i w hw => by
    obtain ⟨t, ht, hc⟩ := hcell i w (by simpa using hw)
    have hl : i < 4 := (List.getElem?_eq_some_iff.1 hw).1
    match i, hl with
    | 0, _ => cases ht; exact key 0 w hc
    | 1, _ => cases ht; exact key 0 w hc
    | 2, _ => cases ht; exact key 0 w hc
    | 3, _ => cases ht; exact key 0 w hc
  obtain ⟨x0, rfl⟩ := g 0 a0 rfl
  obtain ⟨x1, rfl⟩ := g 1 a1 rfl
  obtain ⟨x2, rfl⟩ := g 2 a2 rfl
  obtain ⟨x3, rfl⟩ := g 3 a3 rfl
  exact ⟨gL [x0, x1, x2, x3], Go.As.VRs.agg (.cons (.int _ _) (.cons (.int _ _) (.cons (.int _ _) (.cons (.int _ _) (.nil _)))))⟩
end
end Go.Proofs.K
