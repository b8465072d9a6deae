/- CometOnlys: for all arguments, in whatever world and whatever order of evaluation, the call returns true, and all that was there reads as before. No conditions. The functions that it calls are proved one by one against what the document's definitions answer; the examples at its end are computed by a machine whose soundness stands in the texts ahead. -/
import Derived.Test.YtgcnflpgolnjeaaRows
import Derived.Test.YtgcnflpgolnjeaaOnyX
import Derived.WalkKit
import Derived.ProofKit
import Derived.OpenShut
import Derived.Carry
namespace Go.Proofs.Ytgcnflpgolnjeaa.cometOnlys
open Go.ChangeShapes Go.WideShapes Go.ChangeAt Go.RowKit
set_option linter.unusedVariables false

theorem own : ownKnob Try.prog.godebug = none := by kernel_rfl

set_option maxRecDepth 100000 in
theorem lifted (os : Os) (started : os.Started) (H : Type) (enc : TypeId × Value → H) :
    ReturnsInHanded {} Try.checked os 6 .any (Rows.cometOnlysSpec.pre6 enc Try.prog Try.f6 Rows.cometOnlysRow.domain false) (Rows.cometOnlysSpec.post enc Try.prog Try.f6 false true false false) := by
  refine returnsInHanded_of_change (C := Try.checked) own started (by kernel_rfl) Try.func6
    (ChangeSpec.witness6 (enc := enc) (C := Try.checked) false ⟨#[], #[.agg #[.int .i64 0, .slice none 0 0], .int .i64 0], []⟩ 8 (by kernel_rfl) (by kernel_rfl) (by kernel_rfl) (by kernel_rfl)) ?_
  intro W base args ds gs before hval0 hW hcnd _
  have hval : ∀ (j : Nat) t v, Try.f6.params[j]? = some t → args[j]? = some v → Value.okWide Try.prog W .any base t v := hval0
  have hW' := hW
  obtain ⟨p, q, hA0, hV, rfl, hfz, hnd⟩ := hW
  have hA : DataW.TrodAll enc Try.prog W 0 (fun _ => true) true Try.f6.params.toList args.toList ds p := hA0
  rw [Try.params6] at hA hval
  obtain ⟨rfl, rfl⟩ := trodVars_none hV
  clear hA0 hval0
  obtain ⟨v0, vs0, d0, ds0, p0, q0, hargs, rfl, rfl, h0, r0⟩ := trodAll_cons hA
  obtain ⟨v1, vs1, d1, ds1, p1, q1, rfl, rfl, rfl, h1, r1⟩ := trodAll_cons r0
  obtain ⟨rfl, rfl, rfl⟩ := trodAll_nil r1
  obtain rfl : args = #[v0, v1] := Array.toList_inj.1 hargs
  clear hargs
  simp only [List.append_nil] at hW' hfz
  obtain ⟨D0, n0, a0, b0, hn0, vr0⟩ := Go.Proofs.K.log_read (hval 0 33 v0 rfl rfl) h0 (fun b off hp => hfz b off (by simp [hp]))
  obtain ⟨n1, rfl, _, _, w1⟩ := open_int Try.underlying3 (hval 1 3 v1 rfl rfl) h1
  have hw : Calls Try.prog 6 ([v0, .int .i64 n1] : List Value).toArray W (fun r w' => r = .returned (.bool true) ∧ Go.As.Fr W w') := by
    have hc := Go.Proofs.K.lawOnlys Go.As.H.empty D0 n0 a0 b0 hn0 n1
    have hv : Go.As.VRs (Go.As.mW W) [(Go.Proofs.K.lgV D0 false n0 a0 b0), .int .i64 n1] [v0, .int .i64 n1] := .cons (vr0) (.cons (.int _ _) (.nil _))
    refine Calls.mono (callsIn_wide.1 (hc.walk (Go.As.hrW W) hv)) ?_
    rintro r w' ⟨m', y, rfl, hy, hf⟩
    cases hy
    exact ⟨rfl, hf⟩
  refine hw.mono fun r W' ⟨hr, hf⟩ => ?_
  subst hr
  exact ⟨_, rfl, Go.As.post_law (by kernel_rfl) (by kernel_rfl) (by kernel_rfl) (by rw [Try.params6]; decide +kernel) hW' rfl (fun _ _ _ => (trodAll_cons_mk (shut_bool Try.underlying4 _) trodAll_mk0)) rfl rfl hf
    (ok_one (by kernel_rfl) rfl (okWide_bool_mk Try.underlying4 _))⟩

theorem over : Rows.cometOnlysRow.holds Try.pinned (OpenSpec.ofChange Rows.cometOnlysSpec) :=
  OpenClaim.holds_of_wide 6 Try.f6 rfl rfl rfl rfl rfl rfl rfl ⟨rfl, rfl, rfl, rfl, rfl⟩ rfl rfl rfl rfl rfl (by kernel_rfl) Try.func6 (by kernel_rfl)
    (of_decide_eq_true (by kernel_rfl)) (by unfold Func.isWrapper; first | (rw [if_pos (by decide +kernel)]; kernel_rfl) | (rw [if_neg (by decide +kernel)]; exact ⟨rfl, rfl⟩))
    (fun os started H enc _ => lifted os started H enc)

/-- ████ THE STATEMENT ████ -/
theorem proved : Rows.CometOnlysSaid :=
  over
end Go.Proofs.Ytgcnflpgolnjeaa.cometOnlys
