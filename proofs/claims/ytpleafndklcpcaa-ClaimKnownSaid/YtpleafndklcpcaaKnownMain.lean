/- ClaimKnown: called with nothing, in whatever world and whatever order of evaluation, the call returns true, and all that was there reads as before. No conditions. The call is computed by a machine whose soundness stands in the texts ahead of this one; what goes through a map is proved beside it, for whatever order. -/
import Derived.Test.YtpleafndklcpcaaRows
import Derived.WalkKit
import Derived.ProofKit
import Derived.OpenShut
import Derived.Test.YtpleafndklcpcaaKnw
namespace Go.Proofs.Ytpleafndklcpcaa.claimKnown
open Go.ChangeShapes Go.WideShapes Go.ChangeAt Go.RowKit
set_option linter.unusedVariables false

theorem own : ownKnob Try.prog.godebug = none := by kernel_rfl

theorem walk (w : World) : Calls Try.prog 16 #[] w fun e w' => e = .returned (.bool true) ∧ w'.os = w.os ∧ w'.output = w.output ∧ ∀ r, r < w.heap.size → w'.heap[r]? = w.heap[r]? := by
  refine Calls.mono (callsIn_wide.1 ((Go.Proofs.Q.kwhole).calls (xs := []) (.nil _) w)) ?_
  rintro e w' ⟨m, x, rfl, hv, ho, _, hp, _, hf⟩
  cases hv
  exact ⟨rfl, ho, hp, hf⟩

set_option maxRecDepth 100000 in
theorem lifted (os : Os) (started : os.Started) (H : Type) (enc : TypeId × Value → H) :
    ReturnsInHanded {} Try.checked os 16 .any (Rows.claimKnownSpec.pre6 enc Try.prog Try.f16 Rows.claimKnownRow.domain false) (Rows.claimKnownSpec.post enc Try.prog Try.f16 false true false false) := by
  refine returnsInHanded_of_change (C := Try.checked) own started (by kernel_rfl) Try.func16
    (ChangeSpec.witness6 (enc := enc) (C := Try.checked) false ⟨#[], #[], []⟩ 8 (by kernel_rfl) (by kernel_rfl) (by kernel_rfl) (by kernel_rfl)) ?_
  intro W base args ds gs before hval0 hW hcnd _
  have hval : ∀ (j : Nat) t v, Try.f16.params[j]? = some t → args[j]? = some v → Value.okWide Try.prog W .any base t v := hval0
  have hW' := hW
  obtain ⟨p, q, hA0, hV, rfl, hfz, hnd⟩ := hW
  have hA : DataW.TrodAll enc Try.prog W 0 (fun _ => true) true Try.f16.params.toList args.toList ds p := hA0
  rw [Try.params16] at hA hval
  obtain ⟨rfl, rfl, rfl⟩ := trodAll_none hA
  obtain ⟨rfl, rfl⟩ := trodVars_none hV
  clear hA0 hval0
  simp only [List.append_nil] at hW'
  refine (walk W).mono fun e W' ⟨he, ho, hp, hf⟩ => ?_
  subst he
  exact ⟨_, rfl, Go.As.post_closed hW' (fun _ _ _ => (trodAll_cons_mk (shut_bool Try.underlying4 _) trodAll_mk0)) (fun _ => rfl) (fun _ => rfl)
    (Go.As.keptBut_of_frame ho hp hf _) (ok_one (by kernel_rfl) rfl (okWide_bool_mk Try.underlying4 _))⟩

theorem over : Rows.claimKnownRow.holds Try.pinned (OpenSpec.ofChange Rows.claimKnownSpec) :=
  OpenClaim.holds_of_wide 16 Try.f16 rfl rfl rfl rfl rfl rfl rfl ⟨rfl, rfl, rfl, rfl, rfl⟩ rfl rfl rfl rfl rfl (by kernel_rfl) Try.func16 (by kernel_rfl)
    (of_decide_eq_true (by kernel_rfl)) (by unfold Func.isWrapper; first | (rw [if_pos (by decide +kernel)]; kernel_rfl) | (rw [if_neg (by decide +kernel)]; exact ⟨rfl, rfl⟩))
    (fun os started H enc _ => lifted os started H enc)

/-- ████ THE STATEMENT ████ -/
theorem proved : Rows.ClaimKnownSaid :=
  over
end Go.Proofs.Ytpleafndklcpcaa.claimKnown

