/- CometOnly: for all arguments, in whatever world and whatever order of evaluation, the call returns true, and all that was there reads as before. No conditions. The functions that it calls are proved one by one against what the document's definitions answer; the examples at its end are computed by a machine whose soundness stands in the texts ahead. -/
import Derived.Test.YtgcnflpgolnjeaaRows
import Derived.Test.YtgcnflpgolnjeaaOnlX
import Derived.WalkKit
import Derived.ProofKit
import Derived.OpenShut
import Derived.Carry
namespace Go.Proofs.Ytgcnflpgolnjeaa.cometOnly
open Go.ChangeShapes Go.WideShapes Go.ChangeAt Go.RowKit
set_option linter.unusedVariables false

theorem own : ownKnob Try.prog.godebug = none := by kernel_rfl

set_option maxRecDepth 100000 in
theorem lifted (os : Os) (started : os.Started) (H : Type) (enc : TypeId × Value → H) :
    ReturnsInHanded {} Try.checked os 8 .any (Rows.cometOnlySpec.pre6 enc Try.prog Try.f8 Rows.cometOnlyRow.domain false) (Rows.cometOnlySpec.post enc Try.prog Try.f8 false true false false) := by
  refine returnsInHanded_of_change (C := Try.checked) own started (by kernel_rfl) Try.func8
    (ChangeSpec.witness6 (enc := enc) (C := Try.checked) false ⟨#[], #[.int .u8 0, .agg #[.int .i8 0, .int .i8 0, .int .i8 0, .int .i8 0], .slice none 0 0, .slice none 0 0], []⟩ 8 (by kernel_rfl) (by kernel_rfl) (by kernel_rfl) (by kernel_rfl)) ?_
  intro W base args ds gs before hval0 hW hcnd _
  have hval : ∀ (j : Nat) t v, Try.f8.params[j]? = some t → args[j]? = some v → Value.okWide Try.prog W .any base t v := hval0
  have hW' := hW
  obtain ⟨p, q, hA0, hV, rfl, hfz, hnd⟩ := hW
  have hA : DataW.TrodAll enc Try.prog W 0 (fun _ => true) true Try.f8.params.toList args.toList ds p := hA0
  rw [Try.params8] at hA hval
  obtain ⟨rfl, rfl⟩ := trodVars_none hV
  clear hA0 hval0
  obtain ⟨v0, vs0, d0, ds0, p0, q0, hargs, rfl, rfl, h0, r0⟩ := trodAll_cons hA
  obtain ⟨v1, vs1, d1, ds1, p1, q1, rfl, rfl, rfl, h1, r1⟩ := trodAll_cons r0
  obtain ⟨v2, vs2, d2, ds2, p2, q2, rfl, rfl, rfl, h2, r2⟩ := trodAll_cons r1
  obtain ⟨v3, vs3, d3, ds3, p3, q3, rfl, rfl, rfl, h3, r3⟩ := trodAll_cons r2
  obtain ⟨rfl, rfl, rfl⟩ := trodAll_nil r3
  obtain rfl : args = #[v0, v1, v2, v3] := Array.toList_inj.1 hargs
  clear hargs
  simp only [List.append_nil] at hW' hfz
  obtain ⟨n0, rfl, _, _, w0⟩ := open_int Try.underlying5 (hval 0 5 v0 rfl rfl) h0
  have b0 : (0 : Int) ≤ n0 ∧ n0 ≤ 255 := by simp [Lit.wf, IntKind.min, IntKind.max, IntKind.signed, IntKind.bits] at w0; omega
  obtain ⟨p1, vr1⟩ := Go.Proofs.K.by4_read (hval 1 47 v1 rfl rfl) h1 (fun b off hp => hfz b off (by simp [hp]))
  obtain ⟨k2, a2, hk2, ha2, vr2⟩ := Go.Proofs.K.bytes_read (hval 2 52 v2 rfl rfl) h2 (fun b off hp => hfz b off (by simp [hp]))
  obtain ⟨k3, a3, hk3, ha3, vr3⟩ := Go.Proofs.K.bytes_read (hval 3 52 v3 rfl rfl) h3 (fun b off hp => hfz b off (by simp [hp]))
  have hw : Calls Try.prog 8 ([.int .u8 n0, v1, v2, v3] : List Value).toArray W (fun r w' => r = .returned (.bool true) ∧ Go.As.Fr W w') := by
    have hc := Go.Proofs.K.lawOnly Go.As.H.empty n0 b0 p1 k2 a2 hk2 ha2 k3 a3 hk3 ha3
    have hv : Go.As.VRs (Go.As.mW W) [.int .u8 n0, (Go.Proofs.K.byV p1), (.rsl false 1 k2 (Go.Proofs.K.bG a2)), (.rsl false 1 k3 (Go.Proofs.K.bG a3))] [.int .u8 n0, v1, v2, v3] := .cons (.int _ _) (.cons (vr1) (.cons (vr2) (.cons (vr3) (.nil _))))
    refine Calls.mono (callsIn_wide.1 (hc.walk (Go.As.hrW W) hv)) ?_
    rintro r w' ⟨m', y, rfl, hy, hf⟩
    cases hy
    exact ⟨rfl, hf⟩
  refine hw.mono fun r W' ⟨hr, hf⟩ => ?_
  subst hr
  exact ⟨_, rfl, Go.As.post_law (by kernel_rfl) (by kernel_rfl) (by kernel_rfl) (by rw [Try.params8]; decide +kernel) hW' rfl (fun _ _ _ => (trodAll_cons_mk (shut_bool Try.underlying4 _) trodAll_mk0)) rfl rfl hf
    (ok_one (by kernel_rfl) rfl (okWide_bool_mk Try.underlying4 _))⟩

theorem over : Rows.cometOnlyRow.holds Try.pinned (OpenSpec.ofChange Rows.cometOnlySpec) :=
  OpenClaim.holds_of_wide 8 Try.f8 rfl rfl rfl rfl rfl rfl rfl ⟨rfl, rfl, rfl, rfl, rfl⟩ rfl rfl rfl rfl rfl (by kernel_rfl) Try.func8 (by kernel_rfl)
    (of_decide_eq_true (by kernel_rfl)) (by unfold Func.isWrapper; first | (rw [if_pos (by decide +kernel)]; kernel_rfl) | (rw [if_neg (by decide +kernel)]; exact ⟨rfl, rfl⟩))
    (fun os started H enc _ => lifted os started H enc)

/-- ████ THE STATEMENT ████ -/
theorem proved : Rows.CometOnlySaid :=
  over
end Go.Proofs.Ytgcnflpgolnjeaa.cometOnly
