/- ProofSeen: for all arguments, in whatever world and whatever order of evaluation, the call returns true, and all that was there reads as before. No conditions. The functions that it calls are proved one by one against what the document's definitions answer; the examples at its end are computed by a machine whose soundness stands in the texts ahead. -/
import Derived.Test.YtmfohdhnpanfeaaRows
import Derived.WalkKit
import Derived.ProofKit
import Derived.OpenShut
import Derived.Carry
import Derived.Test.YtmfohdhnpanfeaaLawSn
import Derived.Test.YtmfohdhnpanfeaaRead
namespace Go.Proofs.Ytmfohdhnpanfeaa.proofSeen
open Go.ChangeShapes Go.WideShapes Go.ChangeAt Go.RowKit
set_option linter.unusedVariables false

theorem own : ownKnob Try.prog.godebug = none := by kernel_rfl

set_option maxRecDepth 100000 in
theorem lifted (os : Os) (started : os.Started) (H : Type) (enc : TypeId × Value → H) :
    ReturnsInHanded {} Try.checked os 15 .any (Rows.proofSeenSpec.pre6 enc Try.prog Try.f15 Rows.proofSeenRow.domain false) (Rows.proofSeenSpec.post enc Try.prog Try.f15 false true false false) := by
  refine returnsInHanded_of_change (C := Try.checked) own started (by kernel_rfl) Try.func15
    (ChangeSpec.witness6 (enc := enc) (C := Try.checked) false ⟨#[], #[.int .u8 0, .int .u64 0, .int .u64 0, .int .u8 0, .int .u8 0, .int .u8 0], []⟩ 8 (by kernel_rfl) (by kernel_rfl) (by kernel_rfl) (by kernel_rfl)) ?_
  intro W base args ds gs before hval0 hW hcnd _
  have hval : ∀ (j : Nat) t v, Try.f15.params[j]? = some t → args[j]? = some v → Value.okWide Try.prog W .any base t v := hval0
  have hW' := hW
  obtain ⟨p, q, hA0, hV, rfl, hfz, hnd⟩ := hW
  have hA : DataW.TrodAll enc Try.prog W 0 (fun _ => true) true Try.f15.params.toList args.toList ds p := hA0
  rw [Try.params15] at hA hval
  obtain ⟨rfl, rfl⟩ := trodVars_none hV
  clear hA0 hval0
  obtain ⟨v0, vs0, d0, ds0, p0, q0, hargs, rfl, rfl, h0, r0⟩ := trodAll_cons hA
  obtain ⟨v1, vs1, d1, ds1, p1, q1, rfl, rfl, rfl, h1, r1⟩ := trodAll_cons r0
  obtain ⟨v2, vs2, d2, ds2, p2, q2, rfl, rfl, rfl, h2, r2⟩ := trodAll_cons r1
  obtain ⟨v3, vs3, d3, ds3, p3, q3, rfl, rfl, rfl, h3, r3⟩ := trodAll_cons r2
  obtain ⟨v4, vs4, d4, ds4, p4, q4, rfl, rfl, rfl, h4, r4⟩ := trodAll_cons r3
  obtain ⟨v5, vs5, d5, ds5, p5, q5, rfl, rfl, rfl, h5, r5⟩ := trodAll_cons r4
  obtain ⟨rfl, rfl, rfl⟩ := trodAll_nil r5
  obtain rfl : args = #[v0, v1, v2, v3, v4, v5] := Array.toList_inj.1 hargs
  clear hargs
  simp only [List.append_nil] at hW' hfz
  obtain ⟨n0, rfl, _, _, w0⟩ := open_int Try.underlying5 (hval 0 5 v0 rfl rfl) h0
  have b0 : (0 : Int) ≤ n0 ∧ n0 ≤ 255 := by simp [Lit.wf, IntKind.min, IntKind.max, IntKind.signed, IntKind.bits] at w0; omega
  obtain ⟨n1, rfl, _, _, w1⟩ := open_int Try.underlying75 (hval 1 75 v1 rfl rfl) h1
  have b1 : (0 : Int) ≤ n1 ∧ n1 ≤ 18446744073709551615 := by simp [Lit.wf, IntKind.min, IntKind.max, IntKind.signed, IntKind.bits] at w1; omega
  obtain ⟨n2, rfl, _, _, w2⟩ := open_int Try.underlying75 (hval 2 75 v2 rfl rfl) h2
  have b2 : (0 : Int) ≤ n2 ∧ n2 ≤ 18446744073709551615 := by simp [Lit.wf, IntKind.min, IntKind.max, IntKind.signed, IntKind.bits] at w2; omega
  obtain ⟨n3, rfl, _, _, w3⟩ := open_int Try.underlying5 (hval 3 5 v3 rfl rfl) h3
  have b3 : (0 : Int) ≤ n3 ∧ n3 ≤ 255 := by simp [Lit.wf, IntKind.min, IntKind.max, IntKind.signed, IntKind.bits] at w3; omega
  obtain ⟨n4, rfl, _, _, w4⟩ := open_int Try.underlying5 (hval 4 5 v4 rfl rfl) h4
  have b4 : (0 : Int) ≤ n4 ∧ n4 ≤ 255 := by simp [Lit.wf, IntKind.min, IntKind.max, IntKind.signed, IntKind.bits] at w4; omega
  obtain ⟨n5, rfl, _, _, w5⟩ := open_int Try.underlying5 (hval 5 5 v5 rfl rfl) h5
  have b5 : (0 : Int) ≤ n5 ∧ n5 ≤ 255 := by simp [Lit.wf, IntKind.min, IntKind.max, IntKind.signed, IntKind.bits] at w5; omega
  have hw : Calls Try.prog 15 ([.int .u8 n0, .int .u64 n1, .int .u64 n2, .int .u8 n3, .int .u8 n4, .int .u8 n5] : List Value).toArray W (fun r w' => r = .returned (.bool true) ∧ Go.As.Fr W w') := by
    have hc := Go.Proofs.Q.lawSeen Go.As.H.empty n0 b0 n1 b1 n2 b2 n3 b3 n4 b4 n5 b5
    have hv : Go.As.VRs (Go.As.mW W) [.int .u8 n0, .int .u64 n1, .int .u64 n2, .int .u8 n3, .int .u8 n4, .int .u8 n5] [.int .u8 n0, .int .u64 n1, .int .u64 n2, .int .u8 n3, .int .u8 n4, .int .u8 n5] := .cons (.int _ _) (.cons (.int _ _) (.cons (.int _ _) (.cons (.int _ _) (.cons (.int _ _) (.cons (.int _ _) (.nil _))))))
    refine Calls.mono (callsIn_wide.1 (hc.walk (Go.As.hrW W) hv)) ?_
    rintro r w' ⟨m', y, rfl, hy, hf⟩
    cases hy
    exact ⟨rfl, hf⟩
  refine hw.mono fun r W' ⟨hr, hf⟩ => ?_
  subst hr
  exact ⟨_, rfl, Go.As.post_law (by kernel_rfl) (by kernel_rfl) (by kernel_rfl) (by rw [Try.params15]; decide +kernel) hW' rfl (fun _ _ _ => (trodAll_cons_mk (shut_bool Try.underlying4 _) trodAll_mk0)) rfl rfl hf
    (ok_one (by kernel_rfl) rfl (okWide_bool_mk Try.underlying4 _))⟩

theorem over : Rows.proofSeenRow.holds Try.pinned (OpenSpec.ofChange Rows.proofSeenSpec) :=
  OpenClaim.holds_of_wide 15 Try.f15 rfl rfl rfl rfl rfl rfl rfl ⟨rfl, rfl, rfl, rfl, rfl⟩ rfl rfl rfl rfl rfl (by kernel_rfl) Try.func15 (by kernel_rfl)
    (of_decide_eq_true (by kernel_rfl)) (by unfold Func.isWrapper; first | (rw [if_pos (by decide +kernel)]; kernel_rfl) | (rw [if_neg (by decide +kernel)]; exact ⟨rfl, rfl⟩))
    (fun os started H enc _ => lifted os started H enc)

/-- ████ THE STATEMENT ████ -/
theorem proved : Rows.ProofSeenSaid :=
  over
end Go.Proofs.Ytmfohdhnpanfeaa.proofSeen
