/- PlateForms: for all arguments, in whatever world and whatever order of evaluation, the call returns true, and all that was there reads as before. No conditions. The functions that it calls are proved one by one against what the document's definitions answer; the examples at its end are computed by a machine whose soundness stands in the texts ahead. -/
import Derived.Test.YtjkgnkhbbnmgbaaRows
import Derived.WalkKit
import Derived.ProofKit
import Derived.OpenShut
import Derived.Carry
import Derived.Test.YtjkgnkhbbnmgbaaForms
import Derived.Test.YtjkgnkhbbnmgbaaRead
namespace Go.Proofs.Ytjkgnkhbbnmgbaa.plateForms
open Go.ChangeShapes Go.WideShapes Go.ChangeAt Go.RowKit
set_option linter.unusedVariables false

theorem own : ownKnob Try.prog.godebug = none := by kernel_rfl

set_option maxRecDepth 100000 in
theorem lifted (os : Os) (started : os.Started) (H : Type) (enc : TypeId × Value → H) :
    ReturnsInHanded {} Try.checked os 7 .any (Rows.plateFormsSpec.pre6 enc Try.prog Try.f7 Rows.plateFormsRow.domain false) (Rows.plateFormsSpec.post enc Try.prog Try.f7 false true false false) := by
  refine returnsInHanded_of_change (C := Try.checked) own started (by kernel_rfl) Try.func7
    (ChangeSpec.witness6 (enc := enc) (C := Try.checked) false ⟨#[], #[.agg #[.int .i64 0, .slice none 0 0], .agg #[.int .i64 0, .slice none 0 0], .slice none 0 0], []⟩ 8 (by kernel_rfl) (by kernel_rfl) (by kernel_rfl) (by kernel_rfl)) ?_
  intro W base args ds gs before hval0 hW hcnd _
  have hval : ∀ (j : Nat) t v, Try.f7.params[j]? = some t → args[j]? = some v → Value.okWide Try.prog W .any base t v := hval0
  have hW' := hW
  obtain ⟨p, q, hA0, hV, rfl, hfz, hnd⟩ := hW
  have hA : DataW.TrodAll enc Try.prog W 0 (fun _ => true) true Try.f7.params.toList args.toList ds p := hA0
  rw [Try.params7] at hA hval
  obtain ⟨rfl, rfl⟩ := trodVars_none hV
  clear hA0 hval0
  obtain ⟨v0, vs0, d0, ds0, p0, q0, hargs, rfl, rfl, h0, r0⟩ := trodAll_cons hA
  obtain ⟨v1, vs1, d1, ds1, p1, q1, rfl, rfl, rfl, h1, r1⟩ := trodAll_cons r0
  obtain ⟨v2, vs2, d2, ds2, p2, q2, rfl, rfl, rfl, h2, r2⟩ := trodAll_cons r1
  obtain ⟨rfl, rfl, rfl⟩ := trodAll_nil r2
  obtain rfl : args = #[v0, v1, v2] := Array.toList_inj.1 hargs
  clear hargs
  simp only [List.append_nil] at hW' hfz
  obtain ⟨n0, L0, x0, rfl, hl0, hx0⟩ := P.plate_read (hval 0 24 v0 rfl rfl) h0 (fun b off hp => hfz b off (by simp [hp]))
  obtain ⟨n1, L1, x1, rfl, hl1, hx1⟩ := P.plate_read (hval 1 24 v1 rfl rfl) h1 (fun b off hp => hfz b off (by simp [hp]))
  obtain ⟨L2, hl2, hx2⟩ := P.list_read (hval 2 22 v2 rfl rfl) h2 (fun b off hp => hfz b off (by simp [hp]))
  have hw : Calls Try.prog 7 ([.agg #[.int .i64 n0, x0], .agg #[.int .i64 n1, x1], v2] : List Value).toArray W (fun r w' => r = .returned (.bool true) ∧ Go.As.Fr W w') := by
    obtain ⟨mo0, pl0, k0⟩ := hx0.mk
    obtain ⟨s0, a0, c0⟩ := k0 0
    obtain ⟨mo1, pl1, k1⟩ := hx1.mk
    obtain ⟨s1, a1, c1⟩ := k1 1
    obtain ⟨mo2, pl2, k2⟩ := hx2.mk
    obtain ⟨s2, a2, c2⟩ := k2 2
    have hr := Go.As.hr_views (W := W) (mos := [mo0, mo1, mo2]) (Ls := [(P.iVs L0), (P.iVs L1), (P.iVs L2)]) rfl (fun i L' m' hL hm => by
      match i with
      | 0 => simp at hL hm; subst hL; subst hm; exact pl0
      | 1 => simp at hL hm; subst hL; subst hm; exact pl1
      | 2 => simp at hL hm; subst hL; subst hm; exact pl2
      | i + 3 => simp at hL)
    have hc := P.plateForms_ok (Go.As.hp (Go.As.flatBlks [(P.iVs L0), (P.iVs L1), (P.iVs L2)])) n0 L0 hl0 s0 (a0 _ (by rw [Go.As.hp_get]; rfl)) n1 L1 hl1 s1 (a1 _ (by rw [Go.As.hp_get]; rfl)) L2 hl2 s2 (a2 _ (by rw [Go.As.hp_get]; rfl))
    have hv : Go.As.VRs (fun i => ([mo0, mo1, mo2][i]?).join) [.agg [.int .i64 n0, s0], .agg [.int .i64 n1, s1], s2] [.agg #[.int .i64 n0, x0], .agg #[.int .i64 n1, x1], v2] := .cons (Go.As.VRs.agg (.cons (.int _ _) (.cons (c0 _ rfl) (.nil _)))) (.cons (Go.As.VRs.agg (.cons (.int _ _) (.cons (c1 _ rfl) (.nil _)))) (.cons (c2 _ rfl) (.nil _)))
    refine Calls.mono (callsIn_wide.1 (hc.walk hr hv)) ?_
    rintro r w' ⟨m', y, rfl, hy, hf⟩
    cases hy
    exact ⟨rfl, hf⟩
  refine hw.mono fun r W' ⟨hr, hf⟩ => ?_
  subst hr
  exact ⟨_, rfl, Go.As.post_law (by kernel_rfl) (by kernel_rfl) (by kernel_rfl) (by rw [Try.params7]; decide +kernel) hW' rfl (fun _ _ _ => (trodAll_cons_mk (shut_bool Try.underlying4 _) trodAll_mk0)) rfl rfl hf
    (ok_one (by kernel_rfl) rfl (okWide_bool_mk Try.underlying4 _))⟩

theorem over : Rows.plateFormsRow.holds Try.pinned (OpenSpec.ofChange Rows.plateFormsSpec) :=
  OpenClaim.holds_of_wide 7 Try.f7 rfl rfl rfl rfl rfl rfl rfl ⟨rfl, rfl, rfl, rfl, rfl⟩ rfl rfl rfl rfl rfl (by kernel_rfl) Try.func7 (by kernel_rfl)
    (of_decide_eq_true (by kernel_rfl)) (by unfold Func.isWrapper; first | (rw [if_pos (by decide +kernel)]; kernel_rfl) | (rw [if_neg (by decide +kernel)]; exact ⟨rfl, rfl⟩))
    (fun os started H enc _ => lifted os started H enc)

/-- ████ THE STATEMENT ████ -/
theorem proved : Rows.PlateFormsSaid :=
  over
end Go.Proofs.Ytjkgnkhbbnmgbaa.plateForms
