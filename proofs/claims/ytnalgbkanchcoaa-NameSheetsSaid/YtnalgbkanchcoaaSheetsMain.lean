/- NameSheets: for every sheet and every list of numbers, in whatever world and whatever order of evaluation, the call returns true, and all that was there reads as before. No conditions. The functions that it calls are proved one by one against what the document's definitions answer; the examples at its end are computed by a machine whose soundness stands in the texts ahead. -/
import Derived.Test.YtnalgbkanchcoaaRows
import Derived.WalkKit
import Derived.ProofKit
import Derived.OpenShut
import Derived.Carry
import Derived.Test.YtnalgbkanchcoaaOwn4
namespace Go.Proofs.Ytnalgbkanchcoaa.nameSheets
open Go.ChangeShapes Go.WideShapes Go.ChangeAt Go.RowKit
set_option linter.unusedVariables false

theorem own : ownKnob Try.prog.godebug = none := by kernel_rfl

set_option maxRecDepth 100000 in
theorem lifted (os : Os) (started : os.Started) (H : Type) (enc : TypeId × Value → H) :
    ReturnsInHanded {} Try.checked os 3 .any (Rows.nameSheetsSpec.pre6 enc Try.prog Try.f3 Rows.nameSheetsRow.domain false) (Rows.nameSheetsSpec.post enc Try.prog Try.f3 false true false false) := by
  refine returnsInHanded_of_change (C := Try.checked) own started (by kernel_rfl) Try.func3
    (ChangeSpec.witness6 (enc := enc) (C := Try.checked) false ⟨#[], #[.agg #[.int .i64 0, .slice none 0 0, .slice none 0 0], .slice none 0 0], []⟩ 8 (by kernel_rfl) (by kernel_rfl) (by kernel_rfl) (by kernel_rfl)) ?_
  intro W base args ds gs before hval0 hW hcnd _
  have hval : ∀ (j : Nat) t v, Try.f3.params[j]? = some t → args[j]? = some v → Value.okWide Try.prog W .any base t v := hval0
  have hW' := hW
  obtain ⟨p, q, hA0, hV, rfl, hfz, hnd⟩ := hW
  have hA : DataW.TrodAll enc Try.prog W 0 (fun _ => true) true Try.f3.params.toList args.toList ds p := hA0
  rw [Try.params3] at hA hval
  obtain ⟨v0, v1, d0, d1, p0, p1, rfl, rfl, rfl, h0, h1⟩ := trodAll_two hA
  obtain ⟨rfl, rfl⟩ := trodVars_none hV
  clear hA0 hval0
  simp only [List.append_nil] at hW' hfz
  obtain ⟨n, M, C, x, y, rfl, hlM, hlC, hx, hy⟩ := N.sheet_read (hval 0 25 v0 rfl rfl) h0 (fun b off hp => hfz b off (by simp [hp]))
  obtain ⟨L, hlL, hz⟩ := N.list_read (hval 1 23 v1 rfl rfl) h1 (fun b off hp => hfz b off (by simp [hp]))
  refine (N.walk1 (f := 3) W n M C L x y v1 (vs := []) (xs := []) (fun m => .nil _) hx hy hz (fun h mv cv lv h1 h2 h3 => N.nameSheets_ok N.works_any h n M C L mv cv lv hlM hlC hlL h1 h2 h3)).mono fun r W' ⟨hr, hf⟩ => ?_
  subst hr
  exact ⟨_, rfl, Go.As.post_law (by kernel_rfl) (by kernel_rfl) (by kernel_rfl) (by rw [Try.params3]; decide +kernel) hW' rfl (fun _ _ _ => (trodAll_cons_mk (shut_bool Try.underlying4 _) trodAll_mk0)) rfl rfl hf
    (ok_one (by kernel_rfl) rfl (okWide_bool_mk Try.underlying4 _))⟩

theorem over : Rows.nameSheetsRow.holds Try.pinned (OpenSpec.ofChange Rows.nameSheetsSpec) :=
  OpenClaim.holds_of_wide 3 Try.f3 rfl rfl rfl rfl rfl rfl rfl ⟨rfl, rfl, rfl, rfl, rfl⟩ rfl rfl rfl rfl rfl (by kernel_rfl) Try.func3 (by kernel_rfl)
    (of_decide_eq_true (by kernel_rfl)) (by unfold Func.isWrapper; first | (rw [if_pos (by decide +kernel)]; kernel_rfl) | (rw [if_neg (by decide +kernel)]; exact ⟨rfl, rfl⟩))
    (fun os started H enc _ => lifted os started H enc)

/-- ████ THE STATEMENT ████ -/
theorem proved : Rows.NameSheetsSaid :=
  over
end Go.Proofs.Ytnalgbkanchcoaa.nameSheets

