/- What the functions answer that the laws call, one after another (Read). -/
import Derived.Test.YtlnihnneigdaeaaAs6
import Derived.Test.YtlnihnneigdaeaaRows
import Derived.WalkKit
import Derived.ProofKit
import Derived.OpenShut
import Derived.Carry
import Derived.Test.YtlnihnneigdaeaaBase

set_option linter.unusedVariables false
namespace Go.Proofs.U
open Go.As Go.ChangeShapes Go.WideShapes Go.Deep Go.ChangeAt Go.RowKit
set_option maxRecDepth 20000
set_option linter.unusedVariables false

section
variable {H : Type} {enc : TypeId × Value → H} {W : World}

theorem trod_struct3 {t : TypeId} {f0 f1 f2 : Field} {fuel : Nat} {cs : List Value} {x : DataW H × List MemPlace} (ht : Try.prog.underlying t = some (.struct #[f0, f1, f2])) (h : DataW.trod enc Try.prog W 0 (fun _ => true) true fuel t cs = some x) :
    ∃ y0 y1 y2 n, x = (.agg [y0.1, y1.1, y2.1], y0.2 ++ (y1.2 ++ y2.2)) ∧ cs.length = Try.prog.cellsOf t ∧ DataW.trod enc Try.prog W 0 (fun _ => true) true n f0.type ((cs.drop f0.offset).take (Try.prog.cellsOf f0.type)) = some y0 ∧
      DataW.trod enc Try.prog W 0 (fun _ => true) true n f1.type ((cs.drop f1.offset).take (Try.prog.cellsOf f1.type)) = some y1 ∧ DataW.trod enc Try.prog W 0 (fun _ => true) true n f2.type ((cs.drop f2.offset).take (Try.prog.cellsOf f2.type)) = some y2 := by
  obtain ⟨xs, n, _, rfl, hl, hlen, hf⟩ := DataW.trod_struct ht h
  match xs, hlen with
  | [y0, y1, y2], _ => exact ⟨y0, y1, y2, n, by simp, hl, by simpa using hf 0 f0 rfl, by simpa using hf 1 f1 rfl, by simpa using hf 2 f2 rfl⟩
theorem ints_of {n t k : Nat} (hfl : flatI Try.prog n t = some k) {fuel : Nat} {cs : List Value} {x : DataW H × List MemPlace} (h : DataW.trod enc Try.prog W 0 (fun _ => true) true fuel t cs = some x) : x.2 = [] ∧ cs.length = k ∧ ∀ v ∈ cs, IsI v :=
  flatI_read n t k hfl fuel cs x.1 x.2 h

theorem i_read {fuel : Nat} {v : Value} {d : DataW H} {ps : List MemPlace} {b0 : Nat} (h : DataW.trod enc Try.prog W 0 (fun _ => true) true fuel 25 [v] = some (d, ps)) (hz : W.noneFrozen ps) (hok : Cell.okWide Try.prog W .any b0 25 v) :
    ∃ (n : Nat) (a : Nat → Int), n ≤ 9223372036854775807 ∧ FR (zW W) (pV false n a) v := by
  rcases slice_read (n := 5) (k := 1) Try.underlying25 (by kernel_rfl) (by kernel_rfl) h hz hok with rfl | ⟨ad, len, cap, f, c, et, flo, fhi, rfl, hlc, hlm, hb, hcs⟩
  · exact ⟨0, fun _ => 0, by simp, .rsl0⟩
  · refine ⟨len, f, hlm, FR.ints hlc hb hcs (fun i hi => ⟨rfl, fun j v hv => ?_⟩)⟩
    match j with
    | 0 => simp [iG] at hv; rw [← hv, Nat.mul_one, Nat.add_zero]
    | j + 1 => simp [iG] at hv
theorem s_read {fuel : Nat} {v : Value} {d : DataW H} {ps : List MemPlace} {b0 : Nat} (h : DataW.trod enc Try.prog W 0 (fun _ => true) true fuel 22 [v] = some (d, ps)) (hz : W.noneFrozen ps) (hok : Cell.okWide Try.prog W .any b0 22 v) :
    ∃ (n : Nat) (fr to wt : Nat → Int), n ≤ 9223372036854775807 ∧ FR (zW W) (.rsl false 3 n (starG fr to wt)) v := by
  rcases slice_read (n := 5) (k := 3) Try.underlying22 (by kernel_rfl) (by kernel_rfl) h hz hok with rfl | ⟨ad, len, cap, f, c, et, flo, fhi, rfl, hlc, hlm, hb, hcs⟩
  · exact ⟨0, fun _ => 0, fun _ => 0, fun _ => 0, by simp, .rsl0⟩
  · refine ⟨len, fun i => f (i * 3), fun i => f (i * 3 + 1), fun i => f (i * 3 + 2), hlm, FR.ints hlc hb hcs (fun i hi => ⟨rfl, fun j v hv => ?_⟩)⟩
    match j with
    | 0 => simp [starG] at hv; rw [← hv, Nat.add_zero]
    | 1 => simp [starG] at hv; rw [← hv]
    | 2 => simp [starG] at hv; rw [← hv]
    | j + 3 => simp [starG] at hv
theorem list_read {v : Value} {d : DataW H} {ps : List MemPlace} {b0 : Nat} (hok : Value.okWide Try.prog W .any b0 25 v) (hd : DataW.Trod enc Try.prog W 0 (fun _ => true) true 25 v d ps) (hz : W.noneFrozen ps) :
    ∃ (n : Nat) (a : Nat → Int), n ≤ 9223372036854775807 ∧ FR (zW W) (pV false n a) v := by
  obtain ⟨fuel, hf⟩ := hd
  have hc : v.cells.toList = [v] ∧ Cell.okWide Try.prog W .any b0 25 v := by
    simp only [Value.okWide, Try.underlying25] at hok
    cases v <;> first | exact ⟨rfl, hok⟩ | (simp [Cell.okWide, Cell.ok, Try.underlying25] at hok)
  have hf' : DataW.trod enc Try.prog W 0 (fun _ => true) true fuel 25 [v] = some (d, ps) := by rw [← hc.1]; exact hf
  exact i_read hf' hz hc.2
theorem list_readV {v : Value} {d : DataW H} {ps : List MemPlace} {b0 : Nat} (hok : Value.okWide Try.prog W .any b0 25 v) (hd : DataW.Trod enc Try.prog W 0 (fun _ => true) true 25 v d ps) (hz : W.noneFrozen ps) :
    ∃ (n : Nat) (a : Nat → Int), n ≤ 9223372036854775807 ∧ VR (mW W) (pV false n a) v :=
  let ⟨n, a, h1, h2⟩ := list_read hok hd hz
  ⟨n, a, h1, h2.vr⟩
theorem job_read {v : Value} {d : DataW H} {ps : List MemPlace} {b0 : Nat} (hok : Value.okWide Try.prog W .any b0 24 v) (hd : DataW.Trod enc Try.prog W 0 (fun _ => true) true 24 v d ps) (hz : W.noneFrozen ps) :
    ∃ (P L : Int) (n : Nat) (fr to wt : Nat → Int), n ≤ 9223372036854775807 ∧ VR (mW W) (jobV P L n false fr to wt) v := by
  simp only [Value.okWide, Try.underlying24] at hok
  obtain ⟨cs, rfl, hsz, ts, hts, _, hcell⟩ := hok
  have hts' : Try.prog.cellTypes Try.prog.depth 24 = some [3, 3, 22] := by kernel_rfl
  rw [hts'] at hts
  cases hts
  have c25 : Try.prog.cellsOf 24 = 3 := by kernel_rfl
  have c3 : Try.prog.cellsOf 3 = 1 := by kernel_rfl
  have c22 : Try.prog.cellsOf 22 = 1 := by kernel_rfl
  obtain ⟨fuel, hf⟩ := hd
  have hf' : DataW.trod enc Try.prog W 0 (fun _ => true) true fuel 24 cs.toList = some (d, ps) := hf
  obtain ⟨y0, y1, y2, n, hx, hlen, h0, h1, h2⟩ := trod_struct3 Try.underlying24 hf'
  rw [c25] at hsz
  obtain ⟨csl⟩ := cs
  dsimp only at h0 h1 h2 hlen hf'
  match csl, hsz with
  | [a, b, x], _ =>
  rw [c3] at h0 h1
  rw [c22] at h2
  have h0' : DataW.trod enc Try.prog W 0 (fun _ => true) true n 3 [a] = some y0 := h0
  have h1' : DataW.trod enc Try.prog W 0 (fun _ => true) true n 3 [b] = some y1 := h1
  have h2' : DataW.trod enc Try.prog W 0 (fun _ => true) true n 22 [x] = some y2 := h2
  obtain ⟨_, _, hI⟩ := ints_of (n := 5) (t := 3) (k := 1) (by kernel_rfl) h0'
  obtain ⟨P, rfl, _⟩ := hI a (by simp)
  obtain ⟨_, _, hI1⟩ := ints_of (n := 5) (t := 3) (k := 1) (by kernel_rfl) h1'
  obtain ⟨L, rfl, _⟩ := hI1 b (by simp)
  obtain ⟨u2, hu2, hc2⟩ := hcell 2 x rfl
  cases hu2
  cases hx
  have hz2 : W.noneFrozen y2.2 := fun b off hp => hz b off (List.mem_append_right _ (List.mem_append_right _ hp))
  obtain ⟨k, fr, to, wt, hk, hfr⟩ := s_read h2' hz2 hc2
  exact ⟨P, L, k, fr, to, wt, hk, Go.As.VRs.agg (.cons (.int _ _) (.cons (.int _ _) (.cons hfr.vr (.nil _))))⟩
end
end Go.Proofs.U
