/- What the functions answer that the laws call, one after another (Read). -/
import Derived.Test.YtjkgnkhbbnmgbaaAs6
import Derived.Test.YtjkgnkhbbnmgbaaRows
import Derived.WalkKit
import Derived.ProofKit
import Derived.OpenShut
import Derived.Carry
import Derived.Test.YtjkgnkhbbnmgbaaBase

set_option linter.unusedVariables false
namespace Go.Proofs.P
open Go.As Go.ChangeShapes Go.WideShapes Go.Deep Go.ChangeAt Go.RowKit
set_option maxRecDepth 20000
set_option linter.unusedVariables false

def uVs (l : List Int) : List V := l.map (V.int .u8)
def u8s (l : List Int) : Prop := ∀ x ∈ l, 0 ≤ x ∧ x ≤ 255

section
variable {H : Type} {enc : TypeId × Value → H} {W : World}

theorem i_read {fuel : Nat} {v : Value} {d : DataW H} {ps : List MemPlace} {b0 : Nat} (h : DataW.trod enc Try.prog W 0 (fun _ => true) true fuel 22 [v] = some (d, ps)) (hz : W.noneFrozen ps) (hok : Cell.okWide Try.prog W .any b0 22 v) :
    ∃ L : List Int, L.length ≤ 9223372036854775807 ∧ RdS W (iVs L) L.length v := by
  rcases slice_read (n := 5) (k := 1) Try.underlying22 (by kernel_rfl) (by kernel_rfl) h hz hok with rfl | ⟨ad, len, cap, f, c, et, flo, fhi, rfl, hlc, hlm, hb, hcs⟩
  · exact ⟨[], by simp, .inl ⟨rfl, rfl, rfl⟩⟩
  · have hln : ((List.range len).map f).length = len := by simp
    refine ⟨(List.range len).map f, by rw [hln]; exact hlm, .inr ⟨ad.block, ad.off, cap, c, et, flo, fhi, by rw [hln], hb, fun k v hv => ?_⟩⟩
    unfold iVs at hv
    rw [List.getElem?_map, List.getElem?_map] at hv
    cases hr : (List.range len)[k]? with
    | none => rw [hr] at hv; cases hv
    | some j =>
      rw [hr] at hv
      obtain ⟨hlt, hj⟩ := List.getElem?_eq_some_iff.1 hr
      rw [List.getElem_range] at hj
      subst hj
      rw [List.length_range] at hlt
      obtain ⟨g1, _, g3⟩ := hcs k (by omega)
      have hv' : v = .int .i64 (f k) := (Option.some.inj hv).symm
      subst hv'
      exact ⟨rfl, ⟨_, g1, fun m => .int _ _⟩, g3⟩
theorem list_read {v : Value} {d : DataW H} {ps : List MemPlace} {b0 : Nat} (hok : Value.okWide Try.prog W .any b0 22 v) (hd : DataW.Trod enc Try.prog W 0 (fun _ => true) true 22 v d ps) (hz : W.noneFrozen ps) :
    ∃ L : List Int, L.length ≤ 9223372036854775807 ∧ RdS W (iVs L) L.length v := by
  obtain ⟨fuel, hf⟩ := hd
  have hc : v.cells.toList = [v] ∧ Cell.okWide Try.prog W .any b0 22 v := by
    simp only [Value.okWide, Try.underlying22] at hok
    cases v <;> first | exact ⟨rfl, hok⟩ | (simp [Cell.okWide, Cell.ok, Try.underlying22] at hok)
  have hf' : DataW.trod enc Try.prog W 0 (fun _ => true) true fuel 22 [v] = some (d, ps) := by rw [← hc.1]; exact hf
  exact i_read hf' hz hc.2
theorem ints_of {n t k : Nat} (hfl : flatI Try.prog n t = some k) {fuel : Nat} {cs : List Value} {x : DataW H × List MemPlace} (h : DataW.trod enc Try.prog W 0 (fun _ => true) true fuel t cs = some x) : x.2 = [] ∧ cs.length = k ∧ ∀ v ∈ cs, IsI v :=
  flatI_read n t k hfl fuel cs x.1 x.2 h
theorem plate_read {v : Value} {d : DataW H} {ps : List MemPlace} {b0 : Nat} (hok : Value.okWide Try.prog W .any b0 24 v) (hd : DataW.Trod enc Try.prog W 0 (fun _ => true) true 24 v d ps) (hz : W.noneFrozen ps) :
    ∃ (n : Int) (D : List Int) (x : Value), v = .agg #[.int .i64 n, x] ∧ D.length ≤ 9223372036854775807 ∧ RdS W (iVs D) D.length x := by
  simp only [Value.okWide, Try.underlying24] at hok
  obtain ⟨cs, rfl, hsz, ts, hts, _, hcell⟩ := hok
  have hts' : Try.prog.cellTypes Try.prog.depth 24 = some [3, 22] := by kernel_rfl
  rw [hts'] at hts
  cases hts
  have c25 : Try.prog.cellsOf 24 = 2 := by kernel_rfl
  have c3 : Try.prog.cellsOf 3 = 1 := by kernel_rfl
  have c22 : Try.prog.cellsOf 22 = 1 := by kernel_rfl
  obtain ⟨fuel, hf⟩ := hd
  have hf' : DataW.trod enc Try.prog W 0 (fun _ => true) true fuel 24 cs.toList = some (d, ps) := hf
  obtain ⟨y0, y1, n, hx, hlen, h0, h1⟩ := trod_struct2 Try.underlying24 hf'
  rw [c25] at hsz
  obtain ⟨csl⟩ := cs
  dsimp only at h0 h1 hlen hf'
  match csl, hsz with
  | [a, x], _ =>
  rw [c3] at h0
  rw [c22] at h1
  have h0' : DataW.trod enc Try.prog W 0 (fun _ => true) true n 3 [a] = some y0 := h0
  have h1' : DataW.trod enc Try.prog W 0 (fun _ => true) true n 22 [x] = some y1 := h1
  obtain ⟨_, _, hI⟩ := ints_of (n := 5) (t := 3) (k := 1) (by kernel_rfl) h0'
  obtain ⟨nn, rfl, _⟩ := hI a (by simp)
  obtain ⟨u1, hu1, hc1⟩ := hcell 1 x rfl
  cases hu1
  cases hx
  have hz1 : W.noneFrozen y1.2 := fun b off hp => hz b off (List.mem_append_right _ hp)
  obtain ⟨D, m1, m2⟩ := i_read h1' hz1 hc1
  exact ⟨nn, D, x, rfl, m1, m2⟩
end
end Go.Proofs.P
