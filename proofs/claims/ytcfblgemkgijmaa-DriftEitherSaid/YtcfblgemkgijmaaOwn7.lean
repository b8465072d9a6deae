/- What the functions answer that the laws call, one after another, part 7. -/
import Derived.Test.YtcfblgemkgijmaaOwn6
import Derived.Test.YtcfblgemkgijmaaWorks
import Derived.Test.YtcfblgemkgijmaaRows
import Derived.WalkKit
import Derived.ProofKit
import Derived.OpenShut

set_option linter.unusedVariables false
namespace Go.Proofs.D
open Go.As Go.ChangeShapes Go.WideShapes
set_option maxRecDepth 20000

theorem works_any (h : H) : CallOk Try.prog 16 [] h (.bool true) h := DW.wwhole.everywhere rfl h

theorem entVs_idx : ∀ {l : List E} {k : Nat} {v : V}, (entVs l)[k]? = some v → ∃ i e, l[i]? = some e ∧ (k = i * 3 ∧ v = .int .i64 e.1 ∨ k = i * 3 + 1 ∧ v = .int .i64 e.2.1 ∨ k = i * 3 + 2 ∧ v = .int .i64 e.2.2)
  | [], k, v, h => by simp [entVs] at h
  | x :: l, 0, v, h => by simp [entVs] at h; exact ⟨0, x, rfl, .inl ⟨rfl, h.symm⟩⟩
  | x :: l, 1, v, h => by simp [entVs] at h; exact ⟨0, x, rfl, .inr (.inl ⟨rfl, h.symm⟩)⟩
  | x :: l, 2, v, h => by simp [entVs] at h; exact ⟨0, x, rfl, .inr (.inr ⟨rfl, h.symm⟩)⟩
  | x :: l, k + 3, v, h => by
    obtain ⟨i, e, h1, h2⟩ := entVs_idx (l := l) (k := k) (v := v) (by simpa [entVs] using h)
    refine ⟨i + 1, e, by simpa using h1, ?_⟩
    rcases h2 with ⟨h2, h3⟩ | ⟨h2, h3⟩ | ⟨h2, h3⟩
    · exact .inl ⟨by omega, h3⟩
    · exact .inr (.inl ⟨by omega, h3⟩)
    · exact .inr (.inr ⟨by omega, h3⟩)

section
variable {H : Type} {enc : TypeId × Value → H} {W : World}

theorem ints_of {n t k : Nat} (hfl : flatI Try.prog n t = some k) {fuel : Nat} {cs : List Value} {x : DataW H × List MemPlace} (h : DataW.trod enc Try.prog W 0 (fun _ => true) true fuel t cs = some x) : x.2 = [] ∧ cs.length = k ∧ ∀ v ∈ cs, IsI v :=
  flatI_read n t k hfl fuel cs x.1 x.2 h

theorem star_read {v : Value} {d : DataW H} {ps : List MemPlace} {b0 : Nat} (hok : Value.okWide Try.prog W .any b0 26 v) (hd : DataW.Trod enc Try.prog W 0 (fun _ => true) true 26 v d ps) (hz : W.noneFrozen ps) :
    ∃ (lo hi : Int) (l : List E) (x : Value), v = .agg #[.int .i64 lo, .int .i64 hi, x] ∧ l.length ≤ 9223372036854775807 ∧ RdS W (entVs l) l.length x := by
  simp only [Value.okWide, Try.underlying26] at hok
  obtain ⟨cs, rfl, hsz, ts, hts, _, hcell⟩ := hok
  have hts' : Try.prog.cellTypes Try.prog.depth 26 = some [2, 2, 24] := by kernel_rfl
  rw [hts'] at hts
  cases hts
  have c26 : Try.prog.cellsOf 26 = 3 := by kernel_rfl
  have c23 : Try.prog.cellsOf 23 = 2 := by kernel_rfl
  have c24 : Try.prog.cellsOf 24 = 1 := by kernel_rfl
  have c79 : Try.prog.cellsOf 75 = 3 := by kernel_rfl
  obtain ⟨fuel, hf⟩ := hd
  have hf' : DataW.trod enc Try.prog W 0 (fun _ => true) true fuel 26 cs.toList = some (d, ps) := hf
  obtain ⟨y0, y1, n, hx, hlen, h0, h1⟩ := trod_struct2 Try.underlying26 hf'
  rw [c26] at hsz
  obtain ⟨csl⟩ := cs
  dsimp only at h0 h1 hlen hf'
  match csl, hsz with
  | [a, b, x], _ =>
  rw [c23] at h0
  rw [c24] at h1
  have h0' : DataW.trod enc Try.prog W 0 (fun _ => true) true n 23 [a, b] = some y0 := h0
  have h1' : DataW.trod enc Try.prog W 0 (fun _ => true) true n 24 [x] = some y1 := h1
  obtain ⟨_, _, hI⟩ := ints_of (n := 5) (t := 23) (k := 2) (by kernel_rfl) h0'
  obtain ⟨lo, rfl, _⟩ := hI a (by simp)
  obtain ⟨hi, rfl, _⟩ := hI b (by simp)
  obtain ⟨u, hu, hcx⟩ := hcell 2 x rfl
  cases hu
  cases hx
  have hz1 : W.noneFrozen y1.2 := fun b off hp => hz b off (List.mem_append_right _ hp)
  rcases slice_read (n := 5) (k := 3) Try.underlying24 (by kernel_rfl) c79 h1' hz1 hcx with rfl | ⟨ad, len, cap, f, c, et, flo, fhi, rfl, hlc, hlm, hb, hcs⟩
  · exact ⟨lo, hi, [], _, rfl, by simp, .inl ⟨rfl, rfl, rfl⟩⟩
  · have hln : ((List.range len).map fun i => ((f (i * 3), f (i * 3 + 1), f (i * 3 + 2)) : E)).length = len := by simp
    refine ⟨lo, hi, (List.range len).map fun i => (f (i * 3), f (i * 3 + 1), f (i * 3 + 2)), _, rfl, by rw [hln]; exact hlm, ?_⟩
    refine .inr ⟨ad.block, ad.off, cap, c, et, flo, fhi, by rw [hln], hb, fun k v hv => ?_⟩
    obtain ⟨i, e, hi', hk⟩ := entVs_idx hv
    rw [List.getElem?_map] at hi'
    cases hr : (List.range len)[i]? with
    | none => rw [hr] at hi'; cases hi'
    | some j =>
      rw [hr] at hi'
      cases hi'
      obtain ⟨hlt, hj⟩ := List.getElem?_eq_some_iff.1 hr
      rw [List.getElem_range] at hj
      subst hj
      rw [List.length_range] at hlt
      have hkl : k < len * 3 := by rcases hk with ⟨rfl, _⟩ | ⟨rfl, _⟩ | ⟨rfl, _⟩ <;> omega
      obtain ⟨g1, _, g3⟩ := hcs k hkl
      have hv' : v = .int .i64 (f k) := by rcases hk with ⟨rfl, rfl⟩ | ⟨rfl, rfl⟩ | ⟨rfl, rfl⟩ <;> rfl
      subst hv'
      exact ⟨rfl, ⟨_, g1, fun m => .int _ _⟩, g3⟩

theorem motion_read {v : Value} {d : DataW H} {ps : List MemPlace} {b0 : Nat} (hok : Value.okWide Try.prog W .any b0 49 v) (hd : DataW.Trod enc Try.prog W 0 (fun _ => true) true 49 v d ps) :
    ∃ (a b c e : Int), v = .agg #[.int .i64 a, .int .i64 b, .int .i64 c, .int .i64 e] := by
  simp only [Value.okWide, Try.underlying49] at hok
  obtain ⟨cs, rfl, _⟩ := hok
  obtain ⟨fuel, hf⟩ := hd
  have hf' : DataW.trod enc Try.prog W 0 (fun _ => true) true fuel 49 cs.toList = some (d, ps) := hf
  obtain ⟨_, hl, hI⟩ := ints_of (n := 5) (t := 49) (k := 4) (by kernel_rfl) hf'
  obtain ⟨csl⟩ := cs
  dsimp only at hl hI
  match csl, hl with
  | [a, b, c, e], _ =>
  obtain ⟨a, rfl, _⟩ := hI a (by simp)
  obtain ⟨b, rfl, _⟩ := hI b (by simp)
  obtain ⟨c, rfl, _⟩ := hI c (by simp)
  obtain ⟨e, rfl, _⟩ := hI e (by simp)
  exact ⟨a, b, c, e, rfl⟩

end

theorem int4 {m : M} {a b c e : Int} : VR m (.agg [.int .i64 a, .int .i64 b, .int .i64 c, .int .i64 e]) (.agg #[.int .i64 a, .int .i64 b, .int .i64 c, .int .i64 e]) := VRs.agg (.cons (.int _ _) (.cons (.int _ _) (.cons (.int _ _) (.cons (.int _ _) (.nil _)))))

theorem walk {f : FuncId} (W : World) (lo hi : Int) (l : List E) (x : Value) {vs : List V} {xs : List Value} (hrest : ∀ m : M, VRs m vs xs) (hx : RdS W (entVs l) l.length x)
    (hc : ∀ (h : H) (sv : V), SlC h (entVs l) l.length sv → CallOk Try.prog f (starV lo hi sv :: vs) h (.bool true) h) :
    Calls Try.prog f (Value.agg #[.int .i64 lo, .int .i64 hi, x] :: xs).toArray W fun r w' => r = .returned (.bool true) ∧ Fr W w' := by
  obtain ⟨mo, hpl, hk⟩ := hx.mk
  obtain ⟨sv, h1, h2⟩ := hk 0
  have hr := hr_views (W := W) (mos := [mo]) (Ls := [entVs l]) rfl (fun i L m' hL hm => by
    cases i with
    | zero => simp at hL hm; subst hL; subst hm; exact hpl
    | succ i => simp at hL)
  have hc := hc (hp (flatBlks [entVs l])) sv (h1 _ (by rw [hp_get]; rfl))
  have hv : VRs (fun i => ([mo][i]?).join) (starV lo hi sv :: vs) (Value.agg #[.int .i64 lo, .int .i64 hi, x] :: xs) :=
    .cons (VRs.agg (.cons (.int _ _) (.cons (.int _ _) (.cons (h2 _ rfl) (.nil _))))) (hrest _)
  refine Calls.mono (callsIn_wide.1 (hc.walk hr hv)) ?_
  rintro r w' ⟨m', y, rfl, hy, hf⟩
  cases hy
  exact ⟨rfl, hf⟩
end Go.Proofs.D

