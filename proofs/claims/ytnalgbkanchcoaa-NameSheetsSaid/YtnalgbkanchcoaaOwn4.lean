/- What the functions answer that the laws call, one after another, part 4. -/
import Derived.Test.YtnalgbkanchcoaaOwn3
import Derived.Test.YtnalgbkanchcoaaWorks
import Derived.Test.YtnalgbkanchcoaaRows
import Derived.WalkKit
import Derived.ProofKit
import Derived.OpenShut

set_option linter.unusedVariables false
namespace Go.Proofs.N
open Go.As Go.ChangeShapes Go.WideShapes
set_option maxRecDepth 20000

theorem works_any (h : H) : CallOk Try.prog 16 [] h (.bool true) h := wwhole.everywhere rfl h

theorem mVs_idx : ∀ {l : List (Int × Int)} {k : Nat} {v : V}, (mVs l)[k]? = some v → ∃ i e, l[i]? = some e ∧ (k = i * 2 ∧ v = .int .i64 e.1 ∨ k = i * 2 + 1 ∧ v = .int .i64 e.2)
  | [], k, v, h => by simp [mVs] at h
  | x :: l, 0, v, h => by simp [mVs] at h; exact ⟨0, x, rfl, .inl ⟨rfl, h.symm⟩⟩
  | x :: l, 1, v, h => by simp [mVs] at h; exact ⟨0, x, rfl, .inr ⟨rfl, h.symm⟩⟩
  | x :: l, k + 2, v, h => by
    obtain ⟨i, e, h1, h2⟩ := mVs_idx (l := l) (k := k) (v := v) (by simpa [mVs] using h)
    refine ⟨i + 1, e, by simpa using h1, ?_⟩
    rcases h2 with ⟨h2, h3⟩ | ⟨h2, h3⟩
    · exact .inl ⟨by omega, h3⟩
    · exact .inr ⟨by omega, h3⟩

section
variable {H : Type} {enc : TypeId × Value → H} {W : World}

theorem trod_struct3 {t : TypeId} {f0 f1 f2 : Field} {fuel : Nat} {cs : List Value} {x : DataW H × List MemPlace} (ht : Try.prog.underlying t = some (.struct #[f0, f1, f2])) (h : DataW.trod enc Try.prog W 0 (fun _ => true) true fuel t cs = some x) :
    ∃ y0 y1 y2 n, x = (.agg [y0.1, y1.1, y2.1], y0.2 ++ (y1.2 ++ y2.2)) ∧ cs.length = Try.prog.cellsOf t ∧ DataW.trod enc Try.prog W 0 (fun _ => true) true n f0.type ((cs.drop f0.offset).take (Try.prog.cellsOf f0.type)) = some y0 ∧
      DataW.trod enc Try.prog W 0 (fun _ => true) true n f1.type ((cs.drop f1.offset).take (Try.prog.cellsOf f1.type)) = some y1 ∧ DataW.trod enc Try.prog W 0 (fun _ => true) true n f2.type ((cs.drop f2.offset).take (Try.prog.cellsOf f2.type)) = some y2 := by
  obtain ⟨xs, n, _, rfl, hl, hlen, hf⟩ := DataW.trod_struct ht h
  match xs, hlen with
  | [y0, y1, y2], _ => exact ⟨y0, y1, y2, n, by simp, hl, by simpa using hf 0 f0 rfl, by simpa using hf 1 f1 rfl, by simpa using hf 2 f2 rfl⟩

theorem ints_of {n t k : Nat} (hfl : flatI Try.prog n t = some k) {fuel : Nat} {cs : List Value} {x : DataW H × List MemPlace} (h : DataW.trod enc Try.prog W 0 (fun _ => true) true fuel t cs = some x) : x.2 = [] ∧ cs.length = k ∧ ∀ v ∈ cs, IsI v :=
  flatI_read n t k hfl fuel cs x.1 x.2 h

theorem i_read {fuel : Nat} {v : Value} {d : DataW H} {ps : List MemPlace} {b0 : Nat} (h : DataW.trod enc Try.prog W 0 (fun _ => true) true fuel 23 [v] = some (d, ps)) (hz : W.noneFrozen ps) (hok : Cell.okWide Try.prog W .any b0 23 v) :
    ∃ L : List Int, L.length ≤ 9223372036854775807 ∧ RdS W (iVs L) L.length v := by
  rcases slice_read (n := 5) (k := 1) Try.underlying23 (by kernel_rfl) (by kernel_rfl) h hz hok with rfl | ⟨ad, len, cap, f, c, et, flo, fhi, rfl, hlc, hlm, hb, hcs⟩
  · exact ⟨[], by simp, .inl ⟨rfl, rfl, rfl⟩⟩
  · have hln : ((List.range len).map f).length = len := by simp
    refine ⟨(List.range len).map f, by rw [hln]; exact hlm, .inr ⟨ad.block, ad.off, cap, c, et, flo, fhi, by rw [hln], hb, fun k v hv => ?_⟩⟩
    unfold iVs at hv
    rw [List.getElem?_map, List.getElem?_map] at hv
    cases hr : (List.range len)[k]? with
    | none => rw [hr] at hv; cases hv
    | some j =>
      rw [hr] at hv
      obtain ⟨hlt, hj⟩ := List.getElem?_eq_some_iff.1 hr
      rw [List.getElem_range] at hj
      subst hj
      rw [List.length_range] at hlt
      obtain ⟨g1, _, g3⟩ := hcs k (by omega)
      have hv' : v = .int .i64 (f k) := (Option.some.inj hv).symm
      subst hv'
      exact ⟨rfl, ⟨_, g1, fun m => .int _ _⟩, g3⟩
theorem m_read {fuel : Nat} {v : Value} {d : DataW H} {ps : List MemPlace} {b0 : Nat} (h : DataW.trod enc Try.prog W 0 (fun _ => true) true fuel 22 [v] = some (d, ps)) (hz : W.noneFrozen ps) (hok : Cell.okWide Try.prog W .any b0 22 v) :
    ∃ L : List P2, L.length ≤ 9223372036854775807 ∧ RdS W (mVs L) L.length v := by
  rcases slice_read (n := 5) (k := 2) Try.underlying22 (by kernel_rfl) (by kernel_rfl) h hz hok with rfl | ⟨ad, len, cap, f, c, et, flo, fhi, rfl, hlc, hlm, hb, hcs⟩
  · exact ⟨[], by simp, .inl ⟨rfl, rfl, rfl⟩⟩
  · have hln : ((List.range len).map fun i => ((f (i * 2), f (i * 2 + 1)) : P2)).length = len := by simp
    refine ⟨(List.range len).map fun i => (f (i * 2), f (i * 2 + 1)), by rw [hln]; exact hlm, .inr ⟨ad.block, ad.off, cap, c, et, flo, fhi, by rw [hln], hb, fun k v hv => ?_⟩⟩
    obtain ⟨i, e, hi', hk⟩ := mVs_idx hv
    rw [List.getElem?_map] at hi'
    cases hr : (List.range len)[i]? with
    | none => rw [hr] at hi'; cases hi'
    | some j =>
      rw [hr] at hi'
      cases hi'
      obtain ⟨hlt, hj⟩ := List.getElem?_eq_some_iff.1 hr
      rw [List.getElem_range] at hj
      subst hj
      rw [List.length_range] at hlt
      have hkl : k < len * 2 := by rcases hk with ⟨rfl, _⟩ | ⟨rfl, _⟩ <;> omega
      obtain ⟨g1, _, g3⟩ := hcs k hkl
      have hv' : v = .int .i64 (f k) := by rcases hk with ⟨rfl, rfl⟩ | ⟨rfl, rfl⟩ <;> rfl
      subst hv'
      exact ⟨rfl, ⟨_, g1, fun m => .int _ _⟩, g3⟩

theorem sheet_read {v : Value} {d : DataW H} {ps : List MemPlace} {b0 : Nat} (hok : Value.okWide Try.prog W .any b0 25 v) (hd : DataW.Trod enc Try.prog W 0 (fun _ => true) true 25 v d ps) (hz : W.noneFrozen ps) :
    ∃ (n : Int) (M : List P2) (C : List Int) (x y : Value), v = .agg #[.int .i64 n, x, y] ∧ M.length ≤ 9223372036854775807 ∧ C.length ≤ 9223372036854775807 ∧ RdS W (mVs M) M.length x ∧ RdS W (iVs C) C.length y := by
  simp only [Value.okWide, Try.underlying25] at hok
  obtain ⟨cs, rfl, hsz, ts, hts, _, hcell⟩ := hok
  have hts' : Try.prog.cellTypes Try.prog.depth 25 = some [3, 22, 23] := by kernel_rfl
  rw [hts'] at hts
  cases hts
  have c25 : Try.prog.cellsOf 25 = 3 := by kernel_rfl
  have c3 : Try.prog.cellsOf 3 = 1 := by kernel_rfl
  have c22 : Try.prog.cellsOf 22 = 1 := by kernel_rfl
  have c23 : Try.prog.cellsOf 23 = 1 := by kernel_rfl
  obtain ⟨fuel, hf⟩ := hd
  have hf' : DataW.trod enc Try.prog W 0 (fun _ => true) true fuel 25 cs.toList = some (d, ps) := hf
  obtain ⟨y0, y1, y2, n, hx, hlen, h0, h1, h2⟩ := trod_struct3 Try.underlying25 hf'
  rw [c25] at hsz
  obtain ⟨csl⟩ := cs
  dsimp only at h0 h1 h2 hlen hf'
  match csl, hsz with
  | [a, x, y], _ =>
  rw [c3] at h0
  rw [c22] at h1
  rw [c23] at h2
  have h0' : DataW.trod enc Try.prog W 0 (fun _ => true) true n 3 [a] = some y0 := h0
  have h1' : DataW.trod enc Try.prog W 0 (fun _ => true) true n 22 [x] = some y1 := h1
  have h2' : DataW.trod enc Try.prog W 0 (fun _ => true) true n 23 [y] = some y2 := h2
  obtain ⟨_, _, hI⟩ := ints_of (n := 5) (t := 3) (k := 1) (by kernel_rfl) h0'
  obtain ⟨nn, rfl, _⟩ := hI a (by simp)
  obtain ⟨u1, hu1, hc1⟩ := hcell 1 x rfl
  obtain ⟨u2, hu2, hc2⟩ := hcell 2 y rfl
  cases hu1
  cases hu2
  cases hx
  have hz1 : W.noneFrozen y1.2 := fun b off hp => hz b off (List.mem_append_right _ (List.mem_append_left _ hp))
  have hz2 : W.noneFrozen y2.2 := fun b off hp => hz b off (List.mem_append_right _ (List.mem_append_right _ hp))
  obtain ⟨M, m1, m2⟩ := m_read h1' hz1 hc1
  obtain ⟨C, k1, k2⟩ := i_read h2' hz2 hc2
  exact ⟨nn, M, C, x, y, rfl, m1, k1, m2, k2⟩
theorem list_read {v : Value} {d : DataW H} {ps : List MemPlace} {b0 : Nat} (hok : Value.okWide Try.prog W .any b0 23 v) (hd : DataW.Trod enc Try.prog W 0 (fun _ => true) true 23 v d ps) (hz : W.noneFrozen ps) :
    ∃ L : List Int, L.length ≤ 9223372036854775807 ∧ RdS W (iVs L) L.length v := by
  obtain ⟨fuel, hf⟩ := hd
  have hc : v.cells.toList = [v] ∧ Cell.okWide Try.prog W .any b0 23 v := by
    simp only [Value.okWide, Try.underlying23] at hok
    cases v <;> first | exact ⟨rfl, hok⟩ | (simp [Cell.okWide, Cell.ok, Try.underlying23] at hok)
  have hf' : DataW.trod enc Try.prog W 0 (fun _ => true) true fuel 23 [v] = some (d, ps) := by rw [← hc.1]; exact hf
  exact i_read hf' hz hc.2
end

theorem walk1 {f : FuncId} (W : World) (n : Int) (M : List P2) (C L : List Int) (x y z : Value) {vs : List V} {xs : List Value} (hrest : ∀ m : Go.As.M, VRs m vs xs) (hx : RdS W (mVs M) M.length x) (hy : RdS W (iVs C) C.length y) (hz : RdS W (iVs L) L.length z)
    (hc : ∀ (h : H) (mv cv lv : V), SlC h (mVs M) M.length mv → SlC h (iVs C) C.length cv → SlC h (iVs L) L.length lv → CallOk Try.prog f (sheetV n mv cv :: lv :: vs) h (.bool true) h) :
    Calls Try.prog f (Value.agg #[.int .i64 n, x, y] :: z :: xs).toArray W fun r w' => r = .returned (.bool true) ∧ Fr W w' := by
  obtain ⟨m1, p1, k1⟩ := hx.mk
  obtain ⟨m2, p2, k2⟩ := hy.mk
  obtain ⟨m3, p3, k3⟩ := hz.mk
  obtain ⟨s1, a1, b1⟩ := k1 0
  obtain ⟨s2, a2, b2⟩ := k2 1
  obtain ⟨s3, a3, b3⟩ := k3 2
  have hr := hr_views (W := W) (mos := [m1, m2, m3]) (Ls := [mVs M, iVs C, iVs L]) rfl (fun i L' m' hL hm => by
    match i with
    | 0 => simp at hL hm; subst hL; subst hm; exact p1
    | 1 => simp at hL hm; subst hL; subst hm; exact p2
    | 2 => simp at hL hm; subst hL; subst hm; exact p3
    | i + 3 => simp at hL)
  have hc := hc (hp (flatBlks [mVs M, iVs C, iVs L])) s1 s2 s3 (a1 _ (by rw [hp_get]; rfl)) (a2 _ (by rw [hp_get]; rfl)) (a3 _ (by rw [hp_get]; rfl))
  have hv : VRs (fun i => ([m1, m2, m3][i]?).join) (sheetV n s1 s2 :: s3 :: vs) (Value.agg #[.int .i64 n, x, y] :: z :: xs) :=
    .cons (VRs.agg (.cons (.int _ _) (.cons (b1 _ rfl) (.cons (b2 _ rfl) (.nil _))))) (.cons (b3 _ rfl) (hrest _))
  refine Calls.mono (callsIn_wide.1 (hc.walk hr hv)) ?_
  rintro r w' ⟨m', y, rfl, hy, hf⟩
  cases hy
  exact ⟨rfl, hf⟩
end Go.Proofs.N

