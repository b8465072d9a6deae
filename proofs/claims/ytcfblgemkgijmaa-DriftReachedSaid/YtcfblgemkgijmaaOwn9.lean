/- What the functions answer that the laws call, one after another, part 9. -/
import Derived.Test.YtcfblgemkgijmaaOwn8
import Derived.Test.YtcfblgemkgijmaaWorks
import Derived.Test.YtcfblgemkgijmaaRows
import Derived.WalkKit
import Derived.ProofKit
import Derived.OpenShut
import Derived.Carry

set_option linter.unusedVariables false
namespace Go.Proofs.D
open Go.As Go.ChangeShapes Go.WideShapes
set_option maxRecDepth 20000

theorem works_any (h : H) : CallOk Try.prog 16 [] h (.bool true) h := DW.wwhole.everywhere rfl h

theorem entVs_idx : ∀ {l : List E} {k : Nat} {v : V}, (entVs l)[k]? = some v → ∃ i e, l[i]? = some e ∧ (k = i * 3 ∧ v = .int .i64 e.1 ∨ k = i * 3 + 1 ∧ v = .int .i64 e.2.1 ∨ k = i * 3 + 2 ∧ v = .int .i64 e.2.2)
  | [], k, v, h => by simp [entVs] at h
  | x :: l, 0, v, h => by simp [entVs] at h; exact ⟨0, x, rfl, .inl ⟨rfl, h.symm⟩⟩
  | x :: l, 1, v, h => by simp [entVs] at h; exact ⟨0, x, rfl, .inr (.inl ⟨rfl, h.symm⟩)⟩
  | x :: l, 2, v, h => by simp [entVs] at h; exact ⟨0, x, rfl, .inr (.inr ⟨rfl, h.symm⟩)⟩
  | x :: l, k + 3, v, h => by
    obtain ⟨i, e, h1, h2⟩ := entVs_idx (l := l) (k := k) (v := v) (by simpa [entVs] using h)
    refine ⟨i + 1, e, by simpa using h1, ?_⟩
    rcases h2 with ⟨h2, h3⟩ | ⟨h2, h3⟩ | ⟨h2, h3⟩
    · exact .inl ⟨by omega, h3⟩
    · exact .inr (.inl ⟨by omega, h3⟩)
    · exact .inr (.inr ⟨by omega, h3⟩)

section
variable {H : Type} {enc : TypeId × Value → H} {W : World}

theorem ints_of {n t k : Nat} (hfl : flatI Try.prog n t = some k) {fuel : Nat} {cs : List Value} {x : DataW H × List MemPlace} (h : DataW.trod enc Try.prog W 0 (fun _ => true) true fuel t cs = some x) : x.2 = [] ∧ cs.length = k ∧ ∀ v ∈ cs, IsI v :=
  flatI_read n t k hfl fuel cs x.1 x.2 h

theorem star_read {v : Value} {d : DataW H} {ps : List MemPlace} {b0 : Nat} (hok : Value.okWide Try.prog W .any b0 26 v) (hd : DataW.Trod enc Try.prog W 0 (fun _ => true) true 26 v d ps) (hz : W.noneFrozen ps) :
    ∃ (lo hi : Int) (l : List E) (x : Value), v = .agg #[.int .i64 lo, .int .i64 hi, x] ∧ l.length ≤ 9223372036854775807 ∧ RdS W (entVs l) l.length x := by
  simp only [Value.okWide, Try.underlying26] at hok
  obtain ⟨cs, rfl, hsz, ts, hts, _, hcell⟩ := hok
  have hts' : Try.prog.cellTypes Try.prog.depth 26 = some [2, 2, 24] := by kernel_rfl
  rw [hts'] at hts
  cases hts
  have c26 : Try.prog.cellsOf 26 = 3 := by kernel_rfl
  have c23 : Try.prog.cellsOf 23 = 2 := by kernel_rfl
  have c24 : Try.prog.cellsOf 24 = 1 := by kernel_rfl
  have c79 : Try.prog.cellsOf 75 = 3 := by kernel_rfl
  obtain ⟨fuel, hf⟩ := hd
  have hf' : DataW.trod enc Try.prog W 0 (fun _ => true) true fuel 26 cs.toList = some (d, ps) := hf
  obtain ⟨y0, y1, n, hx, hlen, h0, h1⟩ := trod_struct2 Try.underlying26 hf'
  rw [c26] at hsz
  obtain ⟨csl⟩ := cs
  dsimp only at h0 h1 hlen hf'
  match csl, hsz with
  | [a, b, x], _ =>
  rw [c23] at h0
  rw [c24] at h1
  have h0' : DataW.trod enc Try.prog W 0 (fun _ => true) true n 23 [a, b] = some y0 := h0
  have h1' : DataW.trod enc Try.prog W 0 (fun _ => true) true n 24 [x] = some y1 := h1
  obtain ⟨_, _, hI⟩ := ints_of (n := 5) (t := 23) (k := 2) (by kernel_rfl) h0'
  obtain ⟨lo, rfl, _⟩ := hI a (by simp)
  obtain ⟨hi, rfl, _⟩ := hI b (by simp)
  obtain ⟨u, hu, hcx⟩ := hcell 2 x rfl
  cases hu
  cases hx
  have hz1 : W.noneFrozen y1.2 := fun b off hp => hz b off (List.mem_append_right _ hp)
  rcases slice_read (n := 5) (k := 3) Try.underlying24 (by kernel_rfl) c79 h1' hz1 hcx with rfl | ⟨ad, len, cap, f, c, et, flo, fhi, rfl, hlc, hlm, hb, hcs⟩
  · exact ⟨lo, hi, [], _, rfl, by simp, .inl ⟨rfl, rfl, rfl⟩⟩
  · have hln : ((List.range len).map fun i => ((f (i * 3), f (i * 3 + 1), f (i * 3 + 2)) : E)).length = len := by simp
    refine ⟨lo, hi, (List.range len).map fun i => (f (i * 3), f (i * 3 + 1), f (i * 3 + 2)), _, rfl, by rw [hln]; exact hlm, ?_⟩
    refine .inr ⟨ad.block, ad.off, cap, c, et, flo, fhi, by rw [hln], hb, fun k v hv => ?_⟩
    obtain ⟨i, e, hi', hk⟩ := entVs_idx hv
    rw [List.getElem?_map] at hi'
    cases hr : (List.range len)[i]? with
    | none => rw [hr] at hi'; cases hi'
    | some j =>
      rw [hr] at hi'
      cases hi'
      obtain ⟨hlt, hj⟩ := List.getElem?_eq_some_iff.1 hr
      rw [List.getElem_range] at hj
      subst hj
      rw [List.length_range] at hlt
      have hkl : k < len * 3 := by rcases hk with ⟨rfl, _⟩ | ⟨rfl, _⟩ | ⟨rfl, _⟩ <;> omega
      obtain ⟨g1, _, g3⟩ := hcs k hkl
      have hv' : v = .int .i64 (f k) := by rcases hk with ⟨rfl, rfl⟩ | ⟨rfl, rfl⟩ | ⟨rfl, rfl⟩ <;> rfl
      subst hv'
      exact ⟨rfl, ⟨_, g1, fun m => .int _ _⟩, g3⟩

end

theorem walk {f : FuncId} (W : World) (lo hi : Int) (l : List E) (x : Value) {vs : List V} {xs : List Value} (hrest : ∀ m : M, VRs m vs xs) (hx : RdS W (entVs l) l.length x)
    (hc : ∀ (h : H) (sv : V), SlC h (entVs l) l.length sv → CallOk Try.prog f (starV lo hi sv :: vs) h (.bool true) h) :
    Calls Try.prog f (Value.agg #[.int .i64 lo, .int .i64 hi, x] :: xs).toArray W fun r w' => r = .returned (.bool true) ∧ Fr W w' := by
  obtain ⟨mo, hpl, hk⟩ := hx.mk
  obtain ⟨sv, h1, h2⟩ := hk 0
  have hr := hr_views (W := W) (mos := [mo]) (Ls := [entVs l]) rfl (fun i L m' hL hm => by
    cases i with
    | zero => simp at hL hm; subst hL; subst hm; exact hpl
    | succ i => simp at hL)
  have hc := hc (hp (flatBlks [entVs l])) sv (h1 _ (by rw [hp_get]; rfl))
  have hv : VRs (fun i => ([mo][i]?).join) (starV lo hi sv :: vs) (Value.agg #[.int .i64 lo, .int .i64 hi, x] :: xs) :=
    .cons (VRs.agg (.cons (.int _ _) (.cons (.int _ _) (.cons (h2 _ rfl) (.nil _))))) (hrest _)
  refine Calls.mono (callsIn_wide.1 (hc.walk hr hv)) ?_
  rintro r w' ⟨m', y, rfl, hy, hf⟩
  cases hy
  exact ⟨rfl, hf⟩
end Go.Proofs.D

namespace Go.Proofs.D
open Go.As Go.ChangeShapes Go.WideShapes Go.Deep Go.ChangeAt Go.RowKit
set_option maxRecDepth 20000

section
variable {H : Type} {enc : TypeId × Value → H} {w : World} {P : Program}

/-- A slice of small numbers: nil, or in a block, each number in its cell, none of them frozen. -/
theorem slice_read8 {t e : TypeId} {fuel : Nat} {v : Value} {d : DataW H} {ps : List MemPlace} {b0 : Nat} (ht : P.underlying t = some (.slice e)) (he : P.underlying e = some (.int .u8)) (hk : P.cellsOf e = 1)
    (h : DataW.trod enc P w 0 (fun _ => true) true fuel t [v] = some (d, ps)) (hz : w.noneFrozen ps) (hok : Cell.okWide P w .any b0 t v) :
    ∃ L : List Int, u8s L ∧ L.length ≤ 9223372036854775807 ∧ RdS w (uVs L) L.length v := by
  rcases open_slice ht h with ⟨h1, _⟩ | ⟨a, len, cap, m, q, D, Pl, hcs, _, hl, hm, hmm, hx, hel⟩
  · cases h1
    exact ⟨[], (fun v hv => by cases hv), by simp, .inl ⟨rfl, rfl, rfl⟩⟩
  cases hcs
  cases hx
  have hok' : len ≤ cap ∧ (cap : Int) ≤ IntKind.i64.max ∧ w.has P .any b0 a e cap := by
    simp only [Cell.okWide, ht, Cell.ok] at hok
    exact hok
  obtain ⟨_, _, _, hspot, row, cells, hshape, _⟩ := hok'
  obtain ⟨blk, off, spot⟩ := a
  dsimp only at hspot
  subst hspot
  have hm' : m = cap := hmm
  subst hm'
  unfold World.shape? at hshape
  dsimp only at hshape
  split at hshape
  · rename_i c et fz hb
    obtain ⟨lo, hi⟩ := fz
    have key : ∀ i, ∃ x : Int, i < len → c[off + i]? = some (.int .u8 x) ∧ (0 ≤ x ∧ x ≤ 255) ∧ ¬(lo ≤ off + i ∧ off + i < hi) := by
      intro i
      by_cases hi' : i < len
      · obtain ⟨cs', h1, h2⟩ := hel i (by omega)
        obtain ⟨_, hlen, hg⟩ := World.cells?_some h1
        rw [hk] at hlen hg
        have h3 := hg 0 (by decide)
        rw [Go.Deep.add_add, Addr.add_plain, show i * 1 + 0 = i from by omega] at h3
        obtain ⟨x, hx, _, hwf⟩ := DataW.trod_int he h2
        rw [hx] at h3
        refine ⟨x, fun _ => ⟨?_, ?_, ?_⟩⟩
        · unfold World.cell? at h3
          dsimp only at h3
          rw [hb] at h3
          exact h3
        · simp [Lit.wf, IntKind.min, IntKind.max, IntKind.signed, IntKind.bits] at hwf; omega
        · have hmem : MemPlace.cell blk (off + i) ∈ MemPlace.row ⟨blk, off, none⟩ (m * P.cellsOf e) ++ (List.range m).flatMap Pl := by
            refine List.mem_append_left _ (MemPlace.mem_row.2 ⟨i, ?_, rfl⟩)
            rw [hk]
            omega
          have hfz := hz blk (off + i) hmem
          unfold World.frozen? at hfz
          dsimp only at hfz
          rw [hb] at hfz
          dsimp only at hfz
          intro hc
          rw [Bool.and_eq_false_iff] at hfz
          simp only [decide_eq_false_iff_not] at hfz
          omega
      · exact ⟨0, fun h => absurd h hi'⟩
    have hln : ((List.range len).map fun i => Classical.choose (key i)).length = len := by simp
    have hlm : len ≤ 9223372036854775807 := by
      have : m ≤ maxLen := hm
      unfold maxLen at this
      omega
    refine ⟨(List.range len).map fun i => Classical.choose (key i), fun v hv => ?_, by rw [hln]; exact hlm, .inr ⟨blk, off, m, c, et, lo, hi, by rw [hln], hb, fun k v hv => ?_⟩⟩
    · obtain ⟨i, hi', rfl⟩ := List.mem_map.1 hv
      exact (Classical.choose_spec (key i) (List.mem_range.1 hi')).2.1
    · unfold uVs at hv
      rw [List.getElem?_map, List.getElem?_map] at hv
      cases hr : (List.range len)[k]? with
      | none => rw [hr] at hv; cases hv
      | some j =>
        rw [hr] at hv
        obtain ⟨hlt, hj⟩ := List.getElem?_eq_some_iff.1 hr
        rw [List.getElem_range] at hj
        subst hj
        rw [List.length_range] at hlt
        obtain ⟨g1, _, g3⟩ := Classical.choose_spec (key k) hlt
        have hv' := Option.some.inj hv
        subst hv'
        exact ⟨rfl, ⟨_, g1, fun m => .int _ _⟩, g3⟩
  · cases hshape
end

section
variable {H : Type} {enc : TypeId × Value → H} {W : World}
theorem u_read {v : Value} {d : DataW H} {ps : List MemPlace} {b0 : Nat} (hok : Value.okWide Try.prog W .any b0 68 v) (hd : DataW.Trod enc Try.prog W 0 (fun _ => true) true 68 v d ps) (hz : W.noneFrozen ps) :
    ∃ L : List Int, u8s L ∧ L.length ≤ 9223372036854775807 ∧ RdS W (uVs L) L.length v := by
  obtain ⟨fuel, hf⟩ := hd
  have hc : v.cells.toList = [v] ∧ Cell.okWide Try.prog W .any b0 68 v := by
    simp only [Value.okWide, Try.underlying68] at hok
    cases v <;> first | exact ⟨rfl, hok⟩ | (simp [Cell.okWide, Cell.ok, Try.underlying68] at hok)
  have hf' : DataW.trod enc Try.prog W 0 (fun _ => true) true fuel 68 [v] = some (d, ps) := by rw [← hc.1]; exact hf
  exact slice_read8 (e := 5) Try.underlying68 Try.underlying5 (by kernel_rfl) hf' hz hc.2
theorem trodAll_7 {t0 t1 t2 t3 t4 t5 t6 : TypeId} {args : Array Value} {ds : List (DataW H)} {ps : List MemPlace} (h : DataW.TrodAll enc Try.prog W 0 (fun _ => true) true [t0, t1, t2, t3, t4, t5, t6] args.toList ds ps) :
    ∃ v0 v1 v2 v3 v4 v5 v6 d0 d1 d2 d3 d4 d5 d6 p0 p1 p2 p3 p4 p5 p6, args = #[v0, v1, v2, v3, v4, v5, v6] ∧ ds = [d0, d1, d2, d3, d4, d5, d6] ∧ ps = p0 ++ p1 ++ p2 ++ p3 ++ p4 ++ p5 ++ p6 ∧ DataW.Trod enc Try.prog W 0 (fun _ => true) true t0 v0 d0 p0 ∧ DataW.Trod enc Try.prog W 0 (fun _ => true) true t1 v1 d1 p1 ∧ DataW.Trod enc Try.prog W 0 (fun _ => true) true t2 v2 d2 p2 ∧ DataW.Trod enc Try.prog W 0 (fun _ => true) true t3 v3 d3 p3 ∧ DataW.Trod enc Try.prog W 0 (fun _ => true) true t4 v4 d4 p4 ∧ DataW.Trod enc Try.prog W 0 (fun _ => true) true t5 v5 d5 p5 ∧ DataW.Trod enc Try.prog W 0 (fun _ => true) true t6 v6 d6 p6 := by
  obtain ⟨v0, vs0, d0, ds0, p0, q0, hargs, rfl, rfl, g0, r0⟩ := trodAll_cons h
  obtain ⟨v1, vs1, d1, ds1, p1, q1, rfl, rfl, rfl, g1, r1⟩ := trodAll_cons r0
  obtain ⟨v2, vs2, d2, ds2, p2, q2, rfl, rfl, rfl, g2, r2⟩ := trodAll_cons r1
  obtain ⟨v3, vs3, d3, ds3, p3, q3, rfl, rfl, rfl, g3, r3⟩ := trodAll_cons r2
  obtain ⟨v4, vs4, d4, ds4, p4, q4, rfl, rfl, rfl, g4, r4⟩ := trodAll_cons r3
  obtain ⟨v5, vs5, d5, ds5, p5, q5, rfl, rfl, rfl, g5, r5⟩ := trodAll_cons r4
  obtain ⟨v6, vs6, d6, ds6, p6, q6, rfl, rfl, rfl, g6, r6⟩ := trodAll_cons r5
  obtain ⟨rfl, rfl, rfl⟩ := trodAll_nil r6
  exact ⟨v0, v1, v2, v3, v4, v5, v6, d0, d1, d2, d3, d4, d5, d6, p0, p1, p2, p3, p4, p5, p6, Array.toList_inj.1 hargs, rfl, by simp [List.append_assoc], g0, g1, g2, g3, g4, g5, g6⟩
end

theorem walkR {f : FuncId} (W : World) (lo hi : Int) (l : List E) (A B : List Int) (x y z : Value) (v1 v2 v3 v6 : V) (x1 x2 x3 x6 : Value) (e1 : ∀ m : M, VR m v1 x1) (e2 : ∀ m : M, VR m v2 x2) (e3 : ∀ m : M, VR m v3 x3) (e6 : ∀ m : M, VR m v6 x6) (hx : RdS W (entVs l) l.length x) (hy : RdS W (uVs A) A.length y) (hz : RdS W (uVs B) B.length z)
    (hc : ∀ (h : H) (sv av bv : V), SlC h (entVs l) l.length sv → SlC h (uVs A) A.length av → SlC h (uVs B) B.length bv → CallOk Try.prog f [starV lo hi sv, v1, v2, v3, av, bv, v6] h (.bool true) h) :
    Calls Try.prog f (#[Value.agg #[.int .i64 lo, .int .i64 hi, x], x1, x2, x3, y, z, x6]) W fun r w' => r = .returned (.bool true) ∧ Fr W w' := by
  obtain ⟨m1, p1, k1⟩ := hx.mk
  obtain ⟨m2, p2, k2⟩ := hy.mk
  obtain ⟨m3, p3, k3⟩ := hz.mk
  obtain ⟨s1, a1, b1⟩ := k1 0
  obtain ⟨s2, a2, b2⟩ := k2 1
  obtain ⟨s3, a3, b3⟩ := k3 2
  have hr := hr_views (W := W) (mos := [m1, m2, m3]) (Ls := [entVs l, uVs A, uVs B]) rfl (fun i L' m' hL hm => by
    match i with
    | 0 => simp at hL hm; subst hL; subst hm; exact p1
    | 1 => simp at hL hm; subst hL; subst hm; exact p2
    | 2 => simp at hL hm; subst hL; subst hm; exact p3
    | i + 3 => simp at hL)
  have hc := hc (hp (flatBlks [entVs l, uVs A, uVs B])) s1 s2 s3 (a1 _ (by rw [hp_get]; rfl)) (a2 _ (by rw [hp_get]; rfl)) (a3 _ (by rw [hp_get]; rfl))
  have hv : VRs (fun i => ([m1, m2, m3][i]?).join) [starV lo hi s1, v1, v2, v3, s2, s3, v6] [Value.agg #[.int .i64 lo, .int .i64 hi, x], x1, x2, x3, y, z, x6] :=
    .cons (VRs.agg (.cons (.int _ _) (.cons (.int _ _) (.cons (b1 _ rfl) (.nil _))))) (.cons (e1 _) (.cons (e2 _) (.cons (e3 _) (.cons (b2 _ rfl) (.cons (b3 _ rfl) (.cons (e6 _) (.nil _)))))))
  refine Calls.mono (callsIn_wide.1 (hc.walk hr hv)) ?_
  rintro r w' ⟨m', y, rfl, hy, hf⟩
  cases hy
  exact ⟨rfl, hf⟩
end Go.Proofs.D

