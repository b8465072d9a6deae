/- What the functions answer that the laws call, one after another (Read). -/
import Derived.Test.YtmfohdhnpanfeaaAs6
import Derived.Test.YtmfohdhnpanfeaaRows
import Derived.WalkKit
import Derived.ProofKit
import Derived.OpenShut
import Derived.Carry
import Derived.ChangeMaps5
import Derived.Test.YtmfohdhnpanfeaaBase

set_option linter.unusedVariables false
namespace Go.Proofs.Q
open Go.As Go.ChangeShapes Go.WideShapes Go.Deep Go.ChangeMaps Go.ChangeAt Go.RowKit
set_option maxRecDepth 20000
set_option linter.unusedVariables false

section
variable {H : Type} {enc : TypeId × Value → H} {W : World}

/-- A slice, element by element: nil, or in a block; none of its cells is frozen. -/
theorem slice_cells {P : Program} {w : World} {t e : TypeId} {fuel k : Nat} {v : Value} {d : DataW H} {ps : List MemPlace} {b0 : Nat} (ht : P.underlying t = some (.slice e)) (hk : P.cellsOf e = k)
    (h : DataW.trod enc P w 0 (fun _ => true) true fuel t [v] = some (d, ps)) (hz : w.noneFrozen ps) (hok : Cell.okWide P w .any b0 t v) :
    v = .slice none 0 0 ∨ ∃ (a : Addr) (len cap q : Nat) (c : Array Value) (et : TypeId) (lo hi : Nat), v = .slice (some ⟨a.block, a.off, none⟩) len cap ∧ len ≤ cap ∧ len ≤ 9223372036854775807 ∧ w.heap[a.block]? = some (.cells c et (lo, hi)) ∧
      ∀ i, i < len → ∃ cs' D Pl, cs'.length = k ∧ DataW.trod enc P w 0 (fun _ => true) true q e cs' = some (D, Pl) ∧ ∀ j x, cs'[j]? = some x → c[a.off + i * k + j]? = some x ∧ ¬(lo ≤ a.off + i * k + j ∧ a.off + i * k + j < hi) := by
  rcases open_slice ht h with ⟨h1, _⟩ | ⟨a, len, cap, m, q, D, Pl, hcs, _, hl, hm, hmm, hx, hel⟩
  · left; cases h1; rfl
  right
  cases hcs
  cases hx
  have hok' : len ≤ cap ∧ (cap : Int) ≤ IntKind.i64.max ∧ w.has P .any b0 a e cap := by
    simp only [Cell.okWide, ht, Cell.ok] at hok
    exact hok
  obtain ⟨_, _, _, hspot, row, cells, hshape, _⟩ := hok'
  obtain ⟨blk, off, spot⟩ := a
  dsimp only at hspot
  subst hspot
  have hm' : m = cap := hmm
  subst hm'
  unfold World.shape? at hshape
  dsimp only at hshape
  split at hshape
  · rename_i c et fz hb
    obtain ⟨lo, hi⟩ := fz
    refine ⟨⟨blk, off, none⟩, len, m, q, c, et, lo, hi, rfl, hl, ?_, hb, fun i hi' => ?_⟩
    · have : m ≤ maxLen := hm
      unfold maxLen at this
      omega
    · obtain ⟨cs', h1, h2⟩ := hel i (by omega)
      obtain ⟨_, hlen, hg⟩ := World.cells?_some h1
      rw [hk] at hlen hg
      refine ⟨cs', D i, Pl i, hlen, h2, fun j x hj => ?_⟩
      have hjk : j < k := by rw [← hlen]; exact (List.getElem?_eq_some_iff.1 hj).1
      have h3 := hg j hjk
      rw [Go.Deep.add_add, Addr.add_plain, hj] at h3
      have hik : i * k + j < m * k := by
        have : (i + 1) * k ≤ m * k := Nat.mul_le_mul_right k (by omega)
        rw [Nat.succ_mul] at this; omega
      refine ⟨?_, ?_⟩
      · unfold World.cell? at h3
        dsimp only at h3
        rw [hb] at h3
        dsimp only
        rw [Nat.add_assoc]
        exact h3
      · have hmem : MemPlace.cell blk (off + (i * k + j)) ∈ MemPlace.row ⟨blk, off, none⟩ (m * P.cellsOf e) ++ (List.range m).flatMap Pl := by
          refine List.mem_append_left _ (MemPlace.mem_row.2 ⟨i * k + j, ?_, rfl⟩)
          rw [hk]
          exact hik
        have hfz := hz blk (off + (i * k + j)) hmem
        unfold World.frozen? at hfz
        dsimp only at hfz
        rw [hb] at hfz
        dsimp only at hfz
        intro hc
        rw [Bool.and_eq_false_iff] at hfz
        simp only [decide_eq_false_iff_not] at hfz
        dsimp only at hc
        omega
  · cases hshape
/-- A slice of strings. -/
theorem texts_read {P : Program} {w : World} {t e : TypeId} {fuel : Nat} {v : Value} {d : DataW H} {ps : List MemPlace} {b0 : Nat} (ht : P.underlying t = some (.slice e)) (he : P.underlying e = some .string) (hk : P.cellsOf e = 1)
    (h : DataW.trod enc P w 0 (fun _ => true) true fuel t [v] = some (d, ps)) (hz : w.noneFrozen ps) (hok : Cell.okWide P w .any b0 t v) :
    ∃ (n : Nat) (A : Nat → List UInt8), n ≤ 9223372036854775807 ∧ (∀ i, (A i).length ≤ 9223372036854775807) ∧ FR (zW w) (.rsl false 1 n (tG A)) v := by
  rcases slice_cells ht hk h hz hok with rfl | ⟨a, len, cap, q, c, et, lo, hi, rfl, hlc, hlm, hb, hcs⟩
  · exact ⟨0, fun _ => [], by omega, fun _ => by simp, .rsl0⟩
  · have key : ∀ i, ∃ T : List UInt8, T.length ≤ 9223372036854775807 ∧ (i < len → c[a.off + i]? = some (.string ⟨⟨T⟩⟩) ∧ ¬(lo ≤ a.off + i ∧ a.off + i < hi)) := by
      intro i
      by_cases hi' : i < len
      · obtain ⟨cs', D, Pl, h1, h2, h3⟩ := hcs i hi'
        obtain ⟨s, rfl, _, hs⟩ := DataW.trod_string he h2
        obtain ⟨⟨T⟩⟩ := s
        have h4 := h3 0 _ rfl
        rw [Nat.mul_one, Nat.add_zero] at h4
        refine ⟨T, ?_, fun _ => h4⟩
        have hs' : T.length ≤ maxLen := hs
        unfold maxLen at hs'
        omega
      · exact ⟨[], by simp, fun h => absurd h hi'⟩
    refine ⟨len, fun i => Classical.choose (key i), hlm, fun i => (Classical.choose_spec (key i)).1, ?_⟩
    refine .rsl (zW_at hb) hlc (fun h => by cases h) (fun i hi' => rfl) (fun i hi' j v hv => ?_) (fun i hi' j v x hv hx => ?_)
    · match j with
      | 0 =>
        have hv' : tx (Classical.choose (key i)) = v := by simpa [tG] using hv
        subst hv'
        obtain ⟨h1, h2⟩ := (Classical.choose_spec (key i)).2 hi'
        exact ⟨rfl, ⟨_, by rw [Nat.mul_one, Nat.add_zero]; exact h1⟩, by rw [Nat.mul_one, Nat.add_zero]; exact h2⟩
      | j + 1 => simp [tG] at hv
    · match j with
      | 0 =>
        have hv' : tx (Classical.choose (key i)) = v := by simpa [tG] using hv
        subst hv'
        obtain ⟨h1, _⟩ := (Classical.choose_spec (key i)).2 hi'
        rw [Nat.mul_one, Nat.add_zero] at hx
        have hx' : c[a.off + i]? = some x := hx
        rw [h1] at hx'
        cases hx'
        exact .str _
      | j + 1 => simp [tG] at hv

theorem trod_struct2 {t : TypeId} {f0 f1 : Field} {fuel : Nat} {cs : List Value} {x : DataW H × List MemPlace} (ht : Try.prog.underlying t = some (.struct #[f0, f1])) (h : DataW.trod enc Try.prog W 0 (fun _ => true) true fuel t cs = some x) :
    ∃ y0 y1 n, x = (.agg [y0.1, y1.1], y0.2 ++ y1.2) ∧ cs.length = Try.prog.cellsOf t ∧ DataW.trod enc Try.prog W 0 (fun _ => true) true n f0.type ((cs.drop f0.offset).take (Try.prog.cellsOf f0.type)) = some y0 ∧
      DataW.trod enc Try.prog W 0 (fun _ => true) true n f1.type ((cs.drop f1.offset).take (Try.prog.cellsOf f1.type)) = some y1 := by
  obtain ⟨xs, n, _, rfl, hl, hlen, hf⟩ := DataW.trod_struct ht h
  match xs, hlen with
  | [y0, y1], _ => exact ⟨y0, y1, n, by simp, hl, by simpa using hf 0 f0 rfl, by simpa using hf 1 f1 rfl⟩
theorem ints_of {n t k : Nat} (hfl : flatI Try.prog n t = some k) {fuel : Nat} {cs : List Value} {x : DataW H × List MemPlace} (h : DataW.trod enc Try.prog W 0 (fun _ => true) true fuel t cs = some x) : x.2 = [] ∧ cs.length = k ∧ ∀ v ∈ cs, IsI v :=
  flatI_read n t k hfl fuel cs x.1 x.2 h

theorem text_read {v : Value} {d : DataW H} {ps : List MemPlace} {b0 : Nat} (hok : Value.okWide Try.prog W .any b0 9 v) (hd : DataW.Trod enc Try.prog W 0 (fun _ => true) true 9 v d ps) (hz : W.noneFrozen ps) :
    ∃ T : List UInt8, T.length ≤ 9223372036854775807 ∧ VR (mW W) (tx T) v := by
  obtain ⟨s, rfl, _, _, hs⟩ := open_string Try.underlying9 hok hd
  obtain ⟨⟨T⟩⟩ := s
  have hs' : T.length ≤ maxLen := hs
  unfold maxLen at hs'
  exact ⟨T, by omega, .str _⟩
theorem i_read {fuel : Nat} {v : Value} {d : DataW H} {ps : List MemPlace} {b0 : Nat} (h : DataW.trod enc Try.prog W 0 (fun _ => true) true fuel 22 [v] = some (d, ps)) (hz : W.noneFrozen ps) (hok : Cell.okWide Try.prog W .any b0 22 v) :
    ∃ (n : Nat) (a : Nat → Int), n ≤ 9223372036854775807 ∧ FR (zW W) (.rsl false 1 n (iG a)) v := by
  rcases slice_read (n := 5) (k := 1) Try.underlying22 (by kernel_rfl) (by kernel_rfl) h hz hok with rfl | ⟨ad, len, cap, f, c, et, flo, fhi, rfl, hlc, hlm, hb, hcs⟩
  · exact ⟨0, fun _ => 0, by simp, .rsl0⟩
  · refine ⟨len, f, hlm, FR.ints hlc hb hcs (fun i hi => ⟨rfl, fun j v hv => ?_⟩)⟩
    match j with
    | 0 => simp [iG] at hv; rw [← hv, Nat.mul_one, Nat.add_zero]
    | j + 1 => simp [iG] at hv
theorem marks_read {v : Value} {d : DataW H} {ps : List MemPlace} {b0 : Nat} (hok : Value.okWide Try.prog W .any b0 25 v) (hd : DataW.Trod enc Try.prog W 0 (fun _ => true) true 25 v d ps) (hz : W.noneFrozen ps) :
    ∃ (n : Nat) (s : Nat → Int) (k : Nat) (A : Nat → List UInt8), n ≤ 9223372036854775807 ∧ k ≤ 9223372036854775807 ∧ (∀ i, (A i).length ≤ 9223372036854775807) ∧ VR (mW W) (marksV n s k A false false) v := by
  simp only [Value.okWide, Try.underlying25] at hok
  obtain ⟨cs, rfl, hsz, ts, hts, _, hcell⟩ := hok
  have hts' : Try.prog.cellTypes Try.prog.depth 25 = some [22, 23] := by kernel_rfl
  rw [hts'] at hts
  cases hts
  have c25 : Try.prog.cellsOf 25 = 2 := by kernel_rfl
  have c22 : Try.prog.cellsOf 22 = 1 := by kernel_rfl
  have c23 : Try.prog.cellsOf 23 = 1 := by kernel_rfl
  obtain ⟨fuel, hf⟩ := hd
  have hf' : DataW.trod enc Try.prog W 0 (fun _ => true) true fuel 25 cs.toList = some (d, ps) := hf
  obtain ⟨y0, y1, n, hx, hlen, h0, h1⟩ := trod_struct2 Try.underlying25 hf'
  rw [c25] at hsz
  obtain ⟨csl⟩ := cs
  dsimp only at h0 h1 hlen hf'
  match csl, hsz with
  | [a, b], _ =>
  rw [c22] at h0
  rw [c23] at h1
  have h0' : DataW.trod enc Try.prog W 0 (fun _ => true) true n 22 [a] = some y0 := h0
  have h1' : DataW.trod enc Try.prog W 0 (fun _ => true) true n 23 [b] = some y1 := h1
  obtain ⟨u0, hu0, hc0⟩ := hcell 0 a rfl
  obtain ⟨u1, hu1, hc1⟩ := hcell 1 b rfl
  cases hu0
  cases hu1
  cases hx
  obtain ⟨k, s, hk, hfr⟩ := i_read h0' (fun b off hp => hz b off (List.mem_append_left _ hp)) hc0
  obtain ⟨m, A, hm, hA, hfr1⟩ := texts_read Try.underlying23 Try.underlying9 (by kernel_rfl) h1' (fun b off hp => hz b off (List.mem_append_right _ hp)) hc1
  exact ⟨k, s, m, A, hk, hm, hA, Go.As.VRs.agg (.cons hfr.vr (.cons hfr1.vr (.nil _)))⟩
theorem ratio_read {v : Value} {d : DataW H} {ps : List MemPlace} {b0 : Nat} (hok : Value.okWide Try.prog W .any b0 55 v) (hd : DataW.Trod enc Try.prog W 0 (fun _ => true) true 55 v d ps) (hz : W.noneFrozen ps) :
    ∃ (p q : Int), VR (mW W) (.agg [.int .i64 p, .int .i64 q]) v := by
  simp only [Value.okWide, Try.underlying55] at hok
  obtain ⟨cs, rfl, hsz, ts, hts, _, hcell⟩ := hok
  have c25 : Try.prog.cellsOf 55 = 2 := by kernel_rfl
  obtain ⟨fuel, hf⟩ := hd
  have hf' : DataW.trod enc Try.prog W 0 (fun _ => true) true fuel 55 cs.toList = some (d, ps) := hf
  obtain ⟨_, _, hI⟩ := ints_of (n := 5) (t := 55) (k := 2) (by kernel_rfl) hf'
  rw [c25] at hsz
  obtain ⟨csl⟩ := cs
  match csl, hsz with
  | [a, b], _ =>
  obtain ⟨p, rfl, _⟩ := hI a (by simp)
  obtain ⟨q, rfl, _⟩ := hI b (by simp)
  exact ⟨p, q, Go.As.VRs.agg (.cons (.int _ _) (.cons (.int _ _) (.nil _)))⟩
end
end Go.Proofs.Q
