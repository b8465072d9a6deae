/- What the functions answer that the laws call, one after another (Un2). -/
import Derived.Test.YtmfohdhnpanfeaaAs6
import Derived.Test.YtmfohdhnpanfeaaUn

set_option linter.unusedVariables false
namespace Go.Proofs.Q
open Go.As
set_option maxRecDepth 20000
set_option linter.unusedVariables false
set_option linter.unusedSimpArgs false
/-- A bit, as the law reads it. -/
def bitU (a : Int) (i : Nat) : Int := IntKind.i64.wrap (IntKind.u64.wrap ↑(BitVec.ofInt IntKind.u64.bits (a.fdiv ((2 : Int) ^ min ((i : Int)).toNat IntKind.u64.bits)) &&& BitVec.ofInt IntKind.u64.bits (1 : Int)).toNat)
theorem bitU_le (a : Int) (i : Nat) : 0 ≤ bitU a i ∧ bitU a i ≤ 1 := by
  have key : ∀ x : BitVec 64, (x &&& BitVec.ofInt 64 1).toNat ≤ 1 := fun x => by
    rw [BitVec.toNat_and]
    exact Nat.le_trans Nat.and_le_right (by decide)
  have h := key (BitVec.ofInt IntKind.u64.bits (a.fdiv ((2 : Int) ^ min ((i : Int)).toNat IntKind.u64.bits)))
  have e : ∀ z : Nat, z ≤ 1 → 0 ≤ IntKind.i64.wrap (IntKind.u64.wrap (z : Int)) ∧ IntKind.i64.wrap (IntKind.u64.wrap (z : Int)) ≤ 1 := fun z hz => by
    match z, hz with
    | 0, _ => decide
    | 1, _ => decide
  exact e _ h
theorem bit_mul {u v : Int} (hu : 0 ≤ u ∧ u ≤ 1) (hv : 0 ≤ v ∧ v ≤ 1) : 0 ≤ u * v ∧ u * v ≤ u ∧ u * v ≤ v ∧ u + v - u * v ≤ 1 := by
  have h1 : u = 0 ∨ u = 1 := by omega
  have h2 : v = 0 ∨ v = 1 := by omega
  rcases h1 with rfl | rfl <;> rcases h2 with rfl | rfl <;> simp
theorem unM_anti {a b p p' q : Int} (ha : 0 ≤ a) (hb : 0 ≤ b) (hq : 1 ≤ q) (hp : 1 ≤ p') (hpp : p' ≤ p) : unM a b p q ≤ unM a b p' q := by
  have h := (unM_iff (x := unM a b p q) (a := a) (b := b) (p := p) (q := q) ⟨ha, hb⟩ (by omega) hq).1 (Int.le_refl _)
  have h0 : 0 ≤ unM a b p q := by
    unfold unM
    exact Int.tdiv_nonneg (Int.mul_nonneg (by omega) (by omega)) (by omega)
  have h1 : unM a b p q * p' ≤ unM a b p q * p := Int.mul_le_mul_of_nonneg_left hpp h0
  exact (unM_iff (x := unM a b p q) (a := a) (b := b) (p := p') (q := q) ⟨ha, hb⟩ hp hq).2 ⟨by omega, by omega⟩
set_option maxHeartbeats 4000000 in
theorem proofSeen_ok (hW : ∀ h, CallOk Try.prog 19 [] h (.bool true) h) (h : H) (a o t nu de le : Int) (ha : 0 ≤ a ∧ a ≤ 255) (hnu : 0 ≤ nu ∧ nu ≤ 255) (hde : 0 ≤ de ∧ de ≤ 255) (hle : 0 ≤ le ∧ le ≤ 255) : CallOk Try.prog 15 [.int .u8 a, .int .u64 o, .int .u64 t, .int .u8 nu, .int .u8 de, .int .u8 le] h (.bool true) h := by
  have hx0 : 0 ≤ a.tmod 64 ∧ a.tmod 64 ≤ 63 := by
    rw [Int.tmod_eq_emod_of_nonneg ha.1]; omega
  have hx1 : 0 ≤ IntKind.i64.wrap (a.tmod 64) ∧ IntKind.i64.wrap (a.tmod 64) ≤ 63 := by
    rw [wrap_in (inR_of (by unfold InR; omega))]; exact hx0
  have hd1 : IntKind.i64.wrap de = de := wrap_in (inR_of (by unfold InR; omega))
  have hn1 : IntKind.i64.wrap nu = nu := wrap_in (inR_of (by unfold InR; omega))
  have hl1 : IntKind.i64.wrap le = le := wrap_in (inR_of (by unfold InR; omega))
  have hbo := bitU_le o
  have hbt := bitU_le t
  have kU := fun h' a b c p q => unseen_ok h' a b c p q
  refine CallOk.run0 Try.func15 rfl rfl rfl rfl rfl (WpR.of_vc ?_)
  (conv => whnf); (repeat' (first | ((with_reducible refine ifb_mk (fun hc => ?_) (fun hc => ?_)) <;> ((try simp only [decide_eq_true_eq, decide_eq_false_iff_not, Bool.not_eq_true', Bool.not_eq_false', Int.not_lt, Int.not_le, ne_eq, Decidable.not_not, beq_iff_eq, List.cons.injEq, and_true] at hc); (first | (exfalso; omega) | exact absurd True.intro hc | conv => whnf))) | ((with_reducible refine And.intro True.intro ?_); conv => whnf) | ((with_reducible refine And.intro ?hh ?_); (case hh => exact condA); conv => whnf) | fail))
  generalize IntKind.i64.wrap (a.tmod 64) = x at *
  refine WpR.loopA (ι := Nat × Int × Int × Int) [] [1, 2, 3, 4, 5, 13, 14] [0] [] 1 (fun p => [(15, .int .i64 p.1)]) (fun p => [(0, .cells (ofL [.int .i64 p.2.1, .int .i64 p.2.2.1, .int .i64 p.2.2.2] 0) true none)]) (fun p => 63 - p.1) (fun p => (p.1 : Int) ≤ x ∧ 0 ≤ p.2.2.2 ∧ p.2.2.2 ≤ p.2.1 ∧ p.2.2.2 ≤ p.2.2.1 ∧ p.2.1 ≤ p.1 ∧ p.2.2.1 ≤ p.1 ∧ p.2.1 + p.2.2.1 - p.2.2.2 ≤ p.1) ?_ ((0, 0, 0, 0)) ((by dsimp only; omega)) [] Back.auto
  rintro ⟨i, f0, f1, f2⟩ ⟨j1, j2, j3, j4, j5, j6, j7⟩
  dsimp only at j1 j2 j3 j4 j5 j6 j7
  refine WpR.of_vc ?_
  by_cases hi : (i : Int) < x
  · have hu := hbo i
    have hv := hbt i
    have huv := bit_mul hu hv
    generalize hU : bitU o i = u at *
    generalize hV : bitU t i = v at *
    unfold bitU at hU hV
    rw [← hU] at hu
    rw [← hV] at hv
    rw [← hU, ← hV] at huv
    clear hbo hbt
    (conv => whnf); (repeat' (first | ((with_reducible refine ifb_mk (fun hc => ?_) (fun hc => ?_)) <;> ((try simp only [decide_eq_true_eq, decide_eq_false_iff_not, Bool.not_eq_true', Bool.not_eq_false', Int.not_lt, Int.not_le, ne_eq, Decidable.not_not, beq_iff_eq, List.cons.injEq, and_true] at hc); (first | (exfalso; omega) | exact absurd True.intro hc | conv => whnf))) | ((with_reducible refine And.intro True.intro ?_); conv => whnf) | ((with_reducible refine WpR.draw (id := 6) mixed [0, 1, 2, 3, 4, 5, 6, 7, 8, 9, 10, 11] [0, 0, 3, 7, 15, 0, 0, 96, 224, 480, 31, 2047] ?hh ?_); (case hh => kernel_rfl); conv => whnf) | ((with_reducible refine And.intro ?hh ?_); (case hh => exact condA); conv => whnf) | fail))
    refine ⟨(i + 1, f0 + u, f1 + v, f2 + u * v), [], by dsimp only; omega, ?_, ?_⟩
    · dsimp only
      rw [hU, hV] at huv
      rw [hU] at hu
      rw [hV] at hv
      omega
    · rw [← hU, ← hV]
      exact Back.auto
  · have ei : x = (i : Int) := by omega
    clear hbo hbt hx0
    have hd : 0 ≤ IntKind.i64.wrap de ∧ IntKind.i64.wrap de ≤ 255 := by rw [hd1]; exact hde
    have hn : 0 ≤ IntKind.i64.wrap nu ∧ IntKind.i64.wrap nu ≤ 255 := by rw [hn1]; exact hnu
    have hl : 0 ≤ IntKind.i64.wrap le ∧ IntKind.i64.wrap le ≤ 255 := by rw [hl1]; exact hle
    clear hd1 hn1 hl1 hde hnu hle
    have ht : 0 ≤ (IntKind.i64.wrap nu).tmod (1 + (IntKind.i64.wrap de)) ∧ (IntKind.i64.wrap nu).tmod (1 + (IntKind.i64.wrap de)) ≤ (IntKind.i64.wrap de) := by
      have e1 : (IntKind.i64.wrap nu).tmod (1 + (IntKind.i64.wrap de)) = (IntKind.i64.wrap nu) % (1 + (IntKind.i64.wrap de)) := Int.tmod_eq_emod_of_nonneg hn.1
      have e2 := Int.emod_nonneg (IntKind.i64.wrap nu) (show (1 + (IntKind.i64.wrap de)) ≠ 0 by omega)
      have e3 := Int.emod_lt_of_pos (IntKind.i64.wrap nu) (show 0 < 1 + (IntKind.i64.wrap de) by omega)
      omega
    have iq : InR (1 + (IntKind.i64.wrap de)) := by unfold InR; omega
    have ip : InR (1 + (IntKind.i64.wrap nu).tmod (1 + (IntKind.i64.wrap de))) := by unfold InR; omega
    have hp : 1 ≤ 1 + (IntKind.i64.wrap nu).tmod (1 + (IntKind.i64.wrap de)) ∧ 1 + (IntKind.i64.wrap nu).tmod (1 + (IntKind.i64.wrap de)) ≤ 1 + (IntKind.i64.wrap de) := by omega
    have hw : 0 ≤ (IntKind.i64.wrap le).tmod (1 + (IntKind.i64.wrap nu).tmod (1 + (IntKind.i64.wrap de))) ∧ (IntKind.i64.wrap le).tmod (1 + (IntKind.i64.wrap nu).tmod (1 + (IntKind.i64.wrap de))) < 1 + (IntKind.i64.wrap nu).tmod (1 + (IntKind.i64.wrap de)) := by
      have e1 : (IntKind.i64.wrap le).tmod (1 + (IntKind.i64.wrap nu).tmod (1 + (IntKind.i64.wrap de))) = (IntKind.i64.wrap le) % (1 + (IntKind.i64.wrap nu).tmod (1 + (IntKind.i64.wrap de))) := Int.tmod_eq_emod_of_nonneg hl.1
      have e2 := Int.emod_nonneg (IntKind.i64.wrap le) (show (1 + (IntKind.i64.wrap nu).tmod (1 + (IntKind.i64.wrap de))) ≠ 0 by omega)
      have e3 := Int.emod_lt_of_pos (IntKind.i64.wrap le) (show 0 < 1 + (IntKind.i64.wrap nu).tmod (1 + (IntKind.i64.wrap de)) by omega)
      omega
    have il : InR (1 + (IntKind.i64.wrap nu).tmod (1 + (IntKind.i64.wrap de)) - (IntKind.i64.wrap le).tmod (1 + (IntKind.i64.wrap nu).tmod (1 + (IntKind.i64.wrap de)))) := by unfold InR; omega
    have b1 := mul_bd (x := f0) (y := 1 + (IntKind.i64.wrap de)) (A := 63) (B := 256) (by omega) (by omega)
    have b2 := mul_bd (x := f1) (y := 1 + (IntKind.i64.wrap de)) (A := 63) (B := 256) (by omega) (by omega)
    have b3 := mul_bd (x := x) (y := 1 + (IntKind.i64.wrap nu).tmod (1 + (IntKind.i64.wrap de))) (A := 63) (B := 256) (by omega) (by omega)
    have i1 : InR (f0 * (1 + (IntKind.i64.wrap de))) := by unfold InR; omega
    have i2 : InR (f1 * (1 + (IntKind.i64.wrap de))) := by unfold InR; omega
    have i3 : InR (x * (1 + (IntKind.i64.wrap nu).tmod (1 + (IntKind.i64.wrap de)))) := by unfold InR; omega
    have hA : unA f0 f1 f2 := by unfold unA; omega
    have hB : unB (1 + (IntKind.i64.wrap nu).tmod (1 + (IntKind.i64.wrap de))) (1 + (IntKind.i64.wrap de)) := by unfold unB; omega
    have hB' : unB (1 + (IntKind.i64.wrap nu).tmod (1 + (IntKind.i64.wrap de)) - (IntKind.i64.wrap le).tmod (1 + (IntKind.i64.wrap nu).tmod (1 + (IntKind.i64.wrap de)))) (1 + (IntKind.i64.wrap de)) := by unfold unB; omega
    have hM := unM_iff (x := x) (a := f0) (b := f1) (p := 1 + (IntKind.i64.wrap nu).tmod (1 + (IntKind.i64.wrap de))) (q := 1 + (IntKind.i64.wrap de)) (by omega) (by omega) (by omega)
    have hm := unM_anti (a := f0) (b := f1) (p := 1 + (IntKind.i64.wrap nu).tmod (1 + (IntKind.i64.wrap de))) (p' := 1 + (IntKind.i64.wrap nu).tmod (1 + (IntKind.i64.wrap de)) - (IntKind.i64.wrap le).tmod (1 + (IntKind.i64.wrap nu).tmod (1 + (IntKind.i64.wrap de)))) (q := 1 + (IntKind.i64.wrap de)) (by omega) (by omega) (by omega) (by omega) (by omega)
    have k1 := fun h' => kU h' f0 f1 f2 (1 + (IntKind.i64.wrap nu).tmod (1 + (IntKind.i64.wrap de))) (1 + (IntKind.i64.wrap de))
    have k2 := fun h' => kU h' f0 f1 f2 (1 + (IntKind.i64.wrap nu).tmod (1 + (IntKind.i64.wrap de)) - (IntKind.i64.wrap le).tmod (1 + (IntKind.i64.wrap nu).tmod (1 + (IntKind.i64.wrap de)))) (1 + (IntKind.i64.wrap de))
    unfold uns at k1 k2
    rw [if_pos hA, if_pos hB] at k1
    rw [if_pos hA, if_pos hB'] at k2
    have mb := unM_b (a := f0) (b := f1) (p := 1 + (IntKind.i64.wrap nu).tmod (1 + (IntKind.i64.wrap de))) (q := 1 + (IntKind.i64.wrap de)) (by omega) (by omega) (by omega) (by omega)
    have mb' := unM_b (a := f0) (b := f1) (p := 1 + (IntKind.i64.wrap nu).tmod (1 + (IntKind.i64.wrap de)) - (IntKind.i64.wrap le).tmod (1 + (IntKind.i64.wrap nu).tmod (1 + (IntKind.i64.wrap de)))) (q := 1 + (IntKind.i64.wrap de)) (by omega) (by omega) (by omega) (by omega)
    generalize unM f0 f1 (1 + (IntKind.i64.wrap nu).tmod (1 + (IntKind.i64.wrap de))) (1 + (IntKind.i64.wrap de)) = M at *
    generalize unM f0 f1 (1 + (IntKind.i64.wrap nu).tmod (1 + (IntKind.i64.wrap de)) - (IntKind.i64.wrap le).tmod (1 + (IntKind.i64.wrap nu).tmod (1 + (IntKind.i64.wrap de)))) (1 + (IntKind.i64.wrap de)) = N at *
    clear kU hA hB hB'
    by_cases hs : M < f0 + f1 - f2
    · rw [if_pos hs] at k1
      by_cases hs' : N < f0 + f1 - f2
      · rw [if_pos hs'] at k2
        (conv => whnf); (repeat' (first | ((with_reducible refine ifb_mk (fun hc => ?_) (fun hc => ?_)) <;> ((try simp only [decide_eq_true_eq, decide_eq_false_iff_not, Bool.not_eq_true', Bool.not_eq_false', Int.not_lt, Int.not_le, ne_eq, Decidable.not_not, beq_iff_eq, List.cons.injEq, and_true] at hc); (first | (exfalso; omega) | exact absurd True.intro hc | conv => whnf))) | ((with_reducible refine And.intro True.intro ?_); conv => whnf) | ((with_reducible refine CallX.all ?_); refine CallW.of_ok (k1 _) ?_; conv => whnf) | ((with_reducible refine CallX.all ?_); refine CallW.of_ok (k2 _) ?_; conv => whnf) | ((with_reducible refine WpR.draw (id := 6) mixed [0, 1, 2, 3, 4, 5, 6, 7, 8, 9, 10, 11] [0, 0, 3, 7, 15, 0, 0, 96, 224, 480, 31, 2047] ?hh ?_); (case hh => kernel_rfl); conv => whnf) | ((with_reducible refine WpR.draw (id := 12) mixed [0, 1, 2, 3, 4, 5, 6, 7, 8, 9, 10, 11, 12] [0, 1, 0, 4, 0, 16, 60, 127, 0, 256, 1023, 0, 4095] ?hh ?_); (case hh => kernel_rfl); conv => whnf) | ((with_reducible refine CallX.all ?_); refine CallW.of_ok (hW _) ?_; conv => whnf) | ((with_reducible refine grd_and ?_); refine And.intro (iq) ?_; conv => whnf) | ((with_reducible refine grd_and ?_); refine And.intro (ip) ?_; conv => whnf) | ((with_reducible refine grd_and ?_); refine And.intro (il) ?_; conv => whnf) | ((with_reducible refine grd_and ?_); refine And.intro (i1) ?_; conv => whnf) | ((with_reducible refine grd_and ?_); refine And.intro (i2) ?_; conv => whnf) | ((with_reducible refine grd_and ?_); refine And.intro (i3) ?_; conv => whnf) | ((with_reducible refine And.intro ?hh ?_); (case hh => exact condA); conv => whnf) | fail))
        all_goals (refine ⟨[], ?_, rfl, rfl, trivial, trivs⟩; simp only [renV, renL]; (first | done | rfl | (simp; done) | (simp; omega) | grind))
      · rw [if_neg hs'] at k2
        (conv => whnf); (repeat' (first | ((with_reducible refine ifb_mk (fun hc => ?_) (fun hc => ?_)) <;> ((try simp only [decide_eq_true_eq, decide_eq_false_iff_not, Bool.not_eq_true', Bool.not_eq_false', Int.not_lt, Int.not_le, ne_eq, Decidable.not_not, beq_iff_eq, List.cons.injEq, and_true] at hc); (first | (exfalso; omega) | exact absurd True.intro hc | conv => whnf))) | ((with_reducible refine And.intro True.intro ?_); conv => whnf) | ((with_reducible refine CallX.all ?_); refine CallW.of_ok (k1 _) ?_; conv => whnf) | ((with_reducible refine CallX.all ?_); refine CallW.of_ok (k2 _) ?_; conv => whnf) | ((with_reducible refine WpR.draw (id := 6) mixed [0, 1, 2, 3, 4, 5, 6, 7, 8, 9, 10, 11] [0, 0, 3, 7, 15, 0, 0, 96, 224, 480, 31, 2047] ?hh ?_); (case hh => kernel_rfl); conv => whnf) | ((with_reducible refine WpR.draw (id := 12) mixed [0, 1, 2, 3, 4, 5, 6, 7, 8, 9, 10, 11, 12] [0, 1, 0, 4, 0, 16, 60, 127, 0, 256, 1023, 0, 4095] ?hh ?_); (case hh => kernel_rfl); conv => whnf) | ((with_reducible refine CallX.all ?_); refine CallW.of_ok (hW _) ?_; conv => whnf) | ((with_reducible refine grd_and ?_); refine And.intro (iq) ?_; conv => whnf) | ((with_reducible refine grd_and ?_); refine And.intro (ip) ?_; conv => whnf) | ((with_reducible refine grd_and ?_); refine And.intro (il) ?_; conv => whnf) | ((with_reducible refine grd_and ?_); refine And.intro (i1) ?_; conv => whnf) | ((with_reducible refine grd_and ?_); refine And.intro (i2) ?_; conv => whnf) | ((with_reducible refine grd_and ?_); refine And.intro (i3) ?_; conv => whnf) | ((with_reducible refine And.intro ?hh ?_); (case hh => exact condA); conv => whnf) | fail))
        all_goals (refine ⟨[], ?_, rfl, rfl, trivial, trivs⟩; simp only [renV, renL]; (first | done | rfl | (simp; done) | (simp; omega) | grind))
    · rw [if_neg hs] at k1
      rw [if_neg (show ¬ N < f0 + f1 - f2 by omega)] at k2
      (conv => whnf); (repeat' (first | ((with_reducible refine ifb_mk (fun hc => ?_) (fun hc => ?_)) <;> ((try simp only [decide_eq_true_eq, decide_eq_false_iff_not, Bool.not_eq_true', Bool.not_eq_false', Int.not_lt, Int.not_le, ne_eq, Decidable.not_not, beq_iff_eq, List.cons.injEq, and_true] at hc); (first | (exfalso; omega) | exact absurd True.intro hc | conv => whnf))) | ((with_reducible refine And.intro True.intro ?_); conv => whnf) | ((with_reducible refine CallX.all ?_); refine CallW.of_ok (k1 _) ?_; conv => whnf) | ((with_reducible refine CallX.all ?_); refine CallW.of_ok (k2 _) ?_; conv => whnf) | ((with_reducible refine WpR.draw (id := 6) mixed [0, 1, 2, 3, 4, 5, 6, 7, 8, 9, 10, 11] [0, 0, 3, 7, 15, 0, 0, 96, 224, 480, 31, 2047] ?hh ?_); (case hh => kernel_rfl); conv => whnf) | ((with_reducible refine WpR.draw (id := 12) mixed [0, 1, 2, 3, 4, 5, 6, 7, 8, 9, 10, 11, 12] [0, 1, 0, 4, 0, 16, 60, 127, 0, 256, 1023, 0, 4095] ?hh ?_); (case hh => kernel_rfl); conv => whnf) | ((with_reducible refine CallX.all ?_); refine CallW.of_ok (hW _) ?_; conv => whnf) | ((with_reducible refine grd_and ?_); refine And.intro (iq) ?_; conv => whnf) | ((with_reducible refine grd_and ?_); refine And.intro (ip) ?_; conv => whnf) | ((with_reducible refine grd_and ?_); refine And.intro (il) ?_; conv => whnf) | ((with_reducible refine grd_and ?_); refine And.intro (i1) ?_; conv => whnf) | ((with_reducible refine grd_and ?_); refine And.intro (i2) ?_; conv => whnf) | ((with_reducible refine grd_and ?_); refine And.intro (i3) ?_; conv => whnf) | ((with_reducible refine And.intro ?hh ?_); (case hh => exact condA); conv => whnf) | fail))
      all_goals (refine ⟨[], ?_, rfl, rfl, trivial, trivs⟩; simp only [renV, renL]; (first | done | rfl | (simp; done) | (simp; omega) | grind))
end Go.Proofs.Q
