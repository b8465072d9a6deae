/- What the functions answer that the laws call, one after another (Ta). -/
import Derived.Test.YtgopneibaajgbaaAs6
import Derived.Test.YtgopneibaajgbaaKt
import Derived.Test.YtgopneibaajgbaaKm
import Derived.Test.YtgopneibaajgbaaKl
import Derived.Test.YtgopneibaajgbaaWk

set_option linter.unusedVariables false
namespace Go.Proofs.H
open Go.As
set_option maxRecDepth 20000
set_option linter.unusedVariables false
set_option linter.unusedSimpArgs false

/-! ### MendTurned -/

set_option maxHeartbeats 16000000 in
theorem turned_000 (h : As.H) (W H : Int) (k : Nat) (d : Nat → Int) (hk : k ≤ 9223372036854775807) :
    CallOk Try.prog 13 [plV W H false k d, .bool false, .bool false, .bool false] h (.bool true) h := by
  have kWk := fun h : As.H => wwhole.everywhere rfl h
  rcases fine_split W H k d hk with ⟨w, hh, rfl, rfl, p⟩ | kF
  rotate_left
  · refine CallOk.run0 Try.func13 rfl rfl rfl rfl rfl (WpR.of_vc ?_)
    (conv => whnf); (repeat' (first | ((with_reducible refine ifb_mk (fun hc => ?_) (fun hc => ?_)) <;> ((try simp only [decide_eq_true_eq, decide_eq_false_iff_not, Bool.not_eq_true', Bool.not_eq_false', Int.not_lt, Int.not_le, ne_eq, Decidable.not_not, beq_iff_eq, List.cons.injEq, and_true] at hc); (first | (exfalso; omega) | exact absurd True.intro hc | conv => whnf))) | ((with_reducible refine And.intro True.intro ?_); conv => whnf) | ((with_reducible refine CallX.all ?_); refine CallW.of_ok (kF _) ?_; conv => whnf) | ((with_reducible refine CallX.all ?_); refine CallW.of_ok (kWk _) ?_; conv => whnf) | ((with_reducible refine WpR.draw (id := 5) mixed [0, 1, 2, 3, 4, 5, 6, 7] [0, 1, 0, 4, 3, 19, 63, 127] ?hh ?_); (case hh => kernel_rfl); conv => whnf) | ((with_reducible refine WpR.draw (id := 10) mixed [0, 1, 2, 3, 4, 5, 6, 7, 8, 9] [0, 0, 2, 7, 0, 0, 32, 112, 15, 511] ?hh ?_); (case hh => kernel_rfl); conv => whnf) | ((with_reducible refine WpR.draw (id := 18) mixed [0, 1, 2, 3, 4, 5, 6, 7, 8, 9, 10, 11, 12, 13, 14, 15] [0, 1, 0, 4, 0, 0, 32, 112, 0, 496, 1020, 2044, 4092, 8191, 16383, 32767] ?hh ?_); (case hh => kernel_rfl); conv => whnf) | ((with_reducible refine WpR.draw (id := 26) mixed [0, 1, 2, 3, 4, 5, 6, 7, 8, 9, 10, 11, 12, 13, 14, 15, 16, 17, 18, 19, 20, 21, 22, 23, 24, 25, 26, 27] [0, 1, 0, 7, 15, 0, 32, 0, 0, 384, 896, 2016, 4064, 8191, 16383, 32767, 32767, 131071, 262143, 32767, 32767, 32767, 3178495, 7372799, 16285695, 33062911, 67108863, 134217727] ?hh ?_); (case hh => kernel_rfl); conv => whnf) | ((with_reducible refine And.intro ?hh ?_); (case hh => exact condA); conv => whnf) | fail))
    all_goals (refine ⟨[], ?_, rfl, rfl, trivial, trivs⟩; simp only [renV, renL]; (first | done | rfl | (simp; done) | (simp; omega) | grind))
  have hle := p.le
  have k0 := fun h' => fineV p h'
  have phw := p.hw
  have phh := p.hh
  have phn := p.hn
  have t := turn_ok p.hw p.hh p.hn false false false
  have hP := t.pl
  have hPe : ∀ i, trP w hh false false false i = (i / w) * w + (i % w) := fun i => rfl
  have hPi := t.pi
  have hPi2 := t.ip
  have q : Pv (exW w hh false) (exW hh w false) k (fun j => d (trP w hh false false false j)) := ⟨p.hw, p.hh, p.hn, fun j hj => p.hd _ (t.pl j hj)⟩
  obtain ⟨hfu, hfx⟩ := turn_flat t p q
  have u1 := fun h' => flatV p h'
  have kq := fun (h' : As.H) n' hn c gg hb hc => flat_own q h' 3 n' hn c gg hb hc
  have v1 := fun h' => back_ok p.x p.flat false h'
  have v2 := fun h' => back_ok q.x q.flat false h'
  have hbk := turn_back t p.hw p.hh p.hn hfx
  have hbb : decide ((brn (exW w hh false) (exW hh w false) k (xF (exW w hh false) (exW hh w false) fun j => d (trP w hh false false false j))).length = k) = decide ((brn w hh k (xF w hh d)).length = k) := decide_eq_decide.2 hbk
  rw [hbb] at v2
  clear hbb hbk p q t
  generalize trP w hh false false false = P at *
  obtain ⟨bb, ebb⟩ : ∃ bb, decide ((brn w hh k (xF w hh d)).length = k) = bb := ⟨_, rfl⟩
  rw [ebb] at v1 v2
  clear ebb
  have hw1 : exW w hh false = w := rfl
  have hw2 : exW hh w false = hh := rfl
  rw [hw1, hw2] at kq v2 hfu hfx
  clear hw1 hw2
  generalize xF w hh (fun j => d (P j)) = x2 at *
  generalize uF w hh (fun j => d (P j)) = u2 at *
  generalize xF w hh d = x1 at *
  generalize uF w hh d = u1 at *
  have hF0 : lsL (fun j => (P j : Int)) 0 = [] := rfl
  have hFs : ∀ j, lsL (fun j => (P j : Int)) (j + 1) = (P j : Int) :: lsL (fun j => (P j : Int)) j := fun j => rfl
  have hFl := lsL_len (fun j => (P j : Int))
  have hFr := lsL_rev (fun j => (P j : Int))
  have hD0 : lsL (fun j => d (P j)) 0 = [] := rfl
  have hDs : ∀ j, lsL (fun j => d (P j)) (j + 1) = d (P j) :: lsL (fun j => d (P j)) j := fun j => rfl
  have hDl := lsL_len (fun j => d (P j))
  have hDr := lsL_rev (fun j => d (P j))
  generalize lsL (fun j => (P j : Int)) = FL at *
  generalize lsL (fun j => d (P j)) = DL at *
  have w0 : (w : Int) ≠ 0 := by omega
  refine CallOk.run0 Try.func13 rfl rfl rfl rfl rfl (WpR.of_vc ?_)
  (conv => whnf); (repeat' (first | ((with_reducible refine ifb_mk (fun hc => ?_) (fun hc => ?_)) <;> ((try simp only [decide_eq_true_eq, decide_eq_false_iff_not, Bool.not_eq_true', Bool.not_eq_false', Int.not_lt, Int.not_le, ne_eq, Decidable.not_not, beq_iff_eq, List.cons.injEq, and_true] at hc); (first | (exfalso; omega) | exact absurd True.intro hc | conv => whnf))) | ((with_reducible refine And.intro True.intro ?_); conv => whnf) | ((with_reducible refine CallX.all ?_); refine CallW.of_ok (k0 _) ?_; conv => whnf) | ((with_reducible refine WpR.draw (id := 5) mixed [0, 1, 2, 3, 4, 5, 6, 7] [0, 1, 0, 4, 3, 19, 63, 127] ?hh ?_); (case hh => kernel_rfl); conv => whnf) | ((with_reducible refine WpR.draw (id := 10) mixed [0, 1, 2, 3, 4, 5, 6, 7, 8, 9] [0, 0, 2, 7, 0, 0, 32, 112, 15, 511] ?hh ?_); (case hh => kernel_rfl); conv => whnf) | ((with_reducible refine WpR.draw (id := 18) mixed [0, 1, 2, 3, 4, 5, 6, 7, 8, 9, 10, 11, 12, 13, 14, 15] [0, 1, 0, 4, 0, 0, 32, 112, 0, 496, 1020, 2044, 4092, 8191, 16383, 32767] ?hh ?_); (case hh => kernel_rfl); conv => whnf) | ((with_reducible refine WpR.draw (id := 26) mixed [0, 1, 2, 3, 4, 5, 6, 7, 8, 9, 10, 11, 12, 13, 14, 15, 16, 17, 18, 19, 20, 21, 22, 23, 24, 25, 26, 27] [0, 1, 0, 7, 15, 0, 32, 0, 0, 384, 896, 2016, 4064, 8191, 16383, 32767, 32767, 131071, 262143, 32767, 32767, 32767, 3178495, 7372799, 16285695, 33062911, 67108863, 134217727] ?hh ?_); (case hh => kernel_rfl); conv => whnf) | ((with_reducible refine And.intro ?hh ?_); (case hh => exact condA); conv => whnf) | fail))
  have hMap : ∀ i, ltB 4 (.cells (ofL [.int .i64 w, .int .i64 hh, grV 3 i] 0) true none) := fun i => ltB_ofL (by intro v hv; (repeat (rcases List.mem_cons.1 hv with rfl | hv; (first | rfl | exact grV_lt rfl i))); cases hv)
  have hMapB : ∀ i, ltB 1000 (.cells (ofL [.int .i64 w, .int .i64 hh, grV 3 i] 0) true none) := fun i => ltB_ofL (by intro v hv; (repeat (rcases List.mem_cons.1 hv with rfl | hv; (first | rfl | exact grV_lt rfl i))); cases hv)
  have hMapA : ∀ l : List Int, ltB 4 (grB 1 (gR eI l) l.length) := fun l => grB_lt (gR_bare eI_bare) _
  have hMap2 : ∀ l : List Int, ltB 1000 (grB 1 (gR eI l) l.length) := fun l => grB_lt (gR_bare eI_bare) _
  refine WpR.loopA (ι := Nat × (List Int × List Int)) [2, 3] [1, 2, 3, 4, 9] [1, 2, 3] [] 4 (fun p => [(10, grV 2 p.2.1.length), (11, .int .i64 p.1)]) (fun p => [(1, .cells (ofL [.int .i64 w, .int .i64 hh, grV 3 p.2.2.length] 0) true none), (2, grB 1 (gR eI p.2.1) p.2.1.length), (3, grB 1 (gR eI p.2.2) p.2.2.length)]) (fun p => k - p.1) (fun p => p.1 ≤ k ∧ p.2.1 = FL p.1 ∧ p.2.2 = DL p.1) ?_ ((0, ([], []))) (⟨Nat.zero_le _, hF0.symm, hD0.symm⟩) [] Back.auto (htv := fun p _ => ⟨grV_lt rfl _, rfl, trivial⟩)
  rintro ⟨i, q1, q2⟩ ⟨j1, j2, j3⟩
  dsimp only at j1 j2 j3
  refine WpR.of_vc ?_
  have hql1 := hFl i
  have hql2 := hDl i
  rw [← j2] at hql1
  rw [← j3] at hql2
  by_cases hi : i < k
  · have e1 := hFs i
    have e2 := hDs i
    rw [← j2] at e1
    rw [← j3] at e2
    have hPk := hP i hi
    obtain ⟨b, hbQ, hb⟩ : ∃ b, b < hh ∧ i / w = b := ⟨_, Nat.div_lt_of_lt_mul (by rw [phn] at hi; exact hi), rfl⟩
    obtain ⟨a, haQ, ha⟩ : ∃ a, a < w ∧ i % w = a := ⟨_, Nat.mod_lt _ (by omega), rfl⟩
    have hpe := hPe i
    rw [ha, hb] at hpe
    have ea : (i : Int).tmod w = (a : Int) := by rw [Int.tmod_eq_emod_of_nonneg (by omega), ← ha]; omega
    have eb : (i : Int).tdiv w = (b : Int) := by rw [Int.tdiv_eq_ediv_of_nonneg (by omega), ← hb]; omega
    clear ha hb
    have y1 : InR ((i : Int).tmod w) := by rw [ea]; unfold InR; omega
    have y2 : InR ((i : Int).tdiv w) := by rw [eb]; unfold InR; omega
    have eY : ((i : Int).tdiv w) = (((b) : Nat) : Int) := by rw [eb] <;> omega
    have eX : ((i : Int).tmod w) = (((a) : Nat) : Int) := by rw [ea] <;> omega
    have eYW : ((i : Int).tdiv w) * w = (((b) * w : Nat) : Int) := by rw [eY, Int.natCast_mul]
    have y3 : InR (((i : Int).tdiv w) * w) := by rw [eYW]; unfold InR; omega
    have hE : ((i : Int).tdiv w) * w + ((i : Int).tmod w) = ((P i : Nat) : Int) := by rw [eYW, eX, hpe]; omega
    have y4 : InR (((i : Int).tdiv w) * w + ((i : Int).tmod w)) := by rw [hE]; unfold InR; omega
    rw [← hE] at e1
    have hP0 := hPe i
    rw [hP0] at hPk e2
    (conv => whnf); (repeat' (first | ((with_reducible refine ifb_mk (fun hc => ?_) (fun hc => ?_)) <;> ((try simp only [decide_eq_true_eq, decide_eq_false_iff_not, Bool.not_eq_true', Bool.not_eq_false', Int.not_lt, Int.not_le, ne_eq, Decidable.not_not, beq_iff_eq, List.cons.injEq, and_true] at hc); (first | (exfalso; omega) | exact absurd True.intro hc | conv => whnf))) | ((with_reducible refine And.intro True.intro ?_); conv => whnf) | ((with_reducible refine grd_and ?_); refine And.intro (hi) ?_; conv => whnf) | ((with_reducible refine grd_and ?_); refine And.intro (w0) ?_; conv => whnf) | ((with_reducible refine grd_and ?_); refine And.intro (y1) ?_; conv => whnf) | ((with_reducible refine grd_and ?_); refine And.intro (y2) ?_; conv => whnf) | ((with_reducible refine grd_and ?_); refine And.intro (y3) ?_; conv => whnf) | ((with_reducible refine grd_and ?_); refine And.intro (y4) ?_; conv => whnf) | ((with_reducible refine grd_and ?_); refine And.intro (hPk) ?_; conv => whnf) | ((with_reducible refine WpR.draw (id := 5) mixed [0, 1, 2, 3, 4, 5, 6, 7] [0, 1, 0, 4, 3, 19, 63, 127] ?hh ?_); (case hh => kernel_rfl); conv => whnf) | ((with_reducible refine WpR.draw (id := 10) mixed [0, 1, 2, 3, 4, 5, 6, 7, 8, 9] [0, 0, 2, 7, 0, 0, 32, 112, 15, 511] ?hh ?_); (case hh => kernel_rfl); conv => whnf) | ((with_reducible refine WpR.draw (id := 18) mixed [0, 1, 2, 3, 4, 5, 6, 7, 8, 9, 10, 11, 12, 13, 14, 15] [0, 1, 0, 4, 0, 0, 32, 112, 0, 496, 1020, 2044, 4092, 8191, 16383, 32767] ?hh ?_); (case hh => kernel_rfl); conv => whnf) | ((with_reducible refine WpR.draw (id := 26) mixed [0, 1, 2, 3, 4, 5, 6, 7, 8, 9, 10, 11, 12, 13, 14, 15, 16, 17, 18, 19, 20, 21, 22, 23, 24, 25, 26, 27] [0, 1, 0, 7, 15, 0, 32, 0, 0, 384, 896, 2016, 4064, 8191, 16383, 32767, 32767, 131071, 262143, 32767, 32767, 32767, 3178495, 7372799, 16285695, 33062911, 67108863, 134217727] ?hh ?_); (case hh => kernel_rfl); conv => whnf) | (((with_reducible refine idxP_mk (k := P i) ?hh ?_); (case hh => exact hE)); conv => whnf) | (refine AppX.gr (n := 1) (L := gR eI q1) (len := q1.length) rfl rfl (gI_len q1) (gI_one q1) Nat.zero_lt_one (by omega) ?_; conv => whnf) | (refine AppX.gr (n := 1) (L := gR eI q2) (len := q2.length) rfl rfl (gI_len q2) (gI_one q2) Nat.zero_lt_one (by omega) ?_; conv => whnf) | ((with_reducible refine And.intro ?hh ?_); (case hh => exact condA); conv => whnf) | fail))
    all_goals first | (exfalso; omega) | exact ⟨(i + 1, (_ :: q1, d (i / w * w + i % w) :: q2)), [(2, 5), (3, 7)], by dsimp only; omega, ⟨by dsimp only; omega, e1.symm, e2.symm⟩, Back.auto⟩
  · have ei : i = k := by omega
    subst ei
    cases q1 with
    | nil => exfalso; simp at hql1; omega
    | cons y1 q1 =>
    cases q2 with
    | nil => exfalso; simp at hql2; omega
    | cons y2 q2 =>
    rw [List.length_cons] at hql1 hql2
    have kq2 := fun (h' : As.H) hb => kq h' (q2.length + 1) hql2 (ofL (gR eI (y2 :: q2)) 0) (some (1, (q2.length + 1) * 1)) hb (fun j hj => by rw [j3, hDr]; exact arrV_get rfl hj)
    have hgx : ∀ j o, j < i → o = j → (ofL (gR eI (y1 :: q1)) 0).get o = some (.int .i64 (P j)) := fun j o hj ho => by rw [j2, hFr]; exact arrV_get ho hj
    clear kq j2 j3 hFr hDr hFs hDs
    (conv => whnf); (repeat' (first | ((with_reducible refine ifb_mk (fun hc => ?_) (fun hc => ?_)) <;> ((try simp only [decide_eq_true_eq, decide_eq_false_iff_not, Bool.not_eq_true', Bool.not_eq_false', Int.not_lt, Int.not_le, ne_eq, Decidable.not_not, beq_iff_eq, List.cons.injEq, and_true] at hc); (first | (exfalso; omega) | exact absurd True.intro hc | conv => whnf))) | ((with_reducible refine And.intro True.intro ?_); conv => whnf) | ((with_reducible refine grd_and ?_); refine And.intro (hi) ?_; conv => whnf) | ((with_reducible refine CallX.all ?_); refine CallW.of_ok (u1 _) ?_; conv => whnf) | ((with_reducible refine CallX.all ?_); refine CallW.of_ok (kq2 _ rfl) ?_; conv => whnf) | ((with_reducible refine WpR.draw (id := 5) mixed [0, 1, 2, 3, 4, 5, 6, 7] [0, 1, 0, 4, 3, 19, 63, 127] ?hh ?_); (case hh => kernel_rfl); conv => whnf) | ((with_reducible refine WpR.draw (id := 10) mixed [0, 1, 2, 3, 4, 5, 6, 7, 8, 9] [0, 0, 2, 7, 0, 0, 32, 112, 15, 511] ?hh ?_); (case hh => kernel_rfl); conv => whnf) | ((with_reducible refine WpR.draw (id := 18) mixed [0, 1, 2, 3, 4, 5, 6, 7, 8, 9, 10, 11, 12, 13, 14, 15] [0, 1, 0, 4, 0, 0, 32, 112, 0, 496, 1020, 2044, 4092, 8191, 16383, 32767] ?hh ?_); (case hh => kernel_rfl); conv => whnf) | ((with_reducible refine WpR.draw (id := 26) mixed [0, 1, 2, 3, 4, 5, 6, 7, 8, 9, 10, 11, 12, 13, 14, 15, 16, 17, 18, 19, 20, 21, 22, 23, 24, 25, 26, 27] [0, 1, 0, 7, 15, 0, 32, 0, 0, 384, 896, 2016, 4064, 8191, 16383, 32767, 32767, 131071, 262143, 32767, 32767, 32767, 3178495, 7372799, 16285695, 33062911, 67108863, 134217727] ?hh ?_); (case hh => kernel_rfl); conv => whnf) | ((with_reducible refine And.intro ?hh ?_); (case hh => exact condA); conv => whnf) | fail))
    refine WpR.loopA (ι := Nat) [] [10, 14, 15, 17, 18] [] [] 8 (fun j => [(20, .int .i64 j)]) (fun _ => []) (fun j => i - j) (fun j => j ≤ i) ?_ (0) (Nat.zero_le _) [] Back.auto
    intro j hj
    refine WpR.of_vc ?_
    by_cases hjk : j < i
    · have hgj := hgx j
      have hPj := hP j hjk
      have hxj := hfx j hjk
      have huj := hfu j hjk
      (conv => whnf); (repeat' (first | ((with_reducible refine ifb_mk (fun hc => ?_) (fun hc => ?_)) <;> ((try simp only [decide_eq_true_eq, decide_eq_false_iff_not, Bool.not_eq_true', Bool.not_eq_false', Int.not_lt, Int.not_le, ne_eq, Decidable.not_not, beq_iff_eq, List.cons.injEq, and_true] at hc); (first | (exfalso; omega) | exact absurd True.intro hc | conv => whnf))) | ((with_reducible refine And.intro True.intro ?_); conv => whnf) | ((with_reducible refine grd_and ?_); refine And.intro (hjk) ?_; conv => whnf) | ((with_reducible refine grd_and ?_); refine And.intro (hPj) ?_; conv => whnf) | (refine som_mk (hgj _ hjk (by show 0 + Int.toNat (j : Int) * 1 = j; omega)) ?_; conv => whnf) | ((with_reducible refine WpR.draw (id := 5) mixed [0, 1, 2, 3, 4, 5, 6, 7] [0, 1, 0, 4, 3, 19, 63, 127] ?hh ?_); (case hh => kernel_rfl); conv => whnf) | ((with_reducible refine WpR.draw (id := 10) mixed [0, 1, 2, 3, 4, 5, 6, 7, 8, 9] [0, 0, 2, 7, 0, 0, 32, 112, 15, 511] ?hh ?_); (case hh => kernel_rfl); conv => whnf) | ((with_reducible refine WpR.draw (id := 18) mixed [0, 1, 2, 3, 4, 5, 6, 7, 8, 9, 10, 11, 12, 13, 14, 15] [0, 1, 0, 4, 0, 0, 32, 112, 0, 496, 1020, 2044, 4092, 8191, 16383, 32767] ?hh ?_); (case hh => kernel_rfl); conv => whnf) | ((with_reducible refine WpR.draw (id := 26) mixed [0, 1, 2, 3, 4, 5, 6, 7, 8, 9, 10, 11, 12, 13, 14, 15, 16, 17, 18, 19, 20, 21, 22, 23, 24, 25, 26, 27] [0, 1, 0, 7, 15, 0, 32, 0, 0, 384, 896, 2016, 4064, 8191, 16383, 32767, 32767, 131071, 262143, 32767, 32767, 32767, 3178495, 7372799, 16285695, 33062911, 67108863, 134217727] ?hh ?_); (case hh => kernel_rfl); conv => whnf) | ((with_reducible refine And.intro ?hh ?_); (case hh => exact condA); conv => whnf) | fail))
      all_goals first | (exfalso; omega) | exact ⟨j + 1, [], by omega, by omega, Back.auto⟩
    · cases bb
      · (conv => whnf); (repeat' (first | ((with_reducible refine ifb_mk (fun hc => ?_) (fun hc => ?_)) <;> ((try simp only [decide_eq_true_eq, decide_eq_false_iff_not, Bool.not_eq_true', Bool.not_eq_false', Int.not_lt, Int.not_le, ne_eq, Decidable.not_not, beq_iff_eq, List.cons.injEq, and_true] at hc); (first | (exfalso; omega) | exact absurd True.intro hc | conv => whnf))) | ((with_reducible refine And.intro True.intro ?_); conv => whnf) | ((with_reducible refine grd_and ?_); refine And.intro (hjk) ?_; conv => whnf) | ((with_reducible refine CallX.all ?_); refine CallW.of_ok (v1 _) ?_; conv => whnf) | ((with_reducible refine CallX.all ?_); refine CallW.of_ok (v2 _) ?_; conv => whnf) | ((with_reducible refine CallX.all ?_); refine CallW.of_ok (kWk _) ?_; conv => whnf) | ((with_reducible refine WpR.draw (id := 5) mixed [0, 1, 2, 3, 4, 5, 6, 7] [0, 1, 0, 4, 3, 19, 63, 127] ?hh ?_); (case hh => kernel_rfl); conv => whnf) | ((with_reducible refine WpR.draw (id := 10) mixed [0, 1, 2, 3, 4, 5, 6, 7, 8, 9] [0, 0, 2, 7, 0, 0, 32, 112, 15, 511] ?hh ?_); (case hh => kernel_rfl); conv => whnf) | ((with_reducible refine WpR.draw (id := 18) mixed [0, 1, 2, 3, 4, 5, 6, 7, 8, 9, 10, 11, 12, 13, 14, 15] [0, 1, 0, 4, 0, 0, 32, 112, 0, 496, 1020, 2044, 4092, 8191, 16383, 32767] ?hh ?_); (case hh => kernel_rfl); conv => whnf) | ((with_reducible refine WpR.draw (id := 26) mixed [0, 1, 2, 3, 4, 5, 6, 7, 8, 9, 10, 11, 12, 13, 14, 15, 16, 17, 18, 19, 20, 21, 22, 23, 24, 25, 26, 27] [0, 1, 0, 7, 15, 0, 32, 0, 0, 384, 896, 2016, 4064, 8191, 16383, 32767, 32767, 131071, 262143, 32767, 32767, 32767, 3178495, 7372799, 16285695, 33062911, 67108863, 134217727] ?hh ?_); (case hh => kernel_rfl); conv => whnf) | ((with_reducible refine And.intro ?hh ?_); (case hh => exact condA); conv => whnf) | fail))
        all_goals first | (refine ⟨[], ?_, rfl, rfl, trivial, trivs⟩; simp only [renV, renL]; (first | done | rfl | (simp; done) | (simp; omega) | grind)) | (exfalso; omega)
      · (conv => whnf); (repeat' (first | ((with_reducible refine ifb_mk (fun hc => ?_) (fun hc => ?_)) <;> ((try simp only [decide_eq_true_eq, decide_eq_false_iff_not, Bool.not_eq_true', Bool.not_eq_false', Int.not_lt, Int.not_le, ne_eq, Decidable.not_not, beq_iff_eq, List.cons.injEq, and_true] at hc); (first | (exfalso; omega) | exact absurd True.intro hc | conv => whnf))) | ((with_reducible refine And.intro True.intro ?_); conv => whnf) | ((with_reducible refine grd_and ?_); refine And.intro (hjk) ?_; conv => whnf) | ((with_reducible refine CallX.all ?_); refine CallW.of_ok (v1 _) ?_; conv => whnf) | ((with_reducible refine CallX.all ?_); refine CallW.of_ok (v2 _) ?_; conv => whnf) | ((with_reducible refine CallX.all ?_); refine CallW.of_ok (kWk _) ?_; conv => whnf) | ((with_reducible refine WpR.draw (id := 5) mixed [0, 1, 2, 3, 4, 5, 6, 7] [0, 1, 0, 4, 3, 19, 63, 127] ?hh ?_); (case hh => kernel_rfl); conv => whnf) | ((with_reducible refine WpR.draw (id := 10) mixed [0, 1, 2, 3, 4, 5, 6, 7, 8, 9] [0, 0, 2, 7, 0, 0, 32, 112, 15, 511] ?hh ?_); (case hh => kernel_rfl); conv => whnf) | ((with_reducible refine WpR.draw (id := 18) mixed [0, 1, 2, 3, 4, 5, 6, 7, 8, 9, 10, 11, 12, 13, 14, 15] [0, 1, 0, 4, 0, 0, 32, 112, 0, 496, 1020, 2044, 4092, 8191, 16383, 32767] ?hh ?_); (case hh => kernel_rfl); conv => whnf) | ((with_reducible refine WpR.draw (id := 26) mixed [0, 1, 2, 3, 4, 5, 6, 7, 8, 9, 10, 11, 12, 13, 14, 15, 16, 17, 18, 19, 20, 21, 22, 23, 24, 25, 26, 27] [0, 1, 0, 7, 15, 0, 32, 0, 0, 384, 896, 2016, 4064, 8191, 16383, 32767, 32767, 131071, 262143, 32767, 32767, 32767, 3178495, 7372799, 16285695, 33062911, 67108863, 134217727] ?hh ?_); (case hh => kernel_rfl); conv => whnf) | ((with_reducible refine And.intro ?hh ?_); (case hh => exact condA); conv => whnf) | fail))
        all_goals first | (refine ⟨[], ?_, rfl, rfl, trivial, trivs⟩; simp only [renV, renL]; (first | done | rfl | (simp; done) | (simp; omega) | grind)) | (exfalso; omega)
end Go.Proofs.H

namespace Go.Proofs.H
open Go.As
set_option maxRecDepth 20000
set_option linter.unusedVariables false
set_option linter.unusedSimpArgs false

/-! ### MendTurned -/

set_option maxHeartbeats 16000000 in
theorem turned_001 (h : As.H) (W H : Int) (k : Nat) (d : Nat → Int) (hk : k ≤ 9223372036854775807) :
    CallOk Try.prog 13 [plV W H false k d, .bool false, .bool true, .bool false] h (.bool true) h := by
  have kWk := fun h : As.H => wwhole.everywhere rfl h
  rcases fine_split W H k d hk with ⟨w, hh, rfl, rfl, p⟩ | kF
  rotate_left
  · refine CallOk.run0 Try.func13 rfl rfl rfl rfl rfl (WpR.of_vc ?_)
    (conv => whnf); (repeat' (first | ((with_reducible refine ifb_mk (fun hc => ?_) (fun hc => ?_)) <;> ((try simp only [decide_eq_true_eq, decide_eq_false_iff_not, Bool.not_eq_true', Bool.not_eq_false', Int.not_lt, Int.not_le, ne_eq, Decidable.not_not, beq_iff_eq, List.cons.injEq, and_true] at hc); (first | (exfalso; omega) | exact absurd True.intro hc | conv => whnf))) | ((with_reducible refine And.intro True.intro ?_); conv => whnf) | ((with_reducible refine CallX.all ?_); refine CallW.of_ok (kF _) ?_; conv => whnf) | ((with_reducible refine CallX.all ?_); refine CallW.of_ok (kWk _) ?_; conv => whnf) | ((with_reducible refine WpR.draw (id := 5) mixed [0, 1, 2, 3, 4, 5, 6, 7] [0, 1, 0, 4, 3, 19, 63, 127] ?hh ?_); (case hh => kernel_rfl); conv => whnf) | ((with_reducible refine WpR.draw (id := 10) mixed [0, 1, 2, 3, 4, 5, 6, 7, 8, 9] [0, 0, 2, 7, 0, 0, 32, 112, 15, 511] ?hh ?_); (case hh => kernel_rfl); conv => whnf) | ((with_reducible refine WpR.draw (id := 18) mixed [0, 1, 2, 3, 4, 5, 6, 7, 8, 9, 10, 11, 12, 13, 14, 15] [0, 1, 0, 4, 0, 0, 32, 112, 0, 496, 1020, 2044, 4092, 8191, 16383, 32767] ?hh ?_); (case hh => kernel_rfl); conv => whnf) | ((with_reducible refine WpR.draw (id := 26) mixed [0, 1, 2, 3, 4, 5, 6, 7, 8, 9, 10, 11, 12, 13, 14, 15, 16, 17, 18, 19, 20, 21, 22, 23, 24, 25, 26, 27] [0, 1, 0, 7, 15, 0, 32, 0, 0, 384, 896, 2016, 4064, 8191, 16383, 32767, 32767, 131071, 262143, 32767, 32767, 32767, 3178495, 7372799, 16285695, 33062911, 67108863, 134217727] ?hh ?_); (case hh => kernel_rfl); conv => whnf) | ((with_reducible refine And.intro ?hh ?_); (case hh => exact condA); conv => whnf) | fail))
    all_goals (refine ⟨[], ?_, rfl, rfl, trivial, trivs⟩; simp only [renV, renL]; (first | done | rfl | (simp; done) | (simp; omega) | grind))
  have hle := p.le
  have k0 := fun h' => fineV p h'
  have phw := p.hw
  have phh := p.hh
  have phn := p.hn
  have t := turn_ok p.hw p.hh p.hn false false true
  have hP := t.pl
  have hPe : ∀ i, trP w hh false false true i = (hh - 1 - i / w) * w + (i % w) := fun i => rfl
  have hPi := t.pi
  have hPi2 := t.ip
  have q : Pv (exW w hh false) (exW hh w false) k (fun j => d (trP w hh false false true j)) := ⟨p.hw, p.hh, p.hn, fun j hj => p.hd _ (t.pl j hj)⟩
  obtain ⟨hfu, hfx⟩ := turn_flat t p q
  have u1 := fun h' => flatV p h'
  have kq := fun (h' : As.H) n' hn c gg hb hc => flat_own q h' 3 n' hn c gg hb hc
  have v1 := fun h' => back_ok p.x p.flat false h'
  have v2 := fun h' => back_ok q.x q.flat false h'
  have hbk := turn_back t p.hw p.hh p.hn hfx
  have hbb : decide ((brn (exW w hh false) (exW hh w false) k (xF (exW w hh false) (exW hh w false) fun j => d (trP w hh false false true j))).length = k) = decide ((brn w hh k (xF w hh d)).length = k) := decide_eq_decide.2 hbk
  rw [hbb] at v2
  clear hbb hbk p q t
  generalize trP w hh false false true = P at *
  obtain ⟨bb, ebb⟩ : ∃ bb, decide ((brn w hh k (xF w hh d)).length = k) = bb := ⟨_, rfl⟩
  rw [ebb] at v1 v2
  clear ebb
  have hw1 : exW w hh false = w := rfl
  have hw2 : exW hh w false = hh := rfl
  rw [hw1, hw2] at kq v2 hfu hfx
  clear hw1 hw2
  generalize xF w hh (fun j => d (P j)) = x2 at *
  generalize uF w hh (fun j => d (P j)) = u2 at *
  generalize xF w hh d = x1 at *
  generalize uF w hh d = u1 at *
  have hF0 : lsL (fun j => (P j : Int)) 0 = [] := rfl
  have hFs : ∀ j, lsL (fun j => (P j : Int)) (j + 1) = (P j : Int) :: lsL (fun j => (P j : Int)) j := fun j => rfl
  have hFl := lsL_len (fun j => (P j : Int))
  have hFr := lsL_rev (fun j => (P j : Int))
  have hD0 : lsL (fun j => d (P j)) 0 = [] := rfl
  have hDs : ∀ j, lsL (fun j => d (P j)) (j + 1) = d (P j) :: lsL (fun j => d (P j)) j := fun j => rfl
  have hDl := lsL_len (fun j => d (P j))
  have hDr := lsL_rev (fun j => d (P j))
  generalize lsL (fun j => (P j : Int)) = FL at *
  generalize lsL (fun j => d (P j)) = DL at *
  have w0 : (w : Int) ≠ 0 := by omega
  refine CallOk.run0 Try.func13 rfl rfl rfl rfl rfl (WpR.of_vc ?_)
  (conv => whnf); (repeat' (first | ((with_reducible refine ifb_mk (fun hc => ?_) (fun hc => ?_)) <;> ((try simp only [decide_eq_true_eq, decide_eq_false_iff_not, Bool.not_eq_true', Bool.not_eq_false', Int.not_lt, Int.not_le, ne_eq, Decidable.not_not, beq_iff_eq, List.cons.injEq, and_true] at hc); (first | (exfalso; omega) | exact absurd True.intro hc | conv => whnf))) | ((with_reducible refine And.intro True.intro ?_); conv => whnf) | ((with_reducible refine CallX.all ?_); refine CallW.of_ok (k0 _) ?_; conv => whnf) | ((with_reducible refine WpR.draw (id := 5) mixed [0, 1, 2, 3, 4, 5, 6, 7] [0, 1, 0, 4, 3, 19, 63, 127] ?hh ?_); (case hh => kernel_rfl); conv => whnf) | ((with_reducible refine WpR.draw (id := 10) mixed [0, 1, 2, 3, 4, 5, 6, 7, 8, 9] [0, 0, 2, 7, 0, 0, 32, 112, 15, 511] ?hh ?_); (case hh => kernel_rfl); conv => whnf) | ((with_reducible refine WpR.draw (id := 18) mixed [0, 1, 2, 3, 4, 5, 6, 7, 8, 9, 10, 11, 12, 13, 14, 15] [0, 1, 0, 4, 0, 0, 32, 112, 0, 496, 1020, 2044, 4092, 8191, 16383, 32767] ?hh ?_); (case hh => kernel_rfl); conv => whnf) | ((with_reducible refine WpR.draw (id := 26) mixed [0, 1, 2, 3, 4, 5, 6, 7, 8, 9, 10, 11, 12, 13, 14, 15, 16, 17, 18, 19, 20, 21, 22, 23, 24, 25, 26, 27] [0, 1, 0, 7, 15, 0, 32, 0, 0, 384, 896, 2016, 4064, 8191, 16383, 32767, 32767, 131071, 262143, 32767, 32767, 32767, 3178495, 7372799, 16285695, 33062911, 67108863, 134217727] ?hh ?_); (case hh => kernel_rfl); conv => whnf) | ((with_reducible refine And.intro ?hh ?_); (case hh => exact condA); conv => whnf) | fail))
  have hMap : ∀ i, ltB 4 (.cells (ofL [.int .i64 w, .int .i64 hh, grV 3 i] 0) true none) := fun i => ltB_ofL (by intro v hv; (repeat (rcases List.mem_cons.1 hv with rfl | hv; (first | rfl | exact grV_lt rfl i))); cases hv)
  have hMapB : ∀ i, ltB 1000 (.cells (ofL [.int .i64 w, .int .i64 hh, grV 3 i] 0) true none) := fun i => ltB_ofL (by intro v hv; (repeat (rcases List.mem_cons.1 hv with rfl | hv; (first | rfl | exact grV_lt rfl i))); cases hv)
  have hMapA : ∀ l : List Int, ltB 4 (grB 1 (gR eI l) l.length) := fun l => grB_lt (gR_bare eI_bare) _
  have hMap2 : ∀ l : List Int, ltB 1000 (grB 1 (gR eI l) l.length) := fun l => grB_lt (gR_bare eI_bare) _
  refine WpR.loopA (ι := Nat × (List Int × List Int)) [2, 3] [1, 2, 3, 4, 9] [1, 2, 3] [] 4 (fun p => [(10, grV 2 p.2.1.length), (11, .int .i64 p.1)]) (fun p => [(1, .cells (ofL [.int .i64 w, .int .i64 hh, grV 3 p.2.2.length] 0) true none), (2, grB 1 (gR eI p.2.1) p.2.1.length), (3, grB 1 (gR eI p.2.2) p.2.2.length)]) (fun p => k - p.1) (fun p => p.1 ≤ k ∧ p.2.1 = FL p.1 ∧ p.2.2 = DL p.1) ?_ ((0, ([], []))) (⟨Nat.zero_le _, hF0.symm, hD0.symm⟩) [] Back.auto (htv := fun p _ => ⟨grV_lt rfl _, rfl, trivial⟩)
  rintro ⟨i, q1, q2⟩ ⟨j1, j2, j3⟩
  dsimp only at j1 j2 j3
  refine WpR.of_vc ?_
  have hql1 := hFl i
  have hql2 := hDl i
  rw [← j2] at hql1
  rw [← j3] at hql2
  by_cases hi : i < k
  · have e1 := hFs i
    have e2 := hDs i
    rw [← j2] at e1
    rw [← j3] at e2
    have hPk := hP i hi
    obtain ⟨b, hbQ, hb⟩ : ∃ b, b < hh ∧ i / w = b := ⟨_, Nat.div_lt_of_lt_mul (by rw [phn] at hi; exact hi), rfl⟩
    obtain ⟨a, haQ, ha⟩ : ∃ a, a < w ∧ i % w = a := ⟨_, Nat.mod_lt _ (by omega), rfl⟩
    have hpe := hPe i
    rw [ha, hb] at hpe
    have ea : (i : Int).tmod w = (a : Int) := by rw [Int.tmod_eq_emod_of_nonneg (by omega), ← ha]; omega
    have eb : (i : Int).tdiv w = (b : Int) := by rw [Int.tdiv_eq_ediv_of_nonneg (by omega), ← hb]; omega
    clear ha hb
    have y1 : InR ((i : Int).tmod w) := by rw [ea]; unfold InR; omega
    have y2 : InR ((i : Int).tdiv w) := by rw [eb]; unfold InR; omega
    have eY : ((hh : Int) - 1 - (i : Int).tdiv w) = (((hh - 1 - b) : Nat) : Int) := by rw [eb] <;> omega
    have eX : ((i : Int).tmod w) = (((a) : Nat) : Int) := by rw [ea] <;> omega
    have eYW : ((hh : Int) - 1 - (i : Int).tdiv w) * w = (((hh - 1 - b) * w : Nat) : Int) := by rw [eY, Int.natCast_mul]
    have y3 : InR (((hh : Int) - 1 - (i : Int).tdiv w) * w) := by rw [eYW]; unfold InR; omega
    have hE : ((hh : Int) - 1 - (i : Int).tdiv w) * w + ((i : Int).tmod w) = ((P i : Nat) : Int) := by rw [eYW, eX, hpe]; omega
    have y4 : InR (((hh : Int) - 1 - (i : Int).tdiv w) * w + ((i : Int).tmod w)) := by rw [hE]; unfold InR; omega
    rw [← hE] at e1
    (conv => whnf); (repeat' (first | ((with_reducible refine ifb_mk (fun hc => ?_) (fun hc => ?_)) <;> ((try simp only [decide_eq_true_eq, decide_eq_false_iff_not, Bool.not_eq_true', Bool.not_eq_false', Int.not_lt, Int.not_le, ne_eq, Decidable.not_not, beq_iff_eq, List.cons.injEq, and_true] at hc); (first | (exfalso; omega) | exact absurd True.intro hc | conv => whnf))) | ((with_reducible refine And.intro True.intro ?_); conv => whnf) | ((with_reducible refine grd_and ?_); refine And.intro (hi) ?_; conv => whnf) | ((with_reducible refine grd_and ?_); refine And.intro (w0) ?_; conv => whnf) | ((with_reducible refine grd_and ?_); refine And.intro (y1) ?_; conv => whnf) | ((with_reducible refine grd_and ?_); refine And.intro (y2) ?_; conv => whnf) | ((with_reducible refine grd_and ?_); refine And.intro (y3) ?_; conv => whnf) | ((with_reducible refine grd_and ?_); refine And.intro (y4) ?_; conv => whnf) | ((with_reducible refine grd_and ?_); refine And.intro (hPk) ?_; conv => whnf) | ((with_reducible refine WpR.draw (id := 5) mixed [0, 1, 2, 3, 4, 5, 6, 7] [0, 1, 0, 4, 3, 19, 63, 127] ?hh ?_); (case hh => kernel_rfl); conv => whnf) | ((with_reducible refine WpR.draw (id := 10) mixed [0, 1, 2, 3, 4, 5, 6, 7, 8, 9] [0, 0, 2, 7, 0, 0, 32, 112, 15, 511] ?hh ?_); (case hh => kernel_rfl); conv => whnf) | ((with_reducible refine WpR.draw (id := 18) mixed [0, 1, 2, 3, 4, 5, 6, 7, 8, 9, 10, 11, 12, 13, 14, 15] [0, 1, 0, 4, 0, 0, 32, 112, 0, 496, 1020, 2044, 4092, 8191, 16383, 32767] ?hh ?_); (case hh => kernel_rfl); conv => whnf) | ((with_reducible refine WpR.draw (id := 26) mixed [0, 1, 2, 3, 4, 5, 6, 7, 8, 9, 10, 11, 12, 13, 14, 15, 16, 17, 18, 19, 20, 21, 22, 23, 24, 25, 26, 27] [0, 1, 0, 7, 15, 0, 32, 0, 0, 384, 896, 2016, 4064, 8191, 16383, 32767, 32767, 131071, 262143, 32767, 32767, 32767, 3178495, 7372799, 16285695, 33062911, 67108863, 134217727] ?hh ?_); (case hh => kernel_rfl); conv => whnf) | (((with_reducible refine idxP_mk (k := P i) ?hh ?_); (case hh => exact hE)); conv => whnf) | (refine AppX.gr (n := 1) (L := gR eI q1) (len := q1.length) rfl rfl (gI_len q1) (gI_one q1) Nat.zero_lt_one (by omega) ?_; conv => whnf) | (refine AppX.gr (n := 1) (L := gR eI q2) (len := q2.length) rfl rfl (gI_len q2) (gI_one q2) Nat.zero_lt_one (by omega) ?_; conv => whnf) | ((with_reducible refine And.intro ?hh ?_); (case hh => exact condA); conv => whnf) | fail))
    all_goals first | (exfalso; omega) | exact ⟨(i + 1, (_ :: q1, d (P i) :: q2)), [(2, 5), (3, 7)], by dsimp only; omega, ⟨by dsimp only; omega, e1.symm, e2.symm⟩, Back.auto⟩
  · have ei : i = k := by omega
    subst ei
    cases q1 with
    | nil => exfalso; simp at hql1; omega
    | cons y1 q1 =>
    cases q2 with
    | nil => exfalso; simp at hql2; omega
    | cons y2 q2 =>
    rw [List.length_cons] at hql1 hql2
    have kq2 := fun (h' : As.H) hb => kq h' (q2.length + 1) hql2 (ofL (gR eI (y2 :: q2)) 0) (some (1, (q2.length + 1) * 1)) hb (fun j hj => by rw [j3, hDr]; exact arrV_get rfl hj)
    have hgx : ∀ j o, j < i → o = j → (ofL (gR eI (y1 :: q1)) 0).get o = some (.int .i64 (P j)) := fun j o hj ho => by rw [j2, hFr]; exact arrV_get ho hj
    clear kq j2 j3 hFr hDr hFs hDs
    (conv => whnf); (repeat' (first | ((with_reducible refine ifb_mk (fun hc => ?_) (fun hc => ?_)) <;> ((try simp only [decide_eq_true_eq, decide_eq_false_iff_not, Bool.not_eq_true', Bool.not_eq_false', Int.not_lt, Int.not_le, ne_eq, Decidable.not_not, beq_iff_eq, List.cons.injEq, and_true] at hc); (first | (exfalso; omega) | exact absurd True.intro hc | conv => whnf))) | ((with_reducible refine And.intro True.intro ?_); conv => whnf) | ((with_reducible refine grd_and ?_); refine And.intro (hi) ?_; conv => whnf) | ((with_reducible refine CallX.all ?_); refine CallW.of_ok (u1 _) ?_; conv => whnf) | ((with_reducible refine CallX.all ?_); refine CallW.of_ok (kq2 _ rfl) ?_; conv => whnf) | ((with_reducible refine WpR.draw (id := 5) mixed [0, 1, 2, 3, 4, 5, 6, 7] [0, 1, 0, 4, 3, 19, 63, 127] ?hh ?_); (case hh => kernel_rfl); conv => whnf) | ((with_reducible refine WpR.draw (id := 10) mixed [0, 1, 2, 3, 4, 5, 6, 7, 8, 9] [0, 0, 2, 7, 0, 0, 32, 112, 15, 511] ?hh ?_); (case hh => kernel_rfl); conv => whnf) | ((with_reducible refine WpR.draw (id := 18) mixed [0, 1, 2, 3, 4, 5, 6, 7, 8, 9, 10, 11, 12, 13, 14, 15] [0, 1, 0, 4, 0, 0, 32, 112, 0, 496, 1020, 2044, 4092, 8191, 16383, 32767] ?hh ?_); (case hh => kernel_rfl); conv => whnf) | ((with_reducible refine WpR.draw (id := 26) mixed [0, 1, 2, 3, 4, 5, 6, 7, 8, 9, 10, 11, 12, 13, 14, 15, 16, 17, 18, 19, 20, 21, 22, 23, 24, 25, 26, 27] [0, 1, 0, 7, 15, 0, 32, 0, 0, 384, 896, 2016, 4064, 8191, 16383, 32767, 32767, 131071, 262143, 32767, 32767, 32767, 3178495, 7372799, 16285695, 33062911, 67108863, 134217727] ?hh ?_); (case hh => kernel_rfl); conv => whnf) | ((with_reducible refine And.intro ?hh ?_); (case hh => exact condA); conv => whnf) | fail))
    refine WpR.loopA (ι := Nat) [] [10, 14, 15, 17, 18] [] [] 8 (fun j => [(20, .int .i64 j)]) (fun _ => []) (fun j => i - j) (fun j => j ≤ i) ?_ (0) (Nat.zero_le _) [] Back.auto
    intro j hj
    refine WpR.of_vc ?_
    by_cases hjk : j < i
    · have hgj := hgx j
      have hPj := hP j hjk
      have hxj := hfx j hjk
      have huj := hfu j hjk
      (conv => whnf); (repeat' (first | ((with_reducible refine ifb_mk (fun hc => ?_) (fun hc => ?_)) <;> ((try simp only [decide_eq_true_eq, decide_eq_false_iff_not, Bool.not_eq_true', Bool.not_eq_false', Int.not_lt, Int.not_le, ne_eq, Decidable.not_not, beq_iff_eq, List.cons.injEq, and_true] at hc); (first | (exfalso; omega) | exact absurd True.intro hc | conv => whnf))) | ((with_reducible refine And.intro True.intro ?_); conv => whnf) | ((with_reducible refine grd_and ?_); refine And.intro (hjk) ?_; conv => whnf) | ((with_reducible refine grd_and ?_); refine And.intro (hPj) ?_; conv => whnf) | (refine som_mk (hgj _ hjk (by show 0 + Int.toNat (j : Int) * 1 = j; omega)) ?_; conv => whnf) | ((with_reducible refine WpR.draw (id := 5) mixed [0, 1, 2, 3, 4, 5, 6, 7] [0, 1, 0, 4, 3, 19, 63, 127] ?hh ?_); (case hh => kernel_rfl); conv => whnf) | ((with_reducible refine WpR.draw (id := 10) mixed [0, 1, 2, 3, 4, 5, 6, 7, 8, 9] [0, 0, 2, 7, 0, 0, 32, 112, 15, 511] ?hh ?_); (case hh => kernel_rfl); conv => whnf) | ((with_reducible refine WpR.draw (id := 18) mixed [0, 1, 2, 3, 4, 5, 6, 7, 8, 9, 10, 11, 12, 13, 14, 15] [0, 1, 0, 4, 0, 0, 32, 112, 0, 496, 1020, 2044, 4092, 8191, 16383, 32767] ?hh ?_); (case hh => kernel_rfl); conv => whnf) | ((with_reducible refine WpR.draw (id := 26) mixed [0, 1, 2, 3, 4, 5, 6, 7, 8, 9, 10, 11, 12, 13, 14, 15, 16, 17, 18, 19, 20, 21, 22, 23, 24, 25, 26, 27] [0, 1, 0, 7, 15, 0, 32, 0, 0, 384, 896, 2016, 4064, 8191, 16383, 32767, 32767, 131071, 262143, 32767, 32767, 32767, 3178495, 7372799, 16285695, 33062911, 67108863, 134217727] ?hh ?_); (case hh => kernel_rfl); conv => whnf) | ((with_reducible refine And.intro ?hh ?_); (case hh => exact condA); conv => whnf) | fail))
      all_goals first | (exfalso; omega) | exact ⟨j + 1, [], by omega, by omega, Back.auto⟩
    · cases bb
      · (conv => whnf); (repeat' (first | ((with_reducible refine ifb_mk (fun hc => ?_) (fun hc => ?_)) <;> ((try simp only [decide_eq_true_eq, decide_eq_false_iff_not, Bool.not_eq_true', Bool.not_eq_false', Int.not_lt, Int.not_le, ne_eq, Decidable.not_not, beq_iff_eq, List.cons.injEq, and_true] at hc); (first | (exfalso; omega) | exact absurd True.intro hc | conv => whnf))) | ((with_reducible refine And.intro True.intro ?_); conv => whnf) | ((with_reducible refine grd_and ?_); refine And.intro (hjk) ?_; conv => whnf) | ((with_reducible refine CallX.all ?_); refine CallW.of_ok (v1 _) ?_; conv => whnf) | ((with_reducible refine CallX.all ?_); refine CallW.of_ok (v2 _) ?_; conv => whnf) | ((with_reducible refine CallX.all ?_); refine CallW.of_ok (kWk _) ?_; conv => whnf) | ((with_reducible refine WpR.draw (id := 5) mixed [0, 1, 2, 3, 4, 5, 6, 7] [0, 1, 0, 4, 3, 19, 63, 127] ?hh ?_); (case hh => kernel_rfl); conv => whnf) | ((with_reducible refine WpR.draw (id := 10) mixed [0, 1, 2, 3, 4, 5, 6, 7, 8, 9] [0, 0, 2, 7, 0, 0, 32, 112, 15, 511] ?hh ?_); (case hh => kernel_rfl); conv => whnf) | ((with_reducible refine WpR.draw (id := 18) mixed [0, 1, 2, 3, 4, 5, 6, 7, 8, 9, 10, 11, 12, 13, 14, 15] [0, 1, 0, 4, 0, 0, 32, 112, 0, 496, 1020, 2044, 4092, 8191, 16383, 32767] ?hh ?_); (case hh => kernel_rfl); conv => whnf) | ((with_reducible refine WpR.draw (id := 26) mixed [0, 1, 2, 3, 4, 5, 6, 7, 8, 9, 10, 11, 12, 13, 14, 15, 16, 17, 18, 19, 20, 21, 22, 23, 24, 25, 26, 27] [0, 1, 0, 7, 15, 0, 32, 0, 0, 384, 896, 2016, 4064, 8191, 16383, 32767, 32767, 131071, 262143, 32767, 32767, 32767, 3178495, 7372799, 16285695, 33062911, 67108863, 134217727] ?hh ?_); (case hh => kernel_rfl); conv => whnf) | ((with_reducible refine And.intro ?hh ?_); (case hh => exact condA); conv => whnf) | fail))
        all_goals first | (refine ⟨[], ?_, rfl, rfl, trivial, trivs⟩; simp only [renV, renL]; (first | done | rfl | (simp; done) | (simp; omega) | grind)) | (exfalso; omega)
      · (conv => whnf); (repeat' (first | ((with_reducible refine ifb_mk (fun hc => ?_) (fun hc => ?_)) <;> ((try simp only [decide_eq_true_eq, decide_eq_false_iff_not, Bool.not_eq_true', Bool.not_eq_false', Int.not_lt, Int.not_le, ne_eq, Decidable.not_not, beq_iff_eq, List.cons.injEq, and_true] at hc); (first | (exfalso; omega) | exact absurd True.intro hc | conv => whnf))) | ((with_reducible refine And.intro True.intro ?_); conv => whnf) | ((with_reducible refine grd_and ?_); refine And.intro (hjk) ?_; conv => whnf) | ((with_reducible refine CallX.all ?_); refine CallW.of_ok (v1 _) ?_; conv => whnf) | ((with_reducible refine CallX.all ?_); refine CallW.of_ok (v2 _) ?_; conv => whnf) | ((with_reducible refine CallX.all ?_); refine CallW.of_ok (kWk _) ?_; conv => whnf) | ((with_reducible refine WpR.draw (id := 5) mixed [0, 1, 2, 3, 4, 5, 6, 7] [0, 1, 0, 4, 3, 19, 63, 127] ?hh ?_); (case hh => kernel_rfl); conv => whnf) | ((with_reducible refine WpR.draw (id := 10) mixed [0, 1, 2, 3, 4, 5, 6, 7, 8, 9] [0, 0, 2, 7, 0, 0, 32, 112, 15, 511] ?hh ?_); (case hh => kernel_rfl); conv => whnf) | ((with_reducible refine WpR.draw (id := 18) mixed [0, 1, 2, 3, 4, 5, 6, 7, 8, 9, 10, 11, 12, 13, 14, 15] [0, 1, 0, 4, 0, 0, 32, 112, 0, 496, 1020, 2044, 4092, 8191, 16383, 32767] ?hh ?_); (case hh => kernel_rfl); conv => whnf) | ((with_reducible refine WpR.draw (id := 26) mixed [0, 1, 2, 3, 4, 5, 6, 7, 8, 9, 10, 11, 12, 13, 14, 15, 16, 17, 18, 19, 20, 21, 22, 23, 24, 25, 26, 27] [0, 1, 0, 7, 15, 0, 32, 0, 0, 384, 896, 2016, 4064, 8191, 16383, 32767, 32767, 131071, 262143, 32767, 32767, 32767, 3178495, 7372799, 16285695, 33062911, 67108863, 134217727] ?hh ?_); (case hh => kernel_rfl); conv => whnf) | ((with_reducible refine And.intro ?hh ?_); (case hh => exact condA); conv => whnf) | fail))
        all_goals first | (refine ⟨[], ?_, rfl, rfl, trivial, trivs⟩; simp only [renV, renL]; (first | done | rfl | (simp; done) | (simp; omega) | grind)) | (exfalso; omega)
end Go.Proofs.H

namespace Go.Proofs.H
open Go.As
set_option maxRecDepth 20000
set_option linter.unusedVariables false
set_option linter.unusedSimpArgs false

/-! ### MendTurned -/

set_option maxHeartbeats 16000000 in
theorem turned_010 (h : As.H) (W H : Int) (k : Nat) (d : Nat → Int) (hk : k ≤ 9223372036854775807) :
    CallOk Try.prog 13 [plV W H false k d, .bool true, .bool false, .bool false] h (.bool true) h := by
  have kWk := fun h : As.H => wwhole.everywhere rfl h
  rcases fine_split W H k d hk with ⟨w, hh, rfl, rfl, p⟩ | kF
  rotate_left
  · refine CallOk.run0 Try.func13 rfl rfl rfl rfl rfl (WpR.of_vc ?_)
    (conv => whnf); (repeat' (first | ((with_reducible refine ifb_mk (fun hc => ?_) (fun hc => ?_)) <;> ((try simp only [decide_eq_true_eq, decide_eq_false_iff_not, Bool.not_eq_true', Bool.not_eq_false', Int.not_lt, Int.not_le, ne_eq, Decidable.not_not, beq_iff_eq, List.cons.injEq, and_true] at hc); (first | (exfalso; omega) | exact absurd True.intro hc | conv => whnf))) | ((with_reducible refine And.intro True.intro ?_); conv => whnf) | ((with_reducible refine CallX.all ?_); refine CallW.of_ok (kF _) ?_; conv => whnf) | ((with_reducible refine CallX.all ?_); refine CallW.of_ok (kWk _) ?_; conv => whnf) | ((with_reducible refine WpR.draw (id := 5) mixed [0, 1, 2, 3, 4, 5, 6, 7] [0, 1, 0, 4, 3, 19, 63, 127] ?hh ?_); (case hh => kernel_rfl); conv => whnf) | ((with_reducible refine WpR.draw (id := 10) mixed [0, 1, 2, 3, 4, 5, 6, 7, 8, 9] [0, 0, 2, 7, 0, 0, 32, 112, 15, 511] ?hh ?_); (case hh => kernel_rfl); conv => whnf) | ((with_reducible refine WpR.draw (id := 18) mixed [0, 1, 2, 3, 4, 5, 6, 7, 8, 9, 10, 11, 12, 13, 14, 15] [0, 1, 0, 4, 0, 0, 32, 112, 0, 496, 1020, 2044, 4092, 8191, 16383, 32767] ?hh ?_); (case hh => kernel_rfl); conv => whnf) | ((with_reducible refine WpR.draw (id := 26) mixed [0, 1, 2, 3, 4, 5, 6, 7, 8, 9, 10, 11, 12, 13, 14, 15, 16, 17, 18, 19, 20, 21, 22, 23, 24, 25, 26, 27] [0, 1, 0, 7, 15, 0, 32, 0, 0, 384, 896, 2016, 4064, 8191, 16383, 32767, 32767, 131071, 262143, 32767, 32767, 32767, 3178495, 7372799, 16285695, 33062911, 67108863, 134217727] ?hh ?_); (case hh => kernel_rfl); conv => whnf) | ((with_reducible refine And.intro ?hh ?_); (case hh => exact condA); conv => whnf) | fail))
    all_goals (refine ⟨[], ?_, rfl, rfl, trivial, trivs⟩; simp only [renV, renL]; (first | done | rfl | (simp; done) | (simp; omega) | grind))
  have hle := p.le
  have k0 := fun h' => fineV p h'
  have phw := p.hw
  have phh := p.hh
  have phn := p.hn
  have t := turn_ok p.hw p.hh p.hn false true false
  have hP := t.pl
  have hPe : ∀ i, trP w hh false true false i = (i / w) * w + (w - 1 - i % w) := fun i => rfl
  have hPi := t.pi
  have hPi2 := t.ip
  have q : Pv (exW w hh false) (exW hh w false) k (fun j => d (trP w hh false true false j)) := ⟨p.hw, p.hh, p.hn, fun j hj => p.hd _ (t.pl j hj)⟩
  obtain ⟨hfu, hfx⟩ := turn_flat t p q
  have u1 := fun h' => flatV p h'
  have kq := fun (h' : As.H) n' hn c gg hb hc => flat_own q h' 3 n' hn c gg hb hc
  have v1 := fun h' => back_ok p.x p.flat false h'
  have v2 := fun h' => back_ok q.x q.flat false h'
  have hbk := turn_back t p.hw p.hh p.hn hfx
  have hbb : decide ((brn (exW w hh false) (exW hh w false) k (xF (exW w hh false) (exW hh w false) fun j => d (trP w hh false true false j))).length = k) = decide ((brn w hh k (xF w hh d)).length = k) := decide_eq_decide.2 hbk
  rw [hbb] at v2
  clear hbb hbk p q t
  generalize trP w hh false true false = P at *
  obtain ⟨bb, ebb⟩ : ∃ bb, decide ((brn w hh k (xF w hh d)).length = k) = bb := ⟨_, rfl⟩
  rw [ebb] at v1 v2
  clear ebb
  have hw1 : exW w hh false = w := rfl
  have hw2 : exW hh w false = hh := rfl
  rw [hw1, hw2] at kq v2 hfu hfx
  clear hw1 hw2
  generalize xF w hh (fun j => d (P j)) = x2 at *
  generalize uF w hh (fun j => d (P j)) = u2 at *
  generalize xF w hh d = x1 at *
  generalize uF w hh d = u1 at *
  have hF0 : lsL (fun j => (P j : Int)) 0 = [] := rfl
  have hFs : ∀ j, lsL (fun j => (P j : Int)) (j + 1) = (P j : Int) :: lsL (fun j => (P j : Int)) j := fun j => rfl
  have hFl := lsL_len (fun j => (P j : Int))
  have hFr := lsL_rev (fun j => (P j : Int))
  have hD0 : lsL (fun j => d (P j)) 0 = [] := rfl
  have hDs : ∀ j, lsL (fun j => d (P j)) (j + 1) = d (P j) :: lsL (fun j => d (P j)) j := fun j => rfl
  have hDl := lsL_len (fun j => d (P j))
  have hDr := lsL_rev (fun j => d (P j))
  generalize lsL (fun j => (P j : Int)) = FL at *
  generalize lsL (fun j => d (P j)) = DL at *
  have w0 : (w : Int) ≠ 0 := by omega
  refine CallOk.run0 Try.func13 rfl rfl rfl rfl rfl (WpR.of_vc ?_)
  (conv => whnf); (repeat' (first | ((with_reducible refine ifb_mk (fun hc => ?_) (fun hc => ?_)) <;> ((try simp only [decide_eq_true_eq, decide_eq_false_iff_not, Bool.not_eq_true', Bool.not_eq_false', Int.not_lt, Int.not_le, ne_eq, Decidable.not_not, beq_iff_eq, List.cons.injEq, and_true] at hc); (first | (exfalso; omega) | exact absurd True.intro hc | conv => whnf))) | ((with_reducible refine And.intro True.intro ?_); conv => whnf) | ((with_reducible refine CallX.all ?_); refine CallW.of_ok (k0 _) ?_; conv => whnf) | ((with_reducible refine WpR.draw (id := 5) mixed [0, 1, 2, 3, 4, 5, 6, 7] [0, 1, 0, 4, 3, 19, 63, 127] ?hh ?_); (case hh => kernel_rfl); conv => whnf) | ((with_reducible refine WpR.draw (id := 10) mixed [0, 1, 2, 3, 4, 5, 6, 7, 8, 9] [0, 0, 2, 7, 0, 0, 32, 112, 15, 511] ?hh ?_); (case hh => kernel_rfl); conv => whnf) | ((with_reducible refine WpR.draw (id := 18) mixed [0, 1, 2, 3, 4, 5, 6, 7, 8, 9, 10, 11, 12, 13, 14, 15] [0, 1, 0, 4, 0, 0, 32, 112, 0, 496, 1020, 2044, 4092, 8191, 16383, 32767] ?hh ?_); (case hh => kernel_rfl); conv => whnf) | ((with_reducible refine WpR.draw (id := 26) mixed [0, 1, 2, 3, 4, 5, 6, 7, 8, 9, 10, 11, 12, 13, 14, 15, 16, 17, 18, 19, 20, 21, 22, 23, 24, 25, 26, 27] [0, 1, 0, 7, 15, 0, 32, 0, 0, 384, 896, 2016, 4064, 8191, 16383, 32767, 32767, 131071, 262143, 32767, 32767, 32767, 3178495, 7372799, 16285695, 33062911, 67108863, 134217727] ?hh ?_); (case hh => kernel_rfl); conv => whnf) | ((with_reducible refine And.intro ?hh ?_); (case hh => exact condA); conv => whnf) | fail))
  have hMap : ∀ i, ltB 4 (.cells (ofL [.int .i64 w, .int .i64 hh, grV 3 i] 0) true none) := fun i => ltB_ofL (by intro v hv; (repeat (rcases List.mem_cons.1 hv with rfl | hv; (first | rfl | exact grV_lt rfl i))); cases hv)
  have hMapB : ∀ i, ltB 1000 (.cells (ofL [.int .i64 w, .int .i64 hh, grV 3 i] 0) true none) := fun i => ltB_ofL (by intro v hv; (repeat (rcases List.mem_cons.1 hv with rfl | hv; (first | rfl | exact grV_lt rfl i))); cases hv)
  have hMapA : ∀ l : List Int, ltB 4 (grB 1 (gR eI l) l.length) := fun l => grB_lt (gR_bare eI_bare) _
  have hMap2 : ∀ l : List Int, ltB 1000 (grB 1 (gR eI l) l.length) := fun l => grB_lt (gR_bare eI_bare) _
  refine WpR.loopA (ι := Nat × (List Int × List Int)) [2, 3] [1, 2, 3, 4, 9] [1, 2, 3] [] 4 (fun p => [(10, grV 2 p.2.1.length), (11, .int .i64 p.1)]) (fun p => [(1, .cells (ofL [.int .i64 w, .int .i64 hh, grV 3 p.2.2.length] 0) true none), (2, grB 1 (gR eI p.2.1) p.2.1.length), (3, grB 1 (gR eI p.2.2) p.2.2.length)]) (fun p => k - p.1) (fun p => p.1 ≤ k ∧ p.2.1 = FL p.1 ∧ p.2.2 = DL p.1) ?_ ((0, ([], []))) (⟨Nat.zero_le _, hF0.symm, hD0.symm⟩) [] Back.auto (htv := fun p _ => ⟨grV_lt rfl _, rfl, trivial⟩)
  rintro ⟨i, q1, q2⟩ ⟨j1, j2, j3⟩
  dsimp only at j1 j2 j3
  refine WpR.of_vc ?_
  have hql1 := hFl i
  have hql2 := hDl i
  rw [← j2] at hql1
  rw [← j3] at hql2
  by_cases hi : i < k
  · have e1 := hFs i
    have e2 := hDs i
    rw [← j2] at e1
    rw [← j3] at e2
    have hPk := hP i hi
    obtain ⟨b, hbQ, hb⟩ : ∃ b, b < hh ∧ i / w = b := ⟨_, Nat.div_lt_of_lt_mul (by rw [phn] at hi; exact hi), rfl⟩
    obtain ⟨a, haQ, ha⟩ : ∃ a, a < w ∧ i % w = a := ⟨_, Nat.mod_lt _ (by omega), rfl⟩
    have hpe := hPe i
    rw [ha, hb] at hpe
    have ea : (i : Int).tmod w = (a : Int) := by rw [Int.tmod_eq_emod_of_nonneg (by omega), ← ha]; omega
    have eb : (i : Int).tdiv w = (b : Int) := by rw [Int.tdiv_eq_ediv_of_nonneg (by omega), ← hb]; omega
    clear ha hb
    have y1 : InR ((i : Int).tmod w) := by rw [ea]; unfold InR; omega
    have y2 : InR ((i : Int).tdiv w) := by rw [eb]; unfold InR; omega
    have eY : ((i : Int).tdiv w) = (((b) : Nat) : Int) := by rw [eb] <;> omega
    have eX : ((w : Int) - 1 - (i : Int).tmod w) = (((w - 1 - a) : Nat) : Int) := by rw [ea] <;> omega
    have eYW : ((i : Int).tdiv w) * w = (((b) * w : Nat) : Int) := by rw [eY, Int.natCast_mul]
    have y3 : InR (((i : Int).tdiv w) * w) := by rw [eYW]; unfold InR; omega
    have hE : ((i : Int).tdiv w) * w + ((w : Int) - 1 - (i : Int).tmod w) = ((P i : Nat) : Int) := by rw [eYW, eX, hpe]; omega
    have y4 : InR (((i : Int).tdiv w) * w + ((w : Int) - 1 - (i : Int).tmod w)) := by rw [hE]; unfold InR; omega
    rw [← hE] at e1
    (conv => whnf); (repeat' (first | ((with_reducible refine ifb_mk (fun hc => ?_) (fun hc => ?_)) <;> ((try simp only [decide_eq_true_eq, decide_eq_false_iff_not, Bool.not_eq_true', Bool.not_eq_false', Int.not_lt, Int.not_le, ne_eq, Decidable.not_not, beq_iff_eq, List.cons.injEq, and_true] at hc); (first | (exfalso; omega) | exact absurd True.intro hc | conv => whnf))) | ((with_reducible refine And.intro True.intro ?_); conv => whnf) | ((with_reducible refine grd_and ?_); refine And.intro (hi) ?_; conv => whnf) | ((with_reducible refine grd_and ?_); refine And.intro (w0) ?_; conv => whnf) | ((with_reducible refine grd_and ?_); refine And.intro (y1) ?_; conv => whnf) | ((with_reducible refine grd_and ?_); refine And.intro (y2) ?_; conv => whnf) | ((with_reducible refine grd_and ?_); refine And.intro (y3) ?_; conv => whnf) | ((with_reducible refine grd_and ?_); refine And.intro (y4) ?_; conv => whnf) | ((with_reducible refine grd_and ?_); refine And.intro (hPk) ?_; conv => whnf) | ((with_reducible refine WpR.draw (id := 5) mixed [0, 1, 2, 3, 4, 5, 6, 7] [0, 1, 0, 4, 3, 19, 63, 127] ?hh ?_); (case hh => kernel_rfl); conv => whnf) | ((with_reducible refine WpR.draw (id := 10) mixed [0, 1, 2, 3, 4, 5, 6, 7, 8, 9] [0, 0, 2, 7, 0, 0, 32, 112, 15, 511] ?hh ?_); (case hh => kernel_rfl); conv => whnf) | ((with_reducible refine WpR.draw (id := 18) mixed [0, 1, 2, 3, 4, 5, 6, 7, 8, 9, 10, 11, 12, 13, 14, 15] [0, 1, 0, 4, 0, 0, 32, 112, 0, 496, 1020, 2044, 4092, 8191, 16383, 32767] ?hh ?_); (case hh => kernel_rfl); conv => whnf) | ((with_reducible refine WpR.draw (id := 26) mixed [0, 1, 2, 3, 4, 5, 6, 7, 8, 9, 10, 11, 12, 13, 14, 15, 16, 17, 18, 19, 20, 21, 22, 23, 24, 25, 26, 27] [0, 1, 0, 7, 15, 0, 32, 0, 0, 384, 896, 2016, 4064, 8191, 16383, 32767, 32767, 131071, 262143, 32767, 32767, 32767, 3178495, 7372799, 16285695, 33062911, 67108863, 134217727] ?hh ?_); (case hh => kernel_rfl); conv => whnf) | (((with_reducible refine idxP_mk (k := P i) ?hh ?_); (case hh => exact hE)); conv => whnf) | (refine AppX.gr (n := 1) (L := gR eI q1) (len := q1.length) rfl rfl (gI_len q1) (gI_one q1) Nat.zero_lt_one (by omega) ?_; conv => whnf) | (refine AppX.gr (n := 1) (L := gR eI q2) (len := q2.length) rfl rfl (gI_len q2) (gI_one q2) Nat.zero_lt_one (by omega) ?_; conv => whnf) | ((with_reducible refine And.intro ?hh ?_); (case hh => exact condA); conv => whnf) | fail))
    all_goals first | (exfalso; omega) | exact ⟨(i + 1, (_ :: q1, d (P i) :: q2)), [(2, 5), (3, 7)], by dsimp only; omega, ⟨by dsimp only; omega, e1.symm, e2.symm⟩, Back.auto⟩
  · have ei : i = k := by omega
    subst ei
    cases q1 with
    | nil => exfalso; simp at hql1; omega
    | cons y1 q1 =>
    cases q2 with
    | nil => exfalso; simp at hql2; omega
    | cons y2 q2 =>
    rw [List.length_cons] at hql1 hql2
    have kq2 := fun (h' : As.H) hb => kq h' (q2.length + 1) hql2 (ofL (gR eI (y2 :: q2)) 0) (some (1, (q2.length + 1) * 1)) hb (fun j hj => by rw [j3, hDr]; exact arrV_get rfl hj)
    have hgx : ∀ j o, j < i → o = j → (ofL (gR eI (y1 :: q1)) 0).get o = some (.int .i64 (P j)) := fun j o hj ho => by rw [j2, hFr]; exact arrV_get ho hj
    clear kq j2 j3 hFr hDr hFs hDs
    (conv => whnf); (repeat' (first | ((with_reducible refine ifb_mk (fun hc => ?_) (fun hc => ?_)) <;> ((try simp only [decide_eq_true_eq, decide_eq_false_iff_not, Bool.not_eq_true', Bool.not_eq_false', Int.not_lt, Int.not_le, ne_eq, Decidable.not_not, beq_iff_eq, List.cons.injEq, and_true] at hc); (first | (exfalso; omega) | exact absurd True.intro hc | conv => whnf))) | ((with_reducible refine And.intro True.intro ?_); conv => whnf) | ((with_reducible refine grd_and ?_); refine And.intro (hi) ?_; conv => whnf) | ((with_reducible refine CallX.all ?_); refine CallW.of_ok (u1 _) ?_; conv => whnf) | ((with_reducible refine CallX.all ?_); refine CallW.of_ok (kq2 _ rfl) ?_; conv => whnf) | ((with_reducible refine WpR.draw (id := 5) mixed [0, 1, 2, 3, 4, 5, 6, 7] [0, 1, 0, 4, 3, 19, 63, 127] ?hh ?_); (case hh => kernel_rfl); conv => whnf) | ((with_reducible refine WpR.draw (id := 10) mixed [0, 1, 2, 3, 4, 5, 6, 7, 8, 9] [0, 0, 2, 7, 0, 0, 32, 112, 15, 511] ?hh ?_); (case hh => kernel_rfl); conv => whnf) | ((with_reducible refine WpR.draw (id := 18) mixed [0, 1, 2, 3, 4, 5, 6, 7, 8, 9, 10, 11, 12, 13, 14, 15] [0, 1, 0, 4, 0, 0, 32, 112, 0, 496, 1020, 2044, 4092, 8191, 16383, 32767] ?hh ?_); (case hh => kernel_rfl); conv => whnf) | ((with_reducible refine WpR.draw (id := 26) mixed [0, 1, 2, 3, 4, 5, 6, 7, 8, 9, 10, 11, 12, 13, 14, 15, 16, 17, 18, 19, 20, 21, 22, 23, 24, 25, 26, 27] [0, 1, 0, 7, 15, 0, 32, 0, 0, 384, 896, 2016, 4064, 8191, 16383, 32767, 32767, 131071, 262143, 32767, 32767, 32767, 3178495, 7372799, 16285695, 33062911, 67108863, 134217727] ?hh ?_); (case hh => kernel_rfl); conv => whnf) | ((with_reducible refine And.intro ?hh ?_); (case hh => exact condA); conv => whnf) | fail))
    refine WpR.loopA (ι := Nat) [] [10, 14, 15, 17, 18] [] [] 8 (fun j => [(20, .int .i64 j)]) (fun _ => []) (fun j => i - j) (fun j => j ≤ i) ?_ (0) (Nat.zero_le _) [] Back.auto
    intro j hj
    refine WpR.of_vc ?_
    by_cases hjk : j < i
    · have hgj := hgx j
      have hPj := hP j hjk
      have hxj := hfx j hjk
      have huj := hfu j hjk
      (conv => whnf); (repeat' (first | ((with_reducible refine ifb_mk (fun hc => ?_) (fun hc => ?_)) <;> ((try simp only [decide_eq_true_eq, decide_eq_false_iff_not, Bool.not_eq_true', Bool.not_eq_false', Int.not_lt, Int.not_le, ne_eq, Decidable.not_not, beq_iff_eq, List.cons.injEq, and_true] at hc); (first | (exfalso; omega) | exact absurd True.intro hc | conv => whnf))) | ((with_reducible refine And.intro True.intro ?_); conv => whnf) | ((with_reducible refine grd_and ?_); refine And.intro (hjk) ?_; conv => whnf) | ((with_reducible refine grd_and ?_); refine And.intro (hPj) ?_; conv => whnf) | (refine som_mk (hgj _ hjk (by show 0 + Int.toNat (j : Int) * 1 = j; omega)) ?_; conv => whnf) | ((with_reducible refine WpR.draw (id := 5) mixed [0, 1, 2, 3, 4, 5, 6, 7] [0, 1, 0, 4, 3, 19, 63, 127] ?hh ?_); (case hh => kernel_rfl); conv => whnf) | ((with_reducible refine WpR.draw (id := 10) mixed [0, 1, 2, 3, 4, 5, 6, 7, 8, 9] [0, 0, 2, 7, 0, 0, 32, 112, 15, 511] ?hh ?_); (case hh => kernel_rfl); conv => whnf) | ((with_reducible refine WpR.draw (id := 18) mixed [0, 1, 2, 3, 4, 5, 6, 7, 8, 9, 10, 11, 12, 13, 14, 15] [0, 1, 0, 4, 0, 0, 32, 112, 0, 496, 1020, 2044, 4092, 8191, 16383, 32767] ?hh ?_); (case hh => kernel_rfl); conv => whnf) | ((with_reducible refine WpR.draw (id := 26) mixed [0, 1, 2, 3, 4, 5, 6, 7, 8, 9, 10, 11, 12, 13, 14, 15, 16, 17, 18, 19, 20, 21, 22, 23, 24, 25, 26, 27] [0, 1, 0, 7, 15, 0, 32, 0, 0, 384, 896, 2016, 4064, 8191, 16383, 32767, 32767, 131071, 262143, 32767, 32767, 32767, 3178495, 7372799, 16285695, 33062911, 67108863, 134217727] ?hh ?_); (case hh => kernel_rfl); conv => whnf) | ((with_reducible refine And.intro ?hh ?_); (case hh => exact condA); conv => whnf) | fail))
      all_goals first | (exfalso; omega) | exact ⟨j + 1, [], by omega, by omega, Back.auto⟩
    · cases bb
      · (conv => whnf); (repeat' (first | ((with_reducible refine ifb_mk (fun hc => ?_) (fun hc => ?_)) <;> ((try simp only [decide_eq_true_eq, decide_eq_false_iff_not, Bool.not_eq_true', Bool.not_eq_false', Int.not_lt, Int.not_le, ne_eq, Decidable.not_not, beq_iff_eq, List.cons.injEq, and_true] at hc); (first | (exfalso; omega) | exact absurd True.intro hc | conv => whnf))) | ((with_reducible refine And.intro True.intro ?_); conv => whnf) | ((with_reducible refine grd_and ?_); refine And.intro (hjk) ?_; conv => whnf) | ((with_reducible refine CallX.all ?_); refine CallW.of_ok (v1 _) ?_; conv => whnf) | ((with_reducible refine CallX.all ?_); refine CallW.of_ok (v2 _) ?_; conv => whnf) | ((with_reducible refine CallX.all ?_); refine CallW.of_ok (kWk _) ?_; conv => whnf) | ((with_reducible refine WpR.draw (id := 5) mixed [0, 1, 2, 3, 4, 5, 6, 7] [0, 1, 0, 4, 3, 19, 63, 127] ?hh ?_); (case hh => kernel_rfl); conv => whnf) | ((with_reducible refine WpR.draw (id := 10) mixed [0, 1, 2, 3, 4, 5, 6, 7, 8, 9] [0, 0, 2, 7, 0, 0, 32, 112, 15, 511] ?hh ?_); (case hh => kernel_rfl); conv => whnf) | ((with_reducible refine WpR.draw (id := 18) mixed [0, 1, 2, 3, 4, 5, 6, 7, 8, 9, 10, 11, 12, 13, 14, 15] [0, 1, 0, 4, 0, 0, 32, 112, 0, 496, 1020, 2044, 4092, 8191, 16383, 32767] ?hh ?_); (case hh => kernel_rfl); conv => whnf) | ((with_reducible refine WpR.draw (id := 26) mixed [0, 1, 2, 3, 4, 5, 6, 7, 8, 9, 10, 11, 12, 13, 14, 15, 16, 17, 18, 19, 20, 21, 22, 23, 24, 25, 26, 27] [0, 1, 0, 7, 15, 0, 32, 0, 0, 384, 896, 2016, 4064, 8191, 16383, 32767, 32767, 131071, 262143, 32767, 32767, 32767, 3178495, 7372799, 16285695, 33062911, 67108863, 134217727] ?hh ?_); (case hh => kernel_rfl); conv => whnf) | ((with_reducible refine And.intro ?hh ?_); (case hh => exact condA); conv => whnf) | fail))
        all_goals first | (refine ⟨[], ?_, rfl, rfl, trivial, trivs⟩; simp only [renV, renL]; (first | done | rfl | (simp; done) | (simp; omega) | grind)) | (exfalso; omega)
      · (conv => whnf); (repeat' (first | ((with_reducible refine ifb_mk (fun hc => ?_) (fun hc => ?_)) <;> ((try simp only [decide_eq_true_eq, decide_eq_false_iff_not, Bool.not_eq_true', Bool.not_eq_false', Int.not_lt, Int.not_le, ne_eq, Decidable.not_not, beq_iff_eq, List.cons.injEq, and_true] at hc); (first | (exfalso; omega) | exact absurd True.intro hc | conv => whnf))) | ((with_reducible refine And.intro True.intro ?_); conv => whnf) | ((with_reducible refine grd_and ?_); refine And.intro (hjk) ?_; conv => whnf) | ((with_reducible refine CallX.all ?_); refine CallW.of_ok (v1 _) ?_; conv => whnf) | ((with_reducible refine CallX.all ?_); refine CallW.of_ok (v2 _) ?_; conv => whnf) | ((with_reducible refine CallX.all ?_); refine CallW.of_ok (kWk _) ?_; conv => whnf) | ((with_reducible refine WpR.draw (id := 5) mixed [0, 1, 2, 3, 4, 5, 6, 7] [0, 1, 0, 4, 3, 19, 63, 127] ?hh ?_); (case hh => kernel_rfl); conv => whnf) | ((with_reducible refine WpR.draw (id := 10) mixed [0, 1, 2, 3, 4, 5, 6, 7, 8, 9] [0, 0, 2, 7, 0, 0, 32, 112, 15, 511] ?hh ?_); (case hh => kernel_rfl); conv => whnf) | ((with_reducible refine WpR.draw (id := 18) mixed [0, 1, 2, 3, 4, 5, 6, 7, 8, 9, 10, 11, 12, 13, 14, 15] [0, 1, 0, 4, 0, 0, 32, 112, 0, 496, 1020, 2044, 4092, 8191, 16383, 32767] ?hh ?_); (case hh => kernel_rfl); conv => whnf) | ((with_reducible refine WpR.draw (id := 26) mixed [0, 1, 2, 3, 4, 5, 6, 7, 8, 9, 10, 11, 12, 13, 14, 15, 16, 17, 18, 19, 20, 21, 22, 23, 24, 25, 26, 27] [0, 1, 0, 7, 15, 0, 32, 0, 0, 384, 896, 2016, 4064, 8191, 16383, 32767, 32767, 131071, 262143, 32767, 32767, 32767, 3178495, 7372799, 16285695, 33062911, 67108863, 134217727] ?hh ?_); (case hh => kernel_rfl); conv => whnf) | ((with_reducible refine And.intro ?hh ?_); (case hh => exact condA); conv => whnf) | fail))
        all_goals first | (refine ⟨[], ?_, rfl, rfl, trivial, trivs⟩; simp only [renV, renL]; (first | done | rfl | (simp; done) | (simp; omega) | grind)) | (exfalso; omega)
end Go.Proofs.H

namespace Go.Proofs.H
open Go.As
set_option maxRecDepth 20000
set_option linter.unusedVariables false
set_option linter.unusedSimpArgs false

/-! ### MendTurned -/

set_option maxHeartbeats 16000000 in
theorem turned_011 (h : As.H) (W H : Int) (k : Nat) (d : Nat → Int) (hk : k ≤ 9223372036854775807) :
    CallOk Try.prog 13 [plV W H false k d, .bool true, .bool true, .bool false] h (.bool true) h := by
  have kWk := fun h : As.H => wwhole.everywhere rfl h
  rcases fine_split W H k d hk with ⟨w, hh, rfl, rfl, p⟩ | kF
  rotate_left
  · refine CallOk.run0 Try.func13 rfl rfl rfl rfl rfl (WpR.of_vc ?_)
    (conv => whnf); (repeat' (first | ((with_reducible refine ifb_mk (fun hc => ?_) (fun hc => ?_)) <;> ((try simp only [decide_eq_true_eq, decide_eq_false_iff_not, Bool.not_eq_true', Bool.not_eq_false', Int.not_lt, Int.not_le, ne_eq, Decidable.not_not, beq_iff_eq, List.cons.injEq, and_true] at hc); (first | (exfalso; omega) | exact absurd True.intro hc | conv => whnf))) | ((with_reducible refine And.intro True.intro ?_); conv => whnf) | ((with_reducible refine CallX.all ?_); refine CallW.of_ok (kF _) ?_; conv => whnf) | ((with_reducible refine CallX.all ?_); refine CallW.of_ok (kWk _) ?_; conv => whnf) | ((with_reducible refine WpR.draw (id := 5) mixed [0, 1, 2, 3, 4, 5, 6, 7] [0, 1, 0, 4, 3, 19, 63, 127] ?hh ?_); (case hh => kernel_rfl); conv => whnf) | ((with_reducible refine WpR.draw (id := 10) mixed [0, 1, 2, 3, 4, 5, 6, 7, 8, 9] [0, 0, 2, 7, 0, 0, 32, 112, 15, 511] ?hh ?_); (case hh => kernel_rfl); conv => whnf) | ((with_reducible refine WpR.draw (id := 18) mixed [0, 1, 2, 3, 4, 5, 6, 7, 8, 9, 10, 11, 12, 13, 14, 15] [0, 1, 0, 4, 0, 0, 32, 112, 0, 496, 1020, 2044, 4092, 8191, 16383, 32767] ?hh ?_); (case hh => kernel_rfl); conv => whnf) | ((with_reducible refine WpR.draw (id := 26) mixed [0, 1, 2, 3, 4, 5, 6, 7, 8, 9, 10, 11, 12, 13, 14, 15, 16, 17, 18, 19, 20, 21, 22, 23, 24, 25, 26, 27] [0, 1, 0, 7, 15, 0, 32, 0, 0, 384, 896, 2016, 4064, 8191, 16383, 32767, 32767, 131071, 262143, 32767, 32767, 32767, 3178495, 7372799, 16285695, 33062911, 67108863, 134217727] ?hh ?_); (case hh => kernel_rfl); conv => whnf) | ((with_reducible refine And.intro ?hh ?_); (case hh => exact condA); conv => whnf) | fail))
    all_goals (refine ⟨[], ?_, rfl, rfl, trivial, trivs⟩; simp only [renV, renL]; (first | done | rfl | (simp; done) | (simp; omega) | grind))
  have hle := p.le
  have k0 := fun h' => fineV p h'
  have phw := p.hw
  have phh := p.hh
  have phn := p.hn
  have t := turn_ok p.hw p.hh p.hn false true true
  have hP := t.pl
  have hPe : ∀ i, trP w hh false true true i = (hh - 1 - i / w) * w + (w - 1 - i % w) := fun i => rfl
  have hPi := t.pi
  have hPi2 := t.ip
  have q : Pv (exW w hh false) (exW hh w false) k (fun j => d (trP w hh false true true j)) := ⟨p.hw, p.hh, p.hn, fun j hj => p.hd _ (t.pl j hj)⟩
  obtain ⟨hfu, hfx⟩ := turn_flat t p q
  have u1 := fun h' => flatV p h'
  have kq := fun (h' : As.H) n' hn c gg hb hc => flat_own q h' 3 n' hn c gg hb hc
  have v1 := fun h' => back_ok p.x p.flat false h'
  have v2 := fun h' => back_ok q.x q.flat false h'
  have hbk := turn_back t p.hw p.hh p.hn hfx
  have hbb : decide ((brn (exW w hh false) (exW hh w false) k (xF (exW w hh false) (exW hh w false) fun j => d (trP w hh false true true j))).length = k) = decide ((brn w hh k (xF w hh d)).length = k) := decide_eq_decide.2 hbk
  rw [hbb] at v2
  clear hbb hbk p q t
  generalize trP w hh false true true = P at *
  obtain ⟨bb, ebb⟩ : ∃ bb, decide ((brn w hh k (xF w hh d)).length = k) = bb := ⟨_, rfl⟩
  rw [ebb] at v1 v2
  clear ebb
  have hw1 : exW w hh false = w := rfl
  have hw2 : exW hh w false = hh := rfl
  rw [hw1, hw2] at kq v2 hfu hfx
  clear hw1 hw2
  generalize xF w hh (fun j => d (P j)) = x2 at *
  generalize uF w hh (fun j => d (P j)) = u2 at *
  generalize xF w hh d = x1 at *
  generalize uF w hh d = u1 at *
  have hF0 : lsL (fun j => (P j : Int)) 0 = [] := rfl
  have hFs : ∀ j, lsL (fun j => (P j : Int)) (j + 1) = (P j : Int) :: lsL (fun j => (P j : Int)) j := fun j => rfl
  have hFl := lsL_len (fun j => (P j : Int))
  have hFr := lsL_rev (fun j => (P j : Int))
  have hD0 : lsL (fun j => d (P j)) 0 = [] := rfl
  have hDs : ∀ j, lsL (fun j => d (P j)) (j + 1) = d (P j) :: lsL (fun j => d (P j)) j := fun j => rfl
  have hDl := lsL_len (fun j => d (P j))
  have hDr := lsL_rev (fun j => d (P j))
  generalize lsL (fun j => (P j : Int)) = FL at *
  generalize lsL (fun j => d (P j)) = DL at *
  have w0 : (w : Int) ≠ 0 := by omega
  refine CallOk.run0 Try.func13 rfl rfl rfl rfl rfl (WpR.of_vc ?_)
  (conv => whnf); (repeat' (first | ((with_reducible refine ifb_mk (fun hc => ?_) (fun hc => ?_)) <;> ((try simp only [decide_eq_true_eq, decide_eq_false_iff_not, Bool.not_eq_true', Bool.not_eq_false', Int.not_lt, Int.not_le, ne_eq, Decidable.not_not, beq_iff_eq, List.cons.injEq, and_true] at hc); (first | (exfalso; omega) | exact absurd True.intro hc | conv => whnf))) | ((with_reducible refine And.intro True.intro ?_); conv => whnf) | ((with_reducible refine CallX.all ?_); refine CallW.of_ok (k0 _) ?_; conv => whnf) | ((with_reducible refine WpR.draw (id := 5) mixed [0, 1, 2, 3, 4, 5, 6, 7] [0, 1, 0, 4, 3, 19, 63, 127] ?hh ?_); (case hh => kernel_rfl); conv => whnf) | ((with_reducible refine WpR.draw (id := 10) mixed [0, 1, 2, 3, 4, 5, 6, 7, 8, 9] [0, 0, 2, 7, 0, 0, 32, 112, 15, 511] ?hh ?_); (case hh => kernel_rfl); conv => whnf) | ((with_reducible refine WpR.draw (id := 18) mixed [0, 1, 2, 3, 4, 5, 6, 7, 8, 9, 10, 11, 12, 13, 14, 15] [0, 1, 0, 4, 0, 0, 32, 112, 0, 496, 1020, 2044, 4092, 8191, 16383, 32767] ?hh ?_); (case hh => kernel_rfl); conv => whnf) | ((with_reducible refine WpR.draw (id := 26) mixed [0, 1, 2, 3, 4, 5, 6, 7, 8, 9, 10, 11, 12, 13, 14, 15, 16, 17, 18, 19, 20, 21, 22, 23, 24, 25, 26, 27] [0, 1, 0, 7, 15, 0, 32, 0, 0, 384, 896, 2016, 4064, 8191, 16383, 32767, 32767, 131071, 262143, 32767, 32767, 32767, 3178495, 7372799, 16285695, 33062911, 67108863, 134217727] ?hh ?_); (case hh => kernel_rfl); conv => whnf) | ((with_reducible refine And.intro ?hh ?_); (case hh => exact condA); conv => whnf) | fail))
  have hMap : ∀ i, ltB 4 (.cells (ofL [.int .i64 w, .int .i64 hh, grV 3 i] 0) true none) := fun i => ltB_ofL (by intro v hv; (repeat (rcases List.mem_cons.1 hv with rfl | hv; (first | rfl | exact grV_lt rfl i))); cases hv)
  have hMapB : ∀ i, ltB 1000 (.cells (ofL [.int .i64 w, .int .i64 hh, grV 3 i] 0) true none) := fun i => ltB_ofL (by intro v hv; (repeat (rcases List.mem_cons.1 hv with rfl | hv; (first | rfl | exact grV_lt rfl i))); cases hv)
  have hMapA : ∀ l : List Int, ltB 4 (grB 1 (gR eI l) l.length) := fun l => grB_lt (gR_bare eI_bare) _
  have hMap2 : ∀ l : List Int, ltB 1000 (grB 1 (gR eI l) l.length) := fun l => grB_lt (gR_bare eI_bare) _
  refine WpR.loopA (ι := Nat × (List Int × List Int)) [2, 3] [1, 2, 3, 4, 9] [1, 2, 3] [] 4 (fun p => [(10, grV 2 p.2.1.length), (11, .int .i64 p.1)]) (fun p => [(1, .cells (ofL [.int .i64 w, .int .i64 hh, grV 3 p.2.2.length] 0) true none), (2, grB 1 (gR eI p.2.1) p.2.1.length), (3, grB 1 (gR eI p.2.2) p.2.2.length)]) (fun p => k - p.1) (fun p => p.1 ≤ k ∧ p.2.1 = FL p.1 ∧ p.2.2 = DL p.1) ?_ ((0, ([], []))) (⟨Nat.zero_le _, hF0.symm, hD0.symm⟩) [] Back.auto (htv := fun p _ => ⟨grV_lt rfl _, rfl, trivial⟩)
  rintro ⟨i, q1, q2⟩ ⟨j1, j2, j3⟩
  dsimp only at j1 j2 j3
  refine WpR.of_vc ?_
  have hql1 := hFl i
  have hql2 := hDl i
  rw [← j2] at hql1
  rw [← j3] at hql2
  by_cases hi : i < k
  · have e1 := hFs i
    have e2 := hDs i
    rw [← j2] at e1
    rw [← j3] at e2
    have hPk := hP i hi
    obtain ⟨b, hbQ, hb⟩ : ∃ b, b < hh ∧ i / w = b := ⟨_, Nat.div_lt_of_lt_mul (by rw [phn] at hi; exact hi), rfl⟩
    obtain ⟨a, haQ, ha⟩ : ∃ a, a < w ∧ i % w = a := ⟨_, Nat.mod_lt _ (by omega), rfl⟩
    have hpe := hPe i
    rw [ha, hb] at hpe
    have ea : (i : Int).tmod w = (a : Int) := by rw [Int.tmod_eq_emod_of_nonneg (by omega), ← ha]; omega
    have eb : (i : Int).tdiv w = (b : Int) := by rw [Int.tdiv_eq_ediv_of_nonneg (by omega), ← hb]; omega
    clear ha hb
    have y1 : InR ((i : Int).tmod w) := by rw [ea]; unfold InR; omega
    have y2 : InR ((i : Int).tdiv w) := by rw [eb]; unfold InR; omega
    have eY : ((hh : Int) - 1 - (i : Int).tdiv w) = (((hh - 1 - b) : Nat) : Int) := by rw [eb] <;> omega
    have eX : ((w : Int) - 1 - (i : Int).tmod w) = (((w - 1 - a) : Nat) : Int) := by rw [ea] <;> omega
    have eYW : ((hh : Int) - 1 - (i : Int).tdiv w) * w = (((hh - 1 - b) * w : Nat) : Int) := by rw [eY, Int.natCast_mul]
    have y3 : InR (((hh : Int) - 1 - (i : Int).tdiv w) * w) := by rw [eYW]; unfold InR; omega
    have hE : ((hh : Int) - 1 - (i : Int).tdiv w) * w + ((w : Int) - 1 - (i : Int).tmod w) = ((P i : Nat) : Int) := by rw [eYW, eX, hpe]; omega
    have y4 : InR (((hh : Int) - 1 - (i : Int).tdiv w) * w + ((w : Int) - 1 - (i : Int).tmod w)) := by rw [hE]; unfold InR; omega
    rw [← hE] at e1
    (conv => whnf); (repeat' (first | ((with_reducible refine ifb_mk (fun hc => ?_) (fun hc => ?_)) <;> ((try simp only [decide_eq_true_eq, decide_eq_false_iff_not, Bool.not_eq_true', Bool.not_eq_false', Int.not_lt, Int.not_le, ne_eq, Decidable.not_not, beq_iff_eq, List.cons.injEq, and_true] at hc); (first | (exfalso; omega) | exact absurd True.intro hc | conv => whnf))) | ((with_reducible refine And.intro True.intro ?_); conv => whnf) | ((with_reducible refine grd_and ?_); refine And.intro (hi) ?_; conv => whnf) | ((with_reducible refine grd_and ?_); refine And.intro (w0) ?_; conv => whnf) | ((with_reducible refine grd_and ?_); refine And.intro (y1) ?_; conv => whnf) | ((with_reducible refine grd_and ?_); refine And.intro (y2) ?_; conv => whnf) | ((with_reducible refine grd_and ?_); refine And.intro (y3) ?_; conv => whnf) | ((with_reducible refine grd_and ?_); refine And.intro (y4) ?_; conv => whnf) | ((with_reducible refine grd_and ?_); refine And.intro (hPk) ?_; conv => whnf) | ((with_reducible refine WpR.draw (id := 5) mixed [0, 1, 2, 3, 4, 5, 6, 7] [0, 1, 0, 4, 3, 19, 63, 127] ?hh ?_); (case hh => kernel_rfl); conv => whnf) | ((with_reducible refine WpR.draw (id := 10) mixed [0, 1, 2, 3, 4, 5, 6, 7, 8, 9] [0, 0, 2, 7, 0, 0, 32, 112, 15, 511] ?hh ?_); (case hh => kernel_rfl); conv => whnf) | ((with_reducible refine WpR.draw (id := 18) mixed [0, 1, 2, 3, 4, 5, 6, 7, 8, 9, 10, 11, 12, 13, 14, 15] [0, 1, 0, 4, 0, 0, 32, 112, 0, 496, 1020, 2044, 4092, 8191, 16383, 32767] ?hh ?_); (case hh => kernel_rfl); conv => whnf) | ((with_reducible refine WpR.draw (id := 26) mixed [0, 1, 2, 3, 4, 5, 6, 7, 8, 9, 10, 11, 12, 13, 14, 15, 16, 17, 18, 19, 20, 21, 22, 23, 24, 25, 26, 27] [0, 1, 0, 7, 15, 0, 32, 0, 0, 384, 896, 2016, 4064, 8191, 16383, 32767, 32767, 131071, 262143, 32767, 32767, 32767, 3178495, 7372799, 16285695, 33062911, 67108863, 134217727] ?hh ?_); (case hh => kernel_rfl); conv => whnf) | (((with_reducible refine idxP_mk (k := P i) ?hh ?_); (case hh => exact hE)); conv => whnf) | (refine AppX.gr (n := 1) (L := gR eI q1) (len := q1.length) rfl rfl (gI_len q1) (gI_one q1) Nat.zero_lt_one (by omega) ?_; conv => whnf) | (refine AppX.gr (n := 1) (L := gR eI q2) (len := q2.length) rfl rfl (gI_len q2) (gI_one q2) Nat.zero_lt_one (by omega) ?_; conv => whnf) | ((with_reducible refine And.intro ?hh ?_); (case hh => exact condA); conv => whnf) | fail))
    all_goals first | (exfalso; omega) | exact ⟨(i + 1, (_ :: q1, d (P i) :: q2)), [(2, 5), (3, 7)], by dsimp only; omega, ⟨by dsimp only; omega, e1.symm, e2.symm⟩, Back.auto⟩
  · have ei : i = k := by omega
    subst ei
    cases q1 with
    | nil => exfalso; simp at hql1; omega
    | cons y1 q1 =>
    cases q2 with
    | nil => exfalso; simp at hql2; omega
    | cons y2 q2 =>
    rw [List.length_cons] at hql1 hql2
    have kq2 := fun (h' : As.H) hb => kq h' (q2.length + 1) hql2 (ofL (gR eI (y2 :: q2)) 0) (some (1, (q2.length + 1) * 1)) hb (fun j hj => by rw [j3, hDr]; exact arrV_get rfl hj)
    have hgx : ∀ j o, j < i → o = j → (ofL (gR eI (y1 :: q1)) 0).get o = some (.int .i64 (P j)) := fun j o hj ho => by rw [j2, hFr]; exact arrV_get ho hj
    clear kq j2 j3 hFr hDr hFs hDs
    (conv => whnf); (repeat' (first | ((with_reducible refine ifb_mk (fun hc => ?_) (fun hc => ?_)) <;> ((try simp only [decide_eq_true_eq, decide_eq_false_iff_not, Bool.not_eq_true', Bool.not_eq_false', Int.not_lt, Int.not_le, ne_eq, Decidable.not_not, beq_iff_eq, List.cons.injEq, and_true] at hc); (first | (exfalso; omega) | exact absurd True.intro hc | conv => whnf))) | ((with_reducible refine And.intro True.intro ?_); conv => whnf) | ((with_reducible refine grd_and ?_); refine And.intro (hi) ?_; conv => whnf) | ((with_reducible refine CallX.all ?_); refine CallW.of_ok (u1 _) ?_; conv => whnf) | ((with_reducible refine CallX.all ?_); refine CallW.of_ok (kq2 _ rfl) ?_; conv => whnf) | ((with_reducible refine WpR.draw (id := 5) mixed [0, 1, 2, 3, 4, 5, 6, 7] [0, 1, 0, 4, 3, 19, 63, 127] ?hh ?_); (case hh => kernel_rfl); conv => whnf) | ((with_reducible refine WpR.draw (id := 10) mixed [0, 1, 2, 3, 4, 5, 6, 7, 8, 9] [0, 0, 2, 7, 0, 0, 32, 112, 15, 511] ?hh ?_); (case hh => kernel_rfl); conv => whnf) | ((with_reducible refine WpR.draw (id := 18) mixed [0, 1, 2, 3, 4, 5, 6, 7, 8, 9, 10, 11, 12, 13, 14, 15] [0, 1, 0, 4, 0, 0, 32, 112, 0, 496, 1020, 2044, 4092, 8191, 16383, 32767] ?hh ?_); (case hh => kernel_rfl); conv => whnf) | ((with_reducible refine WpR.draw (id := 26) mixed [0, 1, 2, 3, 4, 5, 6, 7, 8, 9, 10, 11, 12, 13, 14, 15, 16, 17, 18, 19, 20, 21, 22, 23, 24, 25, 26, 27] [0, 1, 0, 7, 15, 0, 32, 0, 0, 384, 896, 2016, 4064, 8191, 16383, 32767, 32767, 131071, 262143, 32767, 32767, 32767, 3178495, 7372799, 16285695, 33062911, 67108863, 134217727] ?hh ?_); (case hh => kernel_rfl); conv => whnf) | ((with_reducible refine And.intro ?hh ?_); (case hh => exact condA); conv => whnf) | fail))
    refine WpR.loopA (ι := Nat) [] [10, 14, 15, 17, 18] [] [] 8 (fun j => [(20, .int .i64 j)]) (fun _ => []) (fun j => i - j) (fun j => j ≤ i) ?_ (0) (Nat.zero_le _) [] Back.auto
    intro j hj
    refine WpR.of_vc ?_
    by_cases hjk : j < i
    · have hgj := hgx j
      have hPj := hP j hjk
      have hxj := hfx j hjk
      have huj := hfu j hjk
      (conv => whnf); (repeat' (first | ((with_reducible refine ifb_mk (fun hc => ?_) (fun hc => ?_)) <;> ((try simp only [decide_eq_true_eq, decide_eq_false_iff_not, Bool.not_eq_true', Bool.not_eq_false', Int.not_lt, Int.not_le, ne_eq, Decidable.not_not, beq_iff_eq, List.cons.injEq, and_true] at hc); (first | (exfalso; omega) | exact absurd True.intro hc | conv => whnf))) | ((with_reducible refine And.intro True.intro ?_); conv => whnf) | ((with_reducible refine grd_and ?_); refine And.intro (hjk) ?_; conv => whnf) | ((with_reducible refine grd_and ?_); refine And.intro (hPj) ?_; conv => whnf) | (refine som_mk (hgj _ hjk (by show 0 + Int.toNat (j : Int) * 1 = j; omega)) ?_; conv => whnf) | ((with_reducible refine WpR.draw (id := 5) mixed [0, 1, 2, 3, 4, 5, 6, 7] [0, 1, 0, 4, 3, 19, 63, 127] ?hh ?_); (case hh => kernel_rfl); conv => whnf) | ((with_reducible refine WpR.draw (id := 10) mixed [0, 1, 2, 3, 4, 5, 6, 7, 8, 9] [0, 0, 2, 7, 0, 0, 32, 112, 15, 511] ?hh ?_); (case hh => kernel_rfl); conv => whnf) | ((with_reducible refine WpR.draw (id := 18) mixed [0, 1, 2, 3, 4, 5, 6, 7, 8, 9, 10, 11, 12, 13, 14, 15] [0, 1, 0, 4, 0, 0, 32, 112, 0, 496, 1020, 2044, 4092, 8191, 16383, 32767] ?hh ?_); (case hh => kernel_rfl); conv => whnf) | ((with_reducible refine WpR.draw (id := 26) mixed [0, 1, 2, 3, 4, 5, 6, 7, 8, 9, 10, 11, 12, 13, 14, 15, 16, 17, 18, 19, 20, 21, 22, 23, 24, 25, 26, 27] [0, 1, 0, 7, 15, 0, 32, 0, 0, 384, 896, 2016, 4064, 8191, 16383, 32767, 32767, 131071, 262143, 32767, 32767, 32767, 3178495, 7372799, 16285695, 33062911, 67108863, 134217727] ?hh ?_); (case hh => kernel_rfl); conv => whnf) | ((with_reducible refine And.intro ?hh ?_); (case hh => exact condA); conv => whnf) | fail))
      all_goals first | (exfalso; omega) | exact ⟨j + 1, [], by omega, by omega, Back.auto⟩
    · cases bb
      · (conv => whnf); (repeat' (first | ((with_reducible refine ifb_mk (fun hc => ?_) (fun hc => ?_)) <;> ((try simp only [decide_eq_true_eq, decide_eq_false_iff_not, Bool.not_eq_true', Bool.not_eq_false', Int.not_lt, Int.not_le, ne_eq, Decidable.not_not, beq_iff_eq, List.cons.injEq, and_true] at hc); (first | (exfalso; omega) | exact absurd True.intro hc | conv => whnf))) | ((with_reducible refine And.intro True.intro ?_); conv => whnf) | ((with_reducible refine grd_and ?_); refine And.intro (hjk) ?_; conv => whnf) | ((with_reducible refine CallX.all ?_); refine CallW.of_ok (v1 _) ?_; conv => whnf) | ((with_reducible refine CallX.all ?_); refine CallW.of_ok (v2 _) ?_; conv => whnf) | ((with_reducible refine CallX.all ?_); refine CallW.of_ok (kWk _) ?_; conv => whnf) | ((with_reducible refine WpR.draw (id := 5) mixed [0, 1, 2, 3, 4, 5, 6, 7] [0, 1, 0, 4, 3, 19, 63, 127] ?hh ?_); (case hh => kernel_rfl); conv => whnf) | ((with_reducible refine WpR.draw (id := 10) mixed [0, 1, 2, 3, 4, 5, 6, 7, 8, 9] [0, 0, 2, 7, 0, 0, 32, 112, 15, 511] ?hh ?_); (case hh => kernel_rfl); conv => whnf) | ((with_reducible refine WpR.draw (id := 18) mixed [0, 1, 2, 3, 4, 5, 6, 7, 8, 9, 10, 11, 12, 13, 14, 15] [0, 1, 0, 4, 0, 0, 32, 112, 0, 496, 1020, 2044, 4092, 8191, 16383, 32767] ?hh ?_); (case hh => kernel_rfl); conv => whnf) | ((with_reducible refine WpR.draw (id := 26) mixed [0, 1, 2, 3, 4, 5, 6, 7, 8, 9, 10, 11, 12, 13, 14, 15, 16, 17, 18, 19, 20, 21, 22, 23, 24, 25, 26, 27] [0, 1, 0, 7, 15, 0, 32, 0, 0, 384, 896, 2016, 4064, 8191, 16383, 32767, 32767, 131071, 262143, 32767, 32767, 32767, 3178495, 7372799, 16285695, 33062911, 67108863, 134217727] ?hh ?_); (case hh => kernel_rfl); conv => whnf) | ((with_reducible refine And.intro ?hh ?_); (case hh => exact condA); conv => whnf) | fail))
        all_goals first | (refine ⟨[], ?_, rfl, rfl, trivial, trivs⟩; simp only [renV, renL]; (first | done | rfl | (simp; done) | (simp; omega) | grind)) | (exfalso; omega)
      · (conv => whnf); (repeat' (first | ((with_reducible refine ifb_mk (fun hc => ?_) (fun hc => ?_)) <;> ((try simp only [decide_eq_true_eq, decide_eq_false_iff_not, Bool.not_eq_true', Bool.not_eq_false', Int.not_lt, Int.not_le, ne_eq, Decidable.not_not, beq_iff_eq, List.cons.injEq, and_true] at hc); (first | (exfalso; omega) | exact absurd True.intro hc | conv => whnf))) | ((with_reducible refine And.intro True.intro ?_); conv => whnf) | ((with_reducible refine grd_and ?_); refine And.intro (hjk) ?_; conv => whnf) | ((with_reducible refine CallX.all ?_); refine CallW.of_ok (v1 _) ?_; conv => whnf) | ((with_reducible refine CallX.all ?_); refine CallW.of_ok (v2 _) ?_; conv => whnf) | ((with_reducible refine CallX.all ?_); refine CallW.of_ok (kWk _) ?_; conv => whnf) | ((with_reducible refine WpR.draw (id := 5) mixed [0, 1, 2, 3, 4, 5, 6, 7] [0, 1, 0, 4, 3, 19, 63, 127] ?hh ?_); (case hh => kernel_rfl); conv => whnf) | ((with_reducible refine WpR.draw (id := 10) mixed [0, 1, 2, 3, 4, 5, 6, 7, 8, 9] [0, 0, 2, 7, 0, 0, 32, 112, 15, 511] ?hh ?_); (case hh => kernel_rfl); conv => whnf) | ((with_reducible refine WpR.draw (id := 18) mixed [0, 1, 2, 3, 4, 5, 6, 7, 8, 9, 10, 11, 12, 13, 14, 15] [0, 1, 0, 4, 0, 0, 32, 112, 0, 496, 1020, 2044, 4092, 8191, 16383, 32767] ?hh ?_); (case hh => kernel_rfl); conv => whnf) | ((with_reducible refine WpR.draw (id := 26) mixed [0, 1, 2, 3, 4, 5, 6, 7, 8, 9, 10, 11, 12, 13, 14, 15, 16, 17, 18, 19, 20, 21, 22, 23, 24, 25, 26, 27] [0, 1, 0, 7, 15, 0, 32, 0, 0, 384, 896, 2016, 4064, 8191, 16383, 32767, 32767, 131071, 262143, 32767, 32767, 32767, 3178495, 7372799, 16285695, 33062911, 67108863, 134217727] ?hh ?_); (case hh => kernel_rfl); conv => whnf) | ((with_reducible refine And.intro ?hh ?_); (case hh => exact condA); conv => whnf) | fail))
        all_goals first | (refine ⟨[], ?_, rfl, rfl, trivial, trivs⟩; simp only [renV, renL]; (first | done | rfl | (simp; done) | (simp; omega) | grind)) | (exfalso; omega)
end Go.Proofs.H

