/- What the functions answer that the laws call, one after another (Sti). -/
import Derived.Test.YtgcnflpgolnjeaaAs6
import Derived.Test.YtgcnflpgolnjeaaWk

set_option linter.unusedVariables false
namespace Go.Proofs.K
open Go.As
set_option maxRecDepth 20000
set_option linter.unusedVariables false
set_option linter.unusedSimpArgs false

/-! ### A path that is given by numbers -/

def byV (p : Nat → Int) : V := .agg [.int .i8 (p 0), .int .i8 (p 1), .int .i8 (p 2), .int .i8 (p 3)]
def gvF (p : Nat → Int) (k : Nat) : Int := (IntKind.i64.wrap (p k)).tmod 21
theorem gvF_bd (p : Nat → Int) (k : Nat) : -20 ≤ gvF p k ∧ gvF p k ≤ 20 := by
  have h1 := Int.tmod_lt_of_pos (IntKind.i64.wrap (p k)) (b := 21) (by decide)
  have h2 := Int.lt_tmod_of_pos (IntKind.i64.wrap (p k)) (b := 21) (by decide)
  unfold gvF; omega
theorem given_new (h : As.H) (p : Nat → Int) (D : Nat) (hD : D ≤ 3) : CallOk Try.prog 41 [.int .i64 D, byV p] h (.sl (h.n + 0) 0 (D + 1) (D + 1) false) (addBs h [paB (D + 1) (gvF p)]) := by
  have y0 : InR (gvF p 0) := by have := gvF_bd p 0; unfold InR; omega
  have y1 : InR (gvF p 1) := by have := gvF_bd p 1; unfold InR; omega
  have y2 : InR (gvF p 2) := by have := gvF_bd p 2; unfold InR; omega
  have y3 : InR (gvF p 3) := by have := gvF_bd p 3; unfold InR; omega
  refine CallOk.runN Try.func41 rfl rfl (argsC := [.int .i64 D, byV p]) (fun N => .sl (N + 0) 0 (D + 1) (D + 1) false) (fun _ => [paB (D + 1) (gvF p)]) (Nat.le_of_ble_eq_true rfl) [] (.cons (.bare rfl) (.cons (.lt0 rfl) .nil)) (viewM0 h) (.sl (i := 0) (Nat.le_of_ble_eq_true rfl) rfl rfl) rfl (fun i b hi => ?_) (WpR.of_vc ?_)
  · match i, hi with
    | 0, hi => cases hi; exact ⟨_, rfl, rfl, .bare (ofL_bare (arrV_bare fun _ => rfl))⟩
    | i + 1, hi => simp at hi
  · have h4 : D = 0 ∨ D = 1 ∨ D = 2 ∨ D = 3 := by omega
    rcases h4 with rfl | rfl | rfl | rfl
    all_goals
      (conv => whnf); (repeat' (first | ((with_reducible refine ifb_mk (fun hc => ?_) (fun hc => ?_)) <;> ((try simp only [decide_eq_true_eq, decide_eq_false_iff_not, Bool.not_eq_true', Bool.not_eq_false', Int.not_lt, Int.not_le, ne_eq, Decidable.not_not, beq_iff_eq, List.cons.injEq, and_true] at hc); (first | (exfalso; omega) | exact absurd True.intro hc | conv => whnf))) | ((with_reducible refine And.intro True.intro ?_); conv => whnf) | ((with_reducible refine WpR.loopU 5 ?_); conv => whnf) | ((with_reducible refine grd_and ?_); refine And.intro (y0) ?_; conv => whnf) | ((with_reducible refine grd_and ?_); refine And.intro (y1) ?_; conv => whnf) | ((with_reducible refine grd_and ?_); refine And.intro (y2) ?_; conv => whnf) | ((with_reducible refine grd_and ?_); refine And.intro (y3) ?_; conv => whnf) | (refine AppX.nil (n := 1) Nat.zero_lt_one (Nat.le_of_ble_eq_true rfl) ?_; conv => whnf) | (refine AppX.own (n := 1) rfl rfl rfl Nat.zero_lt_one (Nat.le_of_ble_eq_true rfl) ?_; conv => whnf) | ((with_reducible refine And.intro ?hh ?_); (case hh => exact condA); conv => whnf) | fail))
      all_goals first | (exfalso; omega) | exact ⟨[_], rfl, rfl, rfl, ⟨⟨_, rfl, rfl, SubQ.fin (by (conv => whnf); (repeat' (first | exact True.intro | rfl | refine And.intro ?_ ?_)); done) (fun h => h) (.inl rfl)⟩, paB_lt, rfl, trivial⟩, trivs⟩
theorem given_ok (h : As.H) (p : Nat → Int) (D : Nat) (hD : D ≤ 3) : CallOk Try.prog 41 [.int .i64 D, byV p] h (.rsl false 1 (D + 1) (iG (gvF p))) h :=
  CallOk.freeze (given_new h p D hD) (pa_fz (i := 0) rfl _ rfl) (fun b hb => by rw [List.mem_singleton.1 hb]; rfl)
theorem wiR_t {A B : Int} {n : Nat} {s : Nat → Int} (h : ∀ i, i < n → A ≤ s i ∧ s i ≤ B) : wiR A B n s = true := allF_t fun i hi => decide_eq_true (h i hi)
theorem ckC_0 {m : Nat} {a : Nat → Int} {d : Int} (hm : 1 ≤ m ∧ m ≤ 4) (ha : ∀ i, i < m → -1099511627776 ≤ a i ∧ a i ≤ 1099511627776) (hd : 0 ≤ d ∧ d ≤ 60) : ckC m a d = 0 := by
  unfold ckC ckP
  simp only [hm, and_self, if_true, wiR_t ha, hd]
theorem u8w {x : Int} (h : 0 ≤ x ∧ x ≤ 255) : IntKind.i64.wrap x = x := wrap_in (inR_of (by unfold InR; omega))
/-- The last number of a path stays. -/
theorem lt_last (z : Nat → Int) (D : Nat) (hD : D ≤ 3) (k : Nat) (hk : k ≤ 59) : ltP (D + 1) z k D = z D := by
  rw [← ltP_eq (by omega) (by omega) (by omega)]
  have w0 : wy k 0 = 1 := rfl
  have h4 : D = 0 ∨ D = 1 ∨ D = 2 ∨ D = 3 := by omega
  rw [plc4]
  rcases h4 with rfl | rfl | rfl | rfl
  · show z 0 + 0 * _ + 0 * _ + 0 * _ = z 0; simp
  · show z 1 + 0 * _ + 0 * _ + 0 * _ = z 1; simp
  · show z 2 + 0 * _ + 0 * _ + 0 * _ = z 2; simp
  · show z 3 + 0 * _ + 0 * _ + 0 * _ = z 3; simp
theorem lt_first (z : Nat → Int) (m : Nat) (k : Nat) : ltP m z k 0 = plc z k m := rfl
theorem plc_dif (z : Nat → Int) (D : Nat) (hD : D ≤ 3) (k : Nat) (hk : k ≤ 59) : plc z (k + 1) (D + 1) - plc z k (D + 1) = plc (fun i => z (1 + i)) k D := by
  have h1 := plc_step (cut (D + 1) z) (d := k) (by omega)
  rw [plc_cut 4 (by omega), plc_cut 4 (by omega)] at h1
  rw [h1, ← plc_cut (m := D) (a := fun i => z (1 + i)) 4 (by omega)]
  refine plc_congr 4 fun i hi => ?_
  unfold dfc cut
  by_cases h3 : i < 3
  · rw [if_pos h3]
    by_cases h5 : i < D
    · rw [if_pos h5]
      show (if i + 1 < D + 1 then z (i + 1) else 0) = z (1 + i)
      rw [if_pos (by omega), Nat.add_comm]
    · rw [if_neg h5]
      show (if i + 1 < D + 1 then z (i + 1) else 0) = 0
      rw [if_neg (by omega)]
  · rw [if_neg h3, if_neg (by omega)]
set_option maxHeartbeats 16000000 in
theorem lawStill (h : As.H) (x : Int) (hx : 0 ≤ x ∧ x ≤ 255) (p : Nat → Int) (y : Int) (hy : 0 ≤ y ∧ y ≤ 255) :
    CallOk Try.prog 14 [.int .u8 x, byV p, .int .u8 y] h (.bool true) h := by
  have kWk := fun h : As.H => wwhole.everywhere rfl h
  have ex := u8w hx
  have ey := u8w hy
  obtain ⟨D, eD, hD⟩ : ∃ D : Nat, (IntKind.i64.wrap x).tmod 4 = D ∧ D ≤ 3 := by
    rw [ex, Int.tmod_eq_emod_of_nonneg hx.1]
    exact ⟨(x % 4).toNat, by omega, by omega⟩
  obtain ⟨K, eK, hK⟩ : ∃ K : Nat, (IntKind.i64.wrap y).tmod 60 = K ∧ K ≤ 59 := by
    rw [ey, Int.tmod_eq_emod_of_nonneg hy.1]
    exact ⟨(y % 60).toNat, by omega, by omega⟩
  have y1 : InR ((IntKind.i64.wrap x).tmod 4) := by rw [eD]; unfold InR; omega
  have y2 : InR ((IntKind.i64.wrap y).tmod 60) := by rw [eK]; unfold InR; omega
  have y3 : InR ((IntKind.i64.wrap y).tmod 60 + 1) := by rw [eK]; unfold InR; omega
  have kG := fun h' => given_ok h' p D hD
  have hz := gvF_bd p
  generalize gvF p = z at *
  have hz' : ∀ i, -1099511627776 ≤ z i ∧ z i ≤ 1099511627776 := fun i => by have := hz i; omega
  have k1 := fun h' => at_ok h' false (D + 1) z K (by omega)
  have k2 := fun h' => at_ok h' false (D + 1) z ((K : Int) + 1) (by omega)
  have k3 := fun h' => laterP_ok h' false (D + 1) z K (by omega)
  have c1 := ckC_0 (m := D + 1) (a := z) (d := K) (by omega) (fun i _ => hz' i) (by omega)
  have c2 := ckC_0 (m := D + 1) (a := z) (d := (K : Int) + 1) (by omega) (fun i _ => hz' i) (by omega)
  unfold atP at k1 k2
  rw [c1, if_pos rfl, show (K : Int).toNat = K from rfl] at k1
  rw [c2, if_pos rfl, show ((K : Int) + 1).toNat = K + 1 from by omega] at k2
  rw [c1, if_pos rfl, show (K : Int).toNat = K from rfl] at k3
  have f1 := lt_first z (D + 1) K
  have f2 := lt_last z D hD K hK
  have f3 := plc_dif z D hD K hK
  have b1 := plc_bd (p := z) (d := K) (n := D + 1) (B := 20) (by omega) (by omega) (fun k _ => hz k) (D + 1) (Nat.le_refl _)
  have b2 := plc_bd (p := z) (d := K + 1) (n := D + 1) (B := 20) (by omega) (by omega) (fun k _ => hz k) (D + 1) (Nat.le_refl _)
  have k4 : 1 ≤ D → ∀ (h' : As.H) ex, CallOk Try.prog 17 [.rsl ex 1 D (iG fun i => z (1 + i)), .int .i64 K] h' (.tup [.int .i64 (plc (fun i => z (1 + i)) K D), .int .i64 0]) h' := fun h1 h' ex => by
    have k := at_ok h' ex D (fun i => z (1 + i)) K (by omega)
    have c3 := ckC_0 (m := D) (a := fun i => z (1 + i)) (d := K) (by omega) (fun i _ => hz' _) (by omega)
    unfold atP at k
    rw [c3, if_pos rfl, show (K : Int).toNat = K from rfl] at k
    exact k
  have p0 : D = 0 → plc z K (D + 1) = z 0 ∧ plc z (K + 1) (D + 1) = z 0 := fun h => by
    subst h
    have e : ∀ d, plc z d 1 = 0 + z 0 * wy d 0 := fun d => rfl
    have w0 : ∀ d, wy d 0 = 1 := fun d => rfl
    rw [e, e, w0, w0]
    simp
  generalize plc (fun i => z (1 + i)) K D = v2 at *
  generalize ltP (D + 1) z K = L at *
  generalize plc z K (D + 1) = v0 at *
  generalize plc z (K + 1) (D + 1) = v1 at *
  rw [← eD] at kG
  rw [← eK] at k1 k2 k3 k4
  have h4 : D = 0 ∨ D = 1 ∨ D = 2 ∨ D = 3 := by omega
  rcases h4 with rfl | rfl | rfl | rfl
  · obtain ⟨q0, q1⟩ := p0 rfl
    refine CallOk.run0 Try.func14 rfl rfl rfl rfl rfl (WpR.of_vc ?_)
    (conv => whnf); (repeat' (first | ((with_reducible refine ifb_mk (fun hc => ?_) (fun hc => ?_)) <;> ((try simp only [decide_eq_true_eq, decide_eq_false_iff_not, Bool.not_eq_true', Bool.not_eq_false', Int.not_lt, Int.not_le, ne_eq, Decidable.not_not, beq_iff_eq, List.cons.injEq, and_true] at hc); (first | (exfalso; omega) | exact absurd True.intro hc | conv => whnf))) | ((with_reducible refine And.intro True.intro ?_); conv => whnf) | ((with_reducible refine grd_and ?_); refine And.intro (y1) ?_; conv => whnf) | ((with_reducible refine grd_and ?_); refine And.intro (y2) ?_; conv => whnf) | ((with_reducible refine grd_and ?_); refine And.intro (y3) ?_; conv => whnf) | ((with_reducible refine CallX.all ?_); refine CallW.of_ok (kG _) ?_; conv => whnf) | ((with_reducible refine CallX.all ?_); refine CallW.of_ok (k1 _) ?_; conv => whnf) | ((with_reducible refine CallX.all ?_); refine CallW.of_ok (k2 _) ?_; conv => whnf) | ((with_reducible refine CallX.all ?_); refine CallW.of_ok (k3 _) ?_; conv => whnf) | ((with_reducible refine grd_ex ?_); refine ex_ok (kWk _) ?_; conv => whnf) | ((with_reducible refine CallX.all ?_); refine CallW.of_ok (kWk _) ?_; conv => whnf) | (((with_reducible refine idxP_mk (k := 0) ?hh ?_); (case hh => exact eD)); conv => whnf) | ((with_reducible refine WpR.draw (id := 7) mixed [0, 1, 2, 3, 4, 5, 6, 7, 8, 9, 10, 11, 12, 13, 14, 15, 16, 17, 18, 19, 20, 21, 22, 23, 24, 25, 26, 27, 28, 29, 30, 31, 32, 33, 34] [0, 1, 3, 7, 15, 31, 63, 127, 255, 511, 1023, 2047, 4095, 2047, 10239, 32767, 65535, 131071, 262143, 524287, 1048575, 262143, 4194303, 8388607, 16777215, 33554431, 33554431, 134217727, 268435455, 33554431, 33554431, 1644167167, 3791650815, 8589934591, 17179869183] ?hh ?_); (case hh => kernel_rfl); conv => whnf) | ((with_reducible refine And.intro ?hh ?_); (case hh => exact condA); conv => whnf) | fail))
    all_goals first | (exfalso; omega) | (refine ⟨[], ?_, rfl, rfl, trivial, trivs⟩; simp only [renV, renL]; (first | done | rfl | (simp; done) | (simp; omega) | grind))
  · have k4 := k4 (by omega)
    refine CallOk.run0 Try.func14 rfl rfl rfl rfl rfl (WpR.of_vc ?_)
    (conv => whnf); (repeat' (first | ((with_reducible refine ifb_mk (fun hc => ?_) (fun hc => ?_)) <;> ((try simp only [decide_eq_true_eq, decide_eq_false_iff_not, Bool.not_eq_true', Bool.not_eq_false', Int.not_lt, Int.not_le, ne_eq, Decidable.not_not, beq_iff_eq, List.cons.injEq, and_true] at hc); (first | (exfalso; omega) | exact absurd True.intro hc | conv => whnf))) | ((with_reducible refine And.intro True.intro ?_); conv => whnf) | ((with_reducible refine grd_and ?_); refine And.intro (y1) ?_; conv => whnf) | ((with_reducible refine grd_and ?_); refine And.intro (y2) ?_; conv => whnf) | ((with_reducible refine grd_and ?_); refine And.intro (y3) ?_; conv => whnf) | ((with_reducible refine CallX.all ?_); refine CallW.of_ok (kG _) ?_; conv => whnf) | ((with_reducible refine CallX.all ?_); refine CallW.of_ok (k1 _) ?_; conv => whnf) | ((with_reducible refine CallX.all ?_); refine CallW.of_ok (k2 _) ?_; conv => whnf) | ((with_reducible refine CallX.all ?_); refine CallW.of_ok (k3 _) ?_; conv => whnf) | ((with_reducible refine CallX.all ?_); refine CallW.of_ok (k4 _ _) ?_; conv => whnf) | ((with_reducible refine grd_ex ?_); refine ex_ok (kWk _) ?_; conv => whnf) | ((with_reducible refine CallX.all ?_); refine CallW.of_ok (kWk _) ?_; conv => whnf) | (((with_reducible refine idxP_mk (k := 1) ?hh ?_); (case hh => exact eD)); conv => whnf) | ((with_reducible refine WpR.draw (id := 7) mixed [0, 1, 2, 3, 4, 5, 6, 7, 8, 9, 10, 11, 12, 13, 14, 15, 16, 17, 18, 19, 20, 21, 22, 23, 24, 25, 26, 27, 28, 29, 30, 31, 32, 33, 34] [0, 1, 3, 7, 15, 31, 63, 127, 255, 511, 1023, 2047, 4095, 2047, 10239, 32767, 65535, 131071, 262143, 524287, 1048575, 262143, 4194303, 8388607, 16777215, 33554431, 33554431, 134217727, 268435455, 33554431, 33554431, 1644167167, 3791650815, 8589934591, 17179869183] ?hh ?_); (case hh => kernel_rfl); conv => whnf) | ((with_reducible refine And.intro ?hh ?_); (case hh => exact condA); conv => whnf) | fail))
    all_goals first | (exfalso; omega) | (refine ⟨[], ?_, rfl, rfl, trivial, trivs⟩; simp only [renV, renL]; (first | done | rfl | (simp; done) | (simp; omega) | grind))
  · have k4 := k4 (by omega)
    refine CallOk.run0 Try.func14 rfl rfl rfl rfl rfl (WpR.of_vc ?_)
    (conv => whnf); (repeat' (first | ((with_reducible refine ifb_mk (fun hc => ?_) (fun hc => ?_)) <;> ((try simp only [decide_eq_true_eq, decide_eq_false_iff_not, Bool.not_eq_true', Bool.not_eq_false', Int.not_lt, Int.not_le, ne_eq, Decidable.not_not, beq_iff_eq, List.cons.injEq, and_true] at hc); (first | (exfalso; omega) | exact absurd True.intro hc | conv => whnf))) | ((with_reducible refine And.intro True.intro ?_); conv => whnf) | ((with_reducible refine grd_and ?_); refine And.intro (y1) ?_; conv => whnf) | ((with_reducible refine grd_and ?_); refine And.intro (y2) ?_; conv => whnf) | ((with_reducible refine grd_and ?_); refine And.intro (y3) ?_; conv => whnf) | ((with_reducible refine CallX.all ?_); refine CallW.of_ok (kG _) ?_; conv => whnf) | ((with_reducible refine CallX.all ?_); refine CallW.of_ok (k1 _) ?_; conv => whnf) | ((with_reducible refine CallX.all ?_); refine CallW.of_ok (k2 _) ?_; conv => whnf) | ((with_reducible refine CallX.all ?_); refine CallW.of_ok (k3 _) ?_; conv => whnf) | ((with_reducible refine CallX.all ?_); refine CallW.of_ok (k4 _ _) ?_; conv => whnf) | ((with_reducible refine grd_ex ?_); refine ex_ok (kWk _) ?_; conv => whnf) | ((with_reducible refine CallX.all ?_); refine CallW.of_ok (kWk _) ?_; conv => whnf) | (((with_reducible refine idxP_mk (k := 2) ?hh ?_); (case hh => exact eD)); conv => whnf) | ((with_reducible refine WpR.draw (id := 7) mixed [0, 1, 2, 3, 4, 5, 6, 7, 8, 9, 10, 11, 12, 13, 14, 15, 16, 17, 18, 19, 20, 21, 22, 23, 24, 25, 26, 27, 28, 29, 30, 31, 32, 33, 34] [0, 1, 3, 7, 15, 31, 63, 127, 255, 511, 1023, 2047, 4095, 2047, 10239, 32767, 65535, 131071, 262143, 524287, 1048575, 262143, 4194303, 8388607, 16777215, 33554431, 33554431, 134217727, 268435455, 33554431, 33554431, 1644167167, 3791650815, 8589934591, 17179869183] ?hh ?_); (case hh => kernel_rfl); conv => whnf) | ((with_reducible refine And.intro ?hh ?_); (case hh => exact condA); conv => whnf) | fail))
    all_goals first | (exfalso; omega) | (refine ⟨[], ?_, rfl, rfl, trivial, trivs⟩; simp only [renV, renL]; (first | done | rfl | (simp; done) | (simp; omega) | grind))
  · have k4 := k4 (by omega)
    refine CallOk.run0 Try.func14 rfl rfl rfl rfl rfl (WpR.of_vc ?_)
    (conv => whnf); (repeat' (first | ((with_reducible refine ifb_mk (fun hc => ?_) (fun hc => ?_)) <;> ((try simp only [decide_eq_true_eq, decide_eq_false_iff_not, Bool.not_eq_true', Bool.not_eq_false', Int.not_lt, Int.not_le, ne_eq, Decidable.not_not, beq_iff_eq, List.cons.injEq, and_true] at hc); (first | (exfalso; omega) | exact absurd True.intro hc | conv => whnf))) | ((with_reducible refine And.intro True.intro ?_); conv => whnf) | ((with_reducible refine grd_and ?_); refine And.intro (y1) ?_; conv => whnf) | ((with_reducible refine grd_and ?_); refine And.intro (y2) ?_; conv => whnf) | ((with_reducible refine grd_and ?_); refine And.intro (y3) ?_; conv => whnf) | ((with_reducible refine CallX.all ?_); refine CallW.of_ok (kG _) ?_; conv => whnf) | ((with_reducible refine CallX.all ?_); refine CallW.of_ok (k1 _) ?_; conv => whnf) | ((with_reducible refine CallX.all ?_); refine CallW.of_ok (k2 _) ?_; conv => whnf) | ((with_reducible refine CallX.all ?_); refine CallW.of_ok (k3 _) ?_; conv => whnf) | ((with_reducible refine CallX.all ?_); refine CallW.of_ok (k4 _ _) ?_; conv => whnf) | ((with_reducible refine grd_ex ?_); refine ex_ok (kWk _) ?_; conv => whnf) | ((with_reducible refine CallX.all ?_); refine CallW.of_ok (kWk _) ?_; conv => whnf) | (((with_reducible refine idxP_mk (k := 3) ?hh ?_); (case hh => exact eD)); conv => whnf) | ((with_reducible refine WpR.draw (id := 7) mixed [0, 1, 2, 3, 4, 5, 6, 7, 8, 9, 10, 11, 12, 13, 14, 15, 16, 17, 18, 19, 20, 21, 22, 23, 24, 25, 26, 27, 28, 29, 30, 31, 32, 33, 34] [0, 1, 3, 7, 15, 31, 63, 127, 255, 511, 1023, 2047, 4095, 2047, 10239, 32767, 65535, 131071, 262143, 524287, 1048575, 262143, 4194303, 8388607, 16777215, 33554431, 33554431, 134217727, 268435455, 33554431, 33554431, 1644167167, 3791650815, 8589934591, 17179869183] ?hh ?_); (case hh => kernel_rfl); conv => whnf) | ((with_reducible refine And.intro ?hh ?_); (case hh => exact condA); conv => whnf) | fail))
    all_goals first | (exfalso; omega) | (refine ⟨[], ?_, rfl, rfl, trivial, trivs⟩; simp only [renV, renL]; (first | done | rfl | (simp; done) | (simp; omega) | grind))
end Go.Proofs.K
