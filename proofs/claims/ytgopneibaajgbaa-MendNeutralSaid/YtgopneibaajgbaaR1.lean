/- What the functions answer that the laws call, one after another (R1). -/
import Derived.Test.YtgopneibaajgbaaAs6
import Derived.Test.YtgopneibaajgbaaB1
import Derived.Test.YtgopneibaajgbaaB4

set_option linter.unusedVariables false
namespace Go.Proofs.H
open Go.As
set_option maxRecDepth 20000
set_option linter.unusedVariables false
set_option linter.unusedSimpArgs false

/-! ### The definitions: neighbours -/

def eI (x : Int) : List V := [.int .i64 x]
theorem eI_len (x : Int) : (eI x).length = 1 := rfl
theorem eI_bare (x : Int) : ∀ v ∈ eI x, bare0 v = true := fun v h => by rw [List.mem_singleton.1 h]; rfl
/-- The neighbours of a place, in their order. -/
def bsL (W H i : Nat) : List Nat := (((if nbP W H i 0 then [nbI W i 0] else []) ++ (if nbP W H i 1 then [nbI W i 1] else [])) ++ (if nbP W H i 2 then [nbI W i 2] else [])) ++ (if nbP W H i 3 then [nbI W i 3] else [])
def iL (L : List Nat) : Nat → Int := fun j => (L.getD j 0 : Nat)
theorem bsL_len (W H i : Nat) : (bsL W H i).length ≤ 4 := by
  unfold bsL
  (repeat' split) <;> simp
set_option maxHeartbeats 16000000 in
theorem beside_new (h : As.H) (W H i : Nat) (hW : 1 ≤ W ∧ W ≤ 6) (hH : 1 ≤ H ∧ H ≤ 6) (hi : i < W * H) (r : List Int) (hr : r = ((bsL W H i).map fun x : Nat => (x : Int)).reverse) :
    CallOk Try.prog 46 [.int .i64 W, .int .i64 H, .int .i64 i] h (grV (h.n + 0) r.length) (addBs h (gNew 1 eI r)) := by
  have hwh := wh_le hW hH
  have h3 : i % W < W := Nat.mod_lt _ (by omega)
  have h4 : i / W < H := Nat.div_lt_of_lt_mul hi
  have e0 := Nat.div_add_mod i W
  have e1 : ((i : Int)).tmod W = ((i % W : Nat) : Int) := by rw [Int.tmod_eq_emod_of_nonneg (by omega)]; exact (Int.natCast_emod i W).symm
  have e2 : ((i : Int)).tdiv W = ((i / W : Nat) : Int) := by rw [Int.tdiv_eq_ediv_of_nonneg (by omega)]; exact (Int.natCast_ediv i W).symm
  have y0 : (W : Int) ≠ 0 := by omega
  have q0 : nbP W H i 0 = Nat.blt 0 (i / W) := rfl
  have q1 : nbP W H i 1 = Nat.blt 0 (i % W) := rfl
  have q2 : nbP W H i 2 = Nat.blt (i % W + 1) W := rfl
  have q3 : nbP W H i 3 = Nat.blt (i / W + 1) H := rfl
  have s0 : nbP W H i 0 = true → ((nbI W i 0 : Nat) : Int) = (i : Int) - W := fun h => by
    rw [q0, Nat.blt_eq] at h
    have : W * 1 ≤ W * (i / W) := Nat.mul_le_mul_left W h
    show ((i - W : Nat) : Int) = _; omega
  have s1 : nbP W H i 1 = true → ((nbI W i 1 : Nat) : Int) = (i : Int) - 1 := fun h => by
    rw [q1, Nat.blt_eq] at h
    have h1 : i % W ≤ i := Nat.mod_le _ _
    show ((i - 1 : Nat) : Int) = _; omega
  have s2 : ((nbI W i 2 : Nat) : Int) = (i : Int) + 1 := rfl
  have s3 : ((nbI W i 3 : Nat) : Int) = (i : Int) + W := Int.natCast_add i W
  have hx : i % W ≤ 36 := by omega
  have hy : i / W ≤ 36 := by omega
  unfold bsL at hr
  generalize nbI W i 0 = n0 at *
  generalize nbI W i 1 = n1 at *
  generalize nbI W i 2 = n2 at *
  generalize nbI W i 3 = n3 at *
  generalize nbP W H i 0 = b0 at *
  generalize nbP W H i 1 = b1 at *
  generalize nbP W H i 2 = b2 at *
  generalize nbP W H i 3 = b3 at *
  generalize i % W = x at *
  generalize i / W = y at *
  have y1 : InR (((i : Int)).tmod W) := by rw [e1]; unfold InR; omega
  have y2 : InR (((i : Int)).tdiv W) := by rw [e2]; unfold InR; omega
  have hi36 : i < 36 := by omega
  clear e0 h4 hi
  cases b0
  · cases b1
    · cases b2
      · cases b3
        · have w0 : ¬ 0 < y := fun h => by rw [Nat.blt_eq.mpr h] at q0; cases q0
          have w1 : ¬ 0 < x := fun h => by rw [Nat.blt_eq.mpr h] at q1; cases q1
          have w2 : ¬ x + 1 < W := fun h => by rw [Nat.blt_eq.mpr h] at q2; cases q2
          have w3 : ¬ y + 1 < H := fun h => by rw [Nat.blt_eq.mpr h] at q3; cases q3
          have hr : r = [] := by rw [hr]; rfl
          subst hr
          refine CallOk.runN Try.func46 rfl rfl (argsC := [.int .i64 W, .int .i64 H, .int .i64 i]) (fun N => grV (N + 0) 0) (fun _ => gNew 1 eI []) (Nat.le_of_ble_eq_true rfl) [] (CaL.lt0 rfl) (viewM0 h) (grSh _ _ _ 1 0 _ eI [] (by simp)) rfl (fun i b hi => ⟨b, hi, grBs eI_bare hi⟩) (WpR.of_vc ?_)
          (conv => whnf); (repeat' (first | ((with_reducible refine ifb_mk (fun hc => ?_) (fun hc => ?_)) <;> ((try simp only [decide_eq_true_eq, decide_eq_false_iff_not, Bool.not_eq_true', Bool.not_eq_false', Int.not_lt, Int.not_le, ne_eq, Decidable.not_not, beq_iff_eq, List.cons.injEq, and_true] at hc); (first | (exfalso; omega) | exact absurd True.intro hc | conv => whnf))) | ((with_reducible refine And.intro True.intro ?_); conv => whnf) | ((with_reducible refine WpR.draw (id := 1) mixed [0, 1, 2, 3, 4, 5, 6, 7] [0, 0, 3, 0, 0, 24, 7, 127] ?hh ?_); (case hh => kernel_rfl); conv => whnf) | ((with_reducible refine grd_and ?_); refine And.intro (y0) ?_; conv => whnf) | ((with_reducible refine grd_and ?_); refine And.intro (y1) ?_; conv => whnf) | ((with_reducible refine grd_and ?_); refine And.intro (y2) ?_; conv => whnf) | (refine AppX.nil (n := 1) Nat.zero_lt_one (Nat.le_of_ble_eq_true rfl) ?_; conv => whnf) | (refine AppX.own (n := 1) rfl rfl rfl Nat.zero_lt_one (Nat.le_of_ble_eq_true rfl) ?_; conv => whnf) | ((with_reducible refine And.intro ?hh ?_); (case hh => exact condA); conv => whnf) | fail))
          all_goals first | (exfalso; omega) | exact ⟨[], rfl, rfl, rfl, trivial, trivs⟩
        · have w0 : ¬ 0 < y := fun h => by rw [Nat.blt_eq.mpr h] at q0; cases q0
          have w1 : ¬ 0 < x := fun h => by rw [Nat.blt_eq.mpr h] at q1; cases q1
          have w2 : ¬ x + 1 < W := fun h => by rw [Nat.blt_eq.mpr h] at q2; cases q2
          have w3 : y + 1 < H := Nat.blt_eq.mp q3.symm
          have hr : r = [(i : Int) + W] := by rw [hr, ← s3]; rfl
          subst hr
          refine CallOk.runN Try.func46 rfl rfl (argsC := [.int .i64 W, .int .i64 H, .int .i64 i]) (fun N => grV (N + 0) 1) (fun _ => gNew 1 eI [(i : Int) + W]) (Nat.le_of_ble_eq_true rfl) [] (CaL.lt0 rfl) (viewM0 h) (grSh _ _ _ 1 0 _ eI [(i : Int) + W] (by simp)) rfl (fun i b hi => ⟨b, hi, grBs eI_bare hi⟩) (WpR.of_vc ?_)
          (conv => whnf); (repeat' (first | ((with_reducible refine ifb_mk (fun hc => ?_) (fun hc => ?_)) <;> ((try simp only [decide_eq_true_eq, decide_eq_false_iff_not, Bool.not_eq_true', Bool.not_eq_false', Int.not_lt, Int.not_le, ne_eq, Decidable.not_not, beq_iff_eq, List.cons.injEq, and_true] at hc); (first | (exfalso; omega) | exact absurd True.intro hc | conv => whnf))) | ((with_reducible refine And.intro True.intro ?_); conv => whnf) | ((with_reducible refine WpR.draw (id := 1) mixed [0, 1, 2, 3, 4, 5, 6, 7] [0, 0, 3, 0, 0, 24, 7, 127] ?hh ?_); (case hh => kernel_rfl); conv => whnf) | ((with_reducible refine grd_and ?_); refine And.intro (y0) ?_; conv => whnf) | ((with_reducible refine grd_and ?_); refine And.intro (y1) ?_; conv => whnf) | ((with_reducible refine grd_and ?_); refine And.intro (y2) ?_; conv => whnf) | (refine AppX.nil (n := 1) Nat.zero_lt_one (Nat.le_of_ble_eq_true rfl) ?_; conv => whnf) | (refine AppX.own (n := 1) rfl rfl rfl Nat.zero_lt_one (Nat.le_of_ble_eq_true rfl) ?_; conv => whnf) | ((with_reducible refine And.intro ?hh ?_); (case hh => exact condA); conv => whnf) | fail))
          all_goals first | (exfalso; omega) | exact ⟨[1], rfl, rfl, rfl, ⟨⟨_, rfl, rfl, SubQ.ofL rfl (gR_bare (l := [(i : Int) + W]) eI_bare) (.inr rfl)⟩, ltB_ofLb (gR_bare (l := [(i : Int) + W]) eI_bare), rfl, trivial⟩, trivs⟩
      · cases b3
        · have w0 : ¬ 0 < y := fun h => by rw [Nat.blt_eq.mpr h] at q0; cases q0
          have w1 : ¬ 0 < x := fun h => by rw [Nat.blt_eq.mpr h] at q1; cases q1
          have w2 : x + 1 < W := Nat.blt_eq.mp q2.symm
          have w3 : ¬ y + 1 < H := fun h => by rw [Nat.blt_eq.mpr h] at q3; cases q3
          have hr : r = [(i : Int) + 1] := by rw [hr, ← s2]; rfl
          subst hr
          refine CallOk.runN Try.func46 rfl rfl (argsC := [.int .i64 W, .int .i64 H, .int .i64 i]) (fun N => grV (N + 0) 1) (fun _ => gNew 1 eI [(i : Int) + 1]) (Nat.le_of_ble_eq_true rfl) [] (CaL.lt0 rfl) (viewM0 h) (grSh _ _ _ 1 0 _ eI [(i : Int) + 1] (by simp)) rfl (fun i b hi => ⟨b, hi, grBs eI_bare hi⟩) (WpR.of_vc ?_)
          (conv => whnf); (repeat' (first | ((with_reducible refine ifb_mk (fun hc => ?_) (fun hc => ?_)) <;> ((try simp only [decide_eq_true_eq, decide_eq_false_iff_not, Bool.not_eq_true', Bool.not_eq_false', Int.not_lt, Int.not_le, ne_eq, Decidable.not_not, beq_iff_eq, List.cons.injEq, and_true] at hc); (first | (exfalso; omega) | exact absurd True.intro hc | conv => whnf))) | ((with_reducible refine And.intro True.intro ?_); conv => whnf) | ((with_reducible refine WpR.draw (id := 1) mixed [0, 1, 2, 3, 4, 5, 6, 7] [0, 0, 3, 0, 0, 24, 7, 127] ?hh ?_); (case hh => kernel_rfl); conv => whnf) | ((with_reducible refine grd_and ?_); refine And.intro (y0) ?_; conv => whnf) | ((with_reducible refine grd_and ?_); refine And.intro (y1) ?_; conv => whnf) | ((with_reducible refine grd_and ?_); refine And.intro (y2) ?_; conv => whnf) | (refine AppX.nil (n := 1) Nat.zero_lt_one (Nat.le_of_ble_eq_true rfl) ?_; conv => whnf) | (refine AppX.own (n := 1) rfl rfl rfl Nat.zero_lt_one (Nat.le_of_ble_eq_true rfl) ?_; conv => whnf) | ((with_reducible refine And.intro ?hh ?_); (case hh => exact condA); conv => whnf) | fail))
          all_goals first | (exfalso; omega) | exact ⟨[1], rfl, rfl, rfl, ⟨⟨_, rfl, rfl, SubQ.ofL rfl (gR_bare (l := [(i : Int) + 1]) eI_bare) (.inr rfl)⟩, ltB_ofLb (gR_bare (l := [(i : Int) + 1]) eI_bare), rfl, trivial⟩, trivs⟩
        · have w0 : ¬ 0 < y := fun h => by rw [Nat.blt_eq.mpr h] at q0; cases q0
          have w1 : ¬ 0 < x := fun h => by rw [Nat.blt_eq.mpr h] at q1; cases q1
          have w2 : x + 1 < W := Nat.blt_eq.mp q2.symm
          have w3 : y + 1 < H := Nat.blt_eq.mp q3.symm
          have hr : r = [(i : Int) + W, (i : Int) + 1] := by rw [hr, ← s2, ← s3]; rfl
          subst hr
          refine CallOk.runN Try.func46 rfl rfl (argsC := [.int .i64 W, .int .i64 H, .int .i64 i]) (fun N => grV (N + 0) 2) (fun _ => gNew 1 eI [(i : Int) + W, (i : Int) + 1]) (Nat.le_of_ble_eq_true rfl) [] (CaL.lt0 rfl) (viewM0 h) (grSh _ _ _ 1 0 _ eI [(i : Int) + W, (i : Int) + 1] (by simp)) rfl (fun i b hi => ⟨b, hi, grBs eI_bare hi⟩) (WpR.of_vc ?_)
          (conv => whnf); (repeat' (first | ((with_reducible refine ifb_mk (fun hc => ?_) (fun hc => ?_)) <;> ((try simp only [decide_eq_true_eq, decide_eq_false_iff_not, Bool.not_eq_true', Bool.not_eq_false', Int.not_lt, Int.not_le, ne_eq, Decidable.not_not, beq_iff_eq, List.cons.injEq, and_true] at hc); (first | (exfalso; omega) | exact absurd True.intro hc | conv => whnf))) | ((with_reducible refine And.intro True.intro ?_); conv => whnf) | ((with_reducible refine WpR.draw (id := 1) mixed [0, 1, 2, 3, 4, 5, 6, 7] [0, 0, 3, 0, 0, 24, 7, 127] ?hh ?_); (case hh => kernel_rfl); conv => whnf) | ((with_reducible refine grd_and ?_); refine And.intro (y0) ?_; conv => whnf) | ((with_reducible refine grd_and ?_); refine And.intro (y1) ?_; conv => whnf) | ((with_reducible refine grd_and ?_); refine And.intro (y2) ?_; conv => whnf) | (refine AppX.nil (n := 1) Nat.zero_lt_one (Nat.le_of_ble_eq_true rfl) ?_; conv => whnf) | (refine AppX.own (n := 1) rfl rfl rfl Nat.zero_lt_one (Nat.le_of_ble_eq_true rfl) ?_; conv => whnf) | ((with_reducible refine And.intro ?hh ?_); (case hh => exact condA); conv => whnf) | fail))
          all_goals first | (exfalso; omega) | exact ⟨[3], rfl, rfl, rfl, ⟨⟨_, rfl, rfl, SubQ.ofL rfl (gR_bare (l := [(i : Int) + W, (i : Int) + 1]) eI_bare) (.inr rfl)⟩, ltB_ofLb (gR_bare (l := [(i : Int) + W, (i : Int) + 1]) eI_bare), rfl, trivial⟩, trivs⟩
    · cases b2
      · cases b3
        · have w0 : ¬ 0 < y := fun h => by rw [Nat.blt_eq.mpr h] at q0; cases q0
          have w1 : 0 < x := Nat.blt_eq.mp q1.symm
          have w2 : ¬ x + 1 < W := fun h => by rw [Nat.blt_eq.mpr h] at q2; cases q2
          have w3 : ¬ y + 1 < H := fun h => by rw [Nat.blt_eq.mpr h] at q3; cases q3
          have s1 := s1 rfl
          have hr : r = [(i : Int) - 1] := by rw [hr, ← s1]; rfl
          subst hr
          refine CallOk.runN Try.func46 rfl rfl (argsC := [.int .i64 W, .int .i64 H, .int .i64 i]) (fun N => grV (N + 0) 1) (fun _ => gNew 1 eI [(i : Int) - 1]) (Nat.le_of_ble_eq_true rfl) [] (CaL.lt0 rfl) (viewM0 h) (grSh _ _ _ 1 0 _ eI [(i : Int) - 1] (by simp)) rfl (fun i b hi => ⟨b, hi, grBs eI_bare hi⟩) (WpR.of_vc ?_)
          (conv => whnf); (repeat' (first | ((with_reducible refine ifb_mk (fun hc => ?_) (fun hc => ?_)) <;> ((try simp only [decide_eq_true_eq, decide_eq_false_iff_not, Bool.not_eq_true', Bool.not_eq_false', Int.not_lt, Int.not_le, ne_eq, Decidable.not_not, beq_iff_eq, List.cons.injEq, and_true] at hc); (first | (exfalso; omega) | exact absurd True.intro hc | conv => whnf))) | ((with_reducible refine And.intro True.intro ?_); conv => whnf) | ((with_reducible refine WpR.draw (id := 1) mixed [0, 1, 2, 3, 4, 5, 6, 7] [0, 0, 3, 0, 0, 24, 7, 127] ?hh ?_); (case hh => kernel_rfl); conv => whnf) | ((with_reducible refine grd_and ?_); refine And.intro (y0) ?_; conv => whnf) | ((with_reducible refine grd_and ?_); refine And.intro (y1) ?_; conv => whnf) | ((with_reducible refine grd_and ?_); refine And.intro (y2) ?_; conv => whnf) | (refine AppX.nil (n := 1) Nat.zero_lt_one (Nat.le_of_ble_eq_true rfl) ?_; conv => whnf) | (refine AppX.own (n := 1) rfl rfl rfl Nat.zero_lt_one (Nat.le_of_ble_eq_true rfl) ?_; conv => whnf) | ((with_reducible refine And.intro ?hh ?_); (case hh => exact condA); conv => whnf) | fail))
          all_goals first | (exfalso; omega) | exact ⟨[1], rfl, rfl, rfl, ⟨⟨_, rfl, rfl, SubQ.ofL rfl (gR_bare (l := [(i : Int) - 1]) eI_bare) (.inr rfl)⟩, ltB_ofLb (gR_bare (l := [(i : Int) - 1]) eI_bare), rfl, trivial⟩, trivs⟩
        · have w0 : ¬ 0 < y := fun h => by rw [Nat.blt_eq.mpr h] at q0; cases q0
          have w1 : 0 < x := Nat.blt_eq.mp q1.symm
          have w2 : ¬ x + 1 < W := fun h => by rw [Nat.blt_eq.mpr h] at q2; cases q2
          have w3 : y + 1 < H := Nat.blt_eq.mp q3.symm
          have s1 := s1 rfl
          have hr : r = [(i : Int) + W, (i : Int) - 1] := by rw [hr, ← s1, ← s3]; rfl
          subst hr
          refine CallOk.runN Try.func46 rfl rfl (argsC := [.int .i64 W, .int .i64 H, .int .i64 i]) (fun N => grV (N + 0) 2) (fun _ => gNew 1 eI [(i : Int) + W, (i : Int) - 1]) (Nat.le_of_ble_eq_true rfl) [] (CaL.lt0 rfl) (viewM0 h) (grSh _ _ _ 1 0 _ eI [(i : Int) + W, (i : Int) - 1] (by simp)) rfl (fun i b hi => ⟨b, hi, grBs eI_bare hi⟩) (WpR.of_vc ?_)
          (conv => whnf); (repeat' (first | ((with_reducible refine ifb_mk (fun hc => ?_) (fun hc => ?_)) <;> ((try simp only [decide_eq_true_eq, decide_eq_false_iff_not, Bool.not_eq_true', Bool.not_eq_false', Int.not_lt, Int.not_le, ne_eq, Decidable.not_not, beq_iff_eq, List.cons.injEq, and_true] at hc); (first | (exfalso; omega) | exact absurd True.intro hc | conv => whnf))) | ((with_reducible refine And.intro True.intro ?_); conv => whnf) | ((with_reducible refine WpR.draw (id := 1) mixed [0, 1, 2, 3, 4, 5, 6, 7] [0, 0, 3, 0, 0, 24, 7, 127] ?hh ?_); (case hh => kernel_rfl); conv => whnf) | ((with_reducible refine grd_and ?_); refine And.intro (y0) ?_; conv => whnf) | ((with_reducible refine grd_and ?_); refine And.intro (y1) ?_; conv => whnf) | ((with_reducible refine grd_and ?_); refine And.intro (y2) ?_; conv => whnf) | (refine AppX.nil (n := 1) Nat.zero_lt_one (Nat.le_of_ble_eq_true rfl) ?_; conv => whnf) | (refine AppX.own (n := 1) rfl rfl rfl Nat.zero_lt_one (Nat.le_of_ble_eq_true rfl) ?_; conv => whnf) | ((with_reducible refine And.intro ?hh ?_); (case hh => exact condA); conv => whnf) | fail))
          all_goals first | (exfalso; omega) | exact ⟨[3], rfl, rfl, rfl, ⟨⟨_, rfl, rfl, SubQ.ofL rfl (gR_bare (l := [(i : Int) + W, (i : Int) - 1]) eI_bare) (.inr rfl)⟩, ltB_ofLb (gR_bare (l := [(i : Int) + W, (i : Int) - 1]) eI_bare), rfl, trivial⟩, trivs⟩
      · cases b3
        · have w0 : ¬ 0 < y := fun h => by rw [Nat.blt_eq.mpr h] at q0; cases q0
          have w1 : 0 < x := Nat.blt_eq.mp q1.symm
          have w2 : x + 1 < W := Nat.blt_eq.mp q2.symm
          have w3 : ¬ y + 1 < H := fun h => by rw [Nat.blt_eq.mpr h] at q3; cases q3
          have s1 := s1 rfl
          have hr : r = [(i : Int) + 1, (i : Int) - 1] := by rw [hr, ← s1, ← s2]; rfl
          subst hr
          refine CallOk.runN Try.func46 rfl rfl (argsC := [.int .i64 W, .int .i64 H, .int .i64 i]) (fun N => grV (N + 0) 2) (fun _ => gNew 1 eI [(i : Int) + 1, (i : Int) - 1]) (Nat.le_of_ble_eq_true rfl) [] (CaL.lt0 rfl) (viewM0 h) (grSh _ _ _ 1 0 _ eI [(i : Int) + 1, (i : Int) - 1] (by simp)) rfl (fun i b hi => ⟨b, hi, grBs eI_bare hi⟩) (WpR.of_vc ?_)
          (conv => whnf); (repeat' (first | ((with_reducible refine ifb_mk (fun hc => ?_) (fun hc => ?_)) <;> ((try simp only [decide_eq_true_eq, decide_eq_false_iff_not, Bool.not_eq_true', Bool.not_eq_false', Int.not_lt, Int.not_le, ne_eq, Decidable.not_not, beq_iff_eq, List.cons.injEq, and_true] at hc); (first | (exfalso; omega) | exact absurd True.intro hc | conv => whnf))) | ((with_reducible refine And.intro True.intro ?_); conv => whnf) | ((with_reducible refine WpR.draw (id := 1) mixed [0, 1, 2, 3, 4, 5, 6, 7] [0, 0, 3, 0, 0, 24, 7, 127] ?hh ?_); (case hh => kernel_rfl); conv => whnf) | ((with_reducible refine grd_and ?_); refine And.intro (y0) ?_; conv => whnf) | ((with_reducible refine grd_and ?_); refine And.intro (y1) ?_; conv => whnf) | ((with_reducible refine grd_and ?_); refine And.intro (y2) ?_; conv => whnf) | (refine AppX.nil (n := 1) Nat.zero_lt_one (Nat.le_of_ble_eq_true rfl) ?_; conv => whnf) | (refine AppX.own (n := 1) rfl rfl rfl Nat.zero_lt_one (Nat.le_of_ble_eq_true rfl) ?_; conv => whnf) | ((with_reducible refine And.intro ?hh ?_); (case hh => exact condA); conv => whnf) | fail))
          all_goals first | (exfalso; omega) | exact ⟨[3], rfl, rfl, rfl, ⟨⟨_, rfl, rfl, SubQ.ofL rfl (gR_bare (l := [(i : Int) + 1, (i : Int) - 1]) eI_bare) (.inr rfl)⟩, ltB_ofLb (gR_bare (l := [(i : Int) + 1, (i : Int) - 1]) eI_bare), rfl, trivial⟩, trivs⟩
        · have w0 : ¬ 0 < y := fun h => by rw [Nat.blt_eq.mpr h] at q0; cases q0
          have w1 : 0 < x := Nat.blt_eq.mp q1.symm
          have w2 : x + 1 < W := Nat.blt_eq.mp q2.symm
          have w3 : y + 1 < H := Nat.blt_eq.mp q3.symm
          have s1 := s1 rfl
          have hr : r = [(i : Int) + W, (i : Int) + 1, (i : Int) - 1] := by rw [hr, ← s1, ← s2, ← s3]; rfl
          subst hr
          refine CallOk.runN Try.func46 rfl rfl (argsC := [.int .i64 W, .int .i64 H, .int .i64 i]) (fun N => grV (N + 0) 3) (fun _ => gNew 1 eI [(i : Int) + W, (i : Int) + 1, (i : Int) - 1]) (Nat.le_of_ble_eq_true rfl) [] (CaL.lt0 rfl) (viewM0 h) (grSh _ _ _ 1 0 _ eI [(i : Int) + W, (i : Int) + 1, (i : Int) - 1] (by simp)) rfl (fun i b hi => ⟨b, hi, grBs eI_bare hi⟩) (WpR.of_vc ?_)
          (conv => whnf); (repeat' (first | ((with_reducible refine ifb_mk (fun hc => ?_) (fun hc => ?_)) <;> ((try simp only [decide_eq_true_eq, decide_eq_false_iff_not, Bool.not_eq_true', Bool.not_eq_false', Int.not_lt, Int.not_le, ne_eq, Decidable.not_not, beq_iff_eq, List.cons.injEq, and_true] at hc); (first | (exfalso; omega) | exact absurd True.intro hc | conv => whnf))) | ((with_reducible refine And.intro True.intro ?_); conv => whnf) | ((with_reducible refine WpR.draw (id := 1) mixed [0, 1, 2, 3, 4, 5, 6, 7] [0, 0, 3, 0, 0, 24, 7, 127] ?hh ?_); (case hh => kernel_rfl); conv => whnf) | ((with_reducible refine grd_and ?_); refine And.intro (y0) ?_; conv => whnf) | ((with_reducible refine grd_and ?_); refine And.intro (y1) ?_; conv => whnf) | ((with_reducible refine grd_and ?_); refine And.intro (y2) ?_; conv => whnf) | (refine AppX.nil (n := 1) Nat.zero_lt_one (Nat.le_of_ble_eq_true rfl) ?_; conv => whnf) | (refine AppX.own (n := 1) rfl rfl rfl Nat.zero_lt_one (Nat.le_of_ble_eq_true rfl) ?_; conv => whnf) | ((with_reducible refine And.intro ?hh ?_); (case hh => exact condA); conv => whnf) | fail))
          all_goals first | (exfalso; omega) | exact ⟨[5], rfl, rfl, rfl, ⟨⟨_, rfl, rfl, SubQ.ofL rfl (gR_bare (l := [(i : Int) + W, (i : Int) + 1, (i : Int) - 1]) eI_bare) (.inr rfl)⟩, ltB_ofLb (gR_bare (l := [(i : Int) + W, (i : Int) + 1, (i : Int) - 1]) eI_bare), rfl, trivial⟩, trivs⟩
  · cases b1
    · cases b2
      · cases b3
        · have w0 : 0 < y := Nat.blt_eq.mp q0.symm
          have w1 : ¬ 0 < x := fun h => by rw [Nat.blt_eq.mpr h] at q1; cases q1
          have w2 : ¬ x + 1 < W := fun h => by rw [Nat.blt_eq.mpr h] at q2; cases q2
          have w3 : ¬ y + 1 < H := fun h => by rw [Nat.blt_eq.mpr h] at q3; cases q3
          have s0 := s0 rfl
          have hr : r = [(i : Int) - W] := by rw [hr, ← s0]; rfl
          subst hr
          refine CallOk.runN Try.func46 rfl rfl (argsC := [.int .i64 W, .int .i64 H, .int .i64 i]) (fun N => grV (N + 0) 1) (fun _ => gNew 1 eI [(i : Int) - W]) (Nat.le_of_ble_eq_true rfl) [] (CaL.lt0 rfl) (viewM0 h) (grSh _ _ _ 1 0 _ eI [(i : Int) - W] (by simp)) rfl (fun i b hi => ⟨b, hi, grBs eI_bare hi⟩) (WpR.of_vc ?_)
          (conv => whnf); (repeat' (first | ((with_reducible refine ifb_mk (fun hc => ?_) (fun hc => ?_)) <;> ((try simp only [decide_eq_true_eq, decide_eq_false_iff_not, Bool.not_eq_true', Bool.not_eq_false', Int.not_lt, Int.not_le, ne_eq, Decidable.not_not, beq_iff_eq, List.cons.injEq, and_true] at hc); (first | (exfalso; omega) | exact absurd True.intro hc | conv => whnf))) | ((with_reducible refine And.intro True.intro ?_); conv => whnf) | ((with_reducible refine WpR.draw (id := 1) mixed [0, 1, 2, 3, 4, 5, 6, 7] [0, 0, 3, 0, 0, 24, 7, 127] ?hh ?_); (case hh => kernel_rfl); conv => whnf) | ((with_reducible refine grd_and ?_); refine And.intro (y0) ?_; conv => whnf) | ((with_reducible refine grd_and ?_); refine And.intro (y1) ?_; conv => whnf) | ((with_reducible refine grd_and ?_); refine And.intro (y2) ?_; conv => whnf) | (refine AppX.nil (n := 1) Nat.zero_lt_one (Nat.le_of_ble_eq_true rfl) ?_; conv => whnf) | (refine AppX.own (n := 1) rfl rfl rfl Nat.zero_lt_one (Nat.le_of_ble_eq_true rfl) ?_; conv => whnf) | ((with_reducible refine And.intro ?hh ?_); (case hh => exact condA); conv => whnf) | fail))
          all_goals first | (exfalso; omega) | exact ⟨[1], rfl, rfl, rfl, ⟨⟨_, rfl, rfl, SubQ.ofL rfl (gR_bare (l := [(i : Int) - W]) eI_bare) (.inr rfl)⟩, ltB_ofLb (gR_bare (l := [(i : Int) - W]) eI_bare), rfl, trivial⟩, trivs⟩
        · have w0 : 0 < y := Nat.blt_eq.mp q0.symm
          have w1 : ¬ 0 < x := fun h => by rw [Nat.blt_eq.mpr h] at q1; cases q1
          have w2 : ¬ x + 1 < W := fun h => by rw [Nat.blt_eq.mpr h] at q2; cases q2
          have w3 : y + 1 < H := Nat.blt_eq.mp q3.symm
          have s0 := s0 rfl
          have hr : r = [(i : Int) + W, (i : Int) - W] := by rw [hr, ← s0, ← s3]; rfl
          subst hr
          refine CallOk.runN Try.func46 rfl rfl (argsC := [.int .i64 W, .int .i64 H, .int .i64 i]) (fun N => grV (N + 0) 2) (fun _ => gNew 1 eI [(i : Int) + W, (i : Int) - W]) (Nat.le_of_ble_eq_true rfl) [] (CaL.lt0 rfl) (viewM0 h) (grSh _ _ _ 1 0 _ eI [(i : Int) + W, (i : Int) - W] (by simp)) rfl (fun i b hi => ⟨b, hi, grBs eI_bare hi⟩) (WpR.of_vc ?_)
          (conv => whnf); (repeat' (first | ((with_reducible refine ifb_mk (fun hc => ?_) (fun hc => ?_)) <;> ((try simp only [decide_eq_true_eq, decide_eq_false_iff_not, Bool.not_eq_true', Bool.not_eq_false', Int.not_lt, Int.not_le, ne_eq, Decidable.not_not, beq_iff_eq, List.cons.injEq, and_true] at hc); (first | (exfalso; omega) | exact absurd True.intro hc | conv => whnf))) | ((with_reducible refine And.intro True.intro ?_); conv => whnf) | ((with_reducible refine WpR.draw (id := 1) mixed [0, 1, 2, 3, 4, 5, 6, 7] [0, 0, 3, 0, 0, 24, 7, 127] ?hh ?_); (case hh => kernel_rfl); conv => whnf) | ((with_reducible refine grd_and ?_); refine And.intro (y0) ?_; conv => whnf) | ((with_reducible refine grd_and ?_); refine And.intro (y1) ?_; conv => whnf) | ((with_reducible refine grd_and ?_); refine And.intro (y2) ?_; conv => whnf) | (refine AppX.nil (n := 1) Nat.zero_lt_one (Nat.le_of_ble_eq_true rfl) ?_; conv => whnf) | (refine AppX.own (n := 1) rfl rfl rfl Nat.zero_lt_one (Nat.le_of_ble_eq_true rfl) ?_; conv => whnf) | ((with_reducible refine And.intro ?hh ?_); (case hh => exact condA); conv => whnf) | fail))
          all_goals first | (exfalso; omega) | exact ⟨[3], rfl, rfl, rfl, ⟨⟨_, rfl, rfl, SubQ.ofL rfl (gR_bare (l := [(i : Int) + W, (i : Int) - W]) eI_bare) (.inr rfl)⟩, ltB_ofLb (gR_bare (l := [(i : Int) + W, (i : Int) - W]) eI_bare), rfl, trivial⟩, trivs⟩
      · cases b3
        · have w0 : 0 < y := Nat.blt_eq.mp q0.symm
          have w1 : ¬ 0 < x := fun h => by rw [Nat.blt_eq.mpr h] at q1; cases q1
          have w2 : x + 1 < W := Nat.blt_eq.mp q2.symm
          have w3 : ¬ y + 1 < H := fun h => by rw [Nat.blt_eq.mpr h] at q3; cases q3
          have s0 := s0 rfl
          have hr : r = [(i : Int) + 1, (i : Int) - W] := by rw [hr, ← s0, ← s2]; rfl
          subst hr
          refine CallOk.runN Try.func46 rfl rfl (argsC := [.int .i64 W, .int .i64 H, .int .i64 i]) (fun N => grV (N + 0) 2) (fun _ => gNew 1 eI [(i : Int) + 1, (i : Int) - W]) (Nat.le_of_ble_eq_true rfl) [] (CaL.lt0 rfl) (viewM0 h) (grSh _ _ _ 1 0 _ eI [(i : Int) + 1, (i : Int) - W] (by simp)) rfl (fun i b hi => ⟨b, hi, grBs eI_bare hi⟩) (WpR.of_vc ?_)
          (conv => whnf); (repeat' (first | ((with_reducible refine ifb_mk (fun hc => ?_) (fun hc => ?_)) <;> ((try simp only [decide_eq_true_eq, decide_eq_false_iff_not, Bool.not_eq_true', Bool.not_eq_false', Int.not_lt, Int.not_le, ne_eq, Decidable.not_not, beq_iff_eq, List.cons.injEq, and_true] at hc); (first | (exfalso; omega) | exact absurd True.intro hc | conv => whnf))) | ((with_reducible refine And.intro True.intro ?_); conv => whnf) | ((with_reducible refine WpR.draw (id := 1) mixed [0, 1, 2, 3, 4, 5, 6, 7] [0, 0, 3, 0, 0, 24, 7, 127] ?hh ?_); (case hh => kernel_rfl); conv => whnf) | ((with_reducible refine grd_and ?_); refine And.intro (y0) ?_; conv => whnf) | ((with_reducible refine grd_and ?_); refine And.intro (y1) ?_; conv => whnf) | ((with_reducible refine grd_and ?_); refine And.intro (y2) ?_; conv => whnf) | (refine AppX.nil (n := 1) Nat.zero_lt_one (Nat.le_of_ble_eq_true rfl) ?_; conv => whnf) | (refine AppX.own (n := 1) rfl rfl rfl Nat.zero_lt_one (Nat.le_of_ble_eq_true rfl) ?_; conv => whnf) | ((with_reducible refine And.intro ?hh ?_); (case hh => exact condA); conv => whnf) | fail))
          all_goals first | (exfalso; omega) | exact ⟨[3], rfl, rfl, rfl, ⟨⟨_, rfl, rfl, SubQ.ofL rfl (gR_bare (l := [(i : Int) + 1, (i : Int) - W]) eI_bare) (.inr rfl)⟩, ltB_ofLb (gR_bare (l := [(i : Int) + 1, (i : Int) - W]) eI_bare), rfl, trivial⟩, trivs⟩
        · have w0 : 0 < y := Nat.blt_eq.mp q0.symm
          have w1 : ¬ 0 < x := fun h => by rw [Nat.blt_eq.mpr h] at q1; cases q1
          have w2 : x + 1 < W := Nat.blt_eq.mp q2.symm
          have w3 : y + 1 < H := Nat.blt_eq.mp q3.symm
          have s0 := s0 rfl
          have hr : r = [(i : Int) + W, (i : Int) + 1, (i : Int) - W] := by rw [hr, ← s0, ← s2, ← s3]; rfl
          subst hr
          refine CallOk.runN Try.func46 rfl rfl (argsC := [.int .i64 W, .int .i64 H, .int .i64 i]) (fun N => grV (N + 0) 3) (fun _ => gNew 1 eI [(i : Int) + W, (i : Int) + 1, (i : Int) - W]) (Nat.le_of_ble_eq_true rfl) [] (CaL.lt0 rfl) (viewM0 h) (grSh _ _ _ 1 0 _ eI [(i : Int) + W, (i : Int) + 1, (i : Int) - W] (by simp)) rfl (fun i b hi => ⟨b, hi, grBs eI_bare hi⟩) (WpR.of_vc ?_)
          (conv => whnf); (repeat' (first | ((with_reducible refine ifb_mk (fun hc => ?_) (fun hc => ?_)) <;> ((try simp only [decide_eq_true_eq, decide_eq_false_iff_not, Bool.not_eq_true', Bool.not_eq_false', Int.not_lt, Int.not_le, ne_eq, Decidable.not_not, beq_iff_eq, List.cons.injEq, and_true] at hc); (first | (exfalso; omega) | exact absurd True.intro hc | conv => whnf))) | ((with_reducible refine And.intro True.intro ?_); conv => whnf) | ((with_reducible refine WpR.draw (id := 1) mixed [0, 1, 2, 3, 4, 5, 6, 7] [0, 0, 3, 0, 0, 24, 7, 127] ?hh ?_); (case hh => kernel_rfl); conv => whnf) | ((with_reducible refine grd_and ?_); refine And.intro (y0) ?_; conv => whnf) | ((with_reducible refine grd_and ?_); refine And.intro (y1) ?_; conv => whnf) | ((with_reducible refine grd_and ?_); refine And.intro (y2) ?_; conv => whnf) | (refine AppX.nil (n := 1) Nat.zero_lt_one (Nat.le_of_ble_eq_true rfl) ?_; conv => whnf) | (refine AppX.own (n := 1) rfl rfl rfl Nat.zero_lt_one (Nat.le_of_ble_eq_true rfl) ?_; conv => whnf) | ((with_reducible refine And.intro ?hh ?_); (case hh => exact condA); conv => whnf) | fail))
          all_goals first | (exfalso; omega) | exact ⟨[5], rfl, rfl, rfl, ⟨⟨_, rfl, rfl, SubQ.ofL rfl (gR_bare (l := [(i : Int) + W, (i : Int) + 1, (i : Int) - W]) eI_bare) (.inr rfl)⟩, ltB_ofLb (gR_bare (l := [(i : Int) + W, (i : Int) + 1, (i : Int) - W]) eI_bare), rfl, trivial⟩, trivs⟩
    · cases b2
      · cases b3
        · have w0 : 0 < y := Nat.blt_eq.mp q0.symm
          have w1 : 0 < x := Nat.blt_eq.mp q1.symm
          have w2 : ¬ x + 1 < W := fun h => by rw [Nat.blt_eq.mpr h] at q2; cases q2
          have w3 : ¬ y + 1 < H := fun h => by rw [Nat.blt_eq.mpr h] at q3; cases q3
          have s0 := s0 rfl
          have s1 := s1 rfl
          have hr : r = [(i : Int) - 1, (i : Int) - W] := by rw [hr, ← s0, ← s1]; rfl
          subst hr
          refine CallOk.runN Try.func46 rfl rfl (argsC := [.int .i64 W, .int .i64 H, .int .i64 i]) (fun N => grV (N + 0) 2) (fun _ => gNew 1 eI [(i : Int) - 1, (i : Int) - W]) (Nat.le_of_ble_eq_true rfl) [] (CaL.lt0 rfl) (viewM0 h) (grSh _ _ _ 1 0 _ eI [(i : Int) - 1, (i : Int) - W] (by simp)) rfl (fun i b hi => ⟨b, hi, grBs eI_bare hi⟩) (WpR.of_vc ?_)
          (conv => whnf); (repeat' (first | ((with_reducible refine ifb_mk (fun hc => ?_) (fun hc => ?_)) <;> ((try simp only [decide_eq_true_eq, decide_eq_false_iff_not, Bool.not_eq_true', Bool.not_eq_false', Int.not_lt, Int.not_le, ne_eq, Decidable.not_not, beq_iff_eq, List.cons.injEq, and_true] at hc); (first | (exfalso; omega) | exact absurd True.intro hc | conv => whnf))) | ((with_reducible refine And.intro True.intro ?_); conv => whnf) | ((with_reducible refine WpR.draw (id := 1) mixed [0, 1, 2, 3, 4, 5, 6, 7] [0, 0, 3, 0, 0, 24, 7, 127] ?hh ?_); (case hh => kernel_rfl); conv => whnf) | ((with_reducible refine grd_and ?_); refine And.intro (y0) ?_; conv => whnf) | ((with_reducible refine grd_and ?_); refine And.intro (y1) ?_; conv => whnf) | ((with_reducible refine grd_and ?_); refine And.intro (y2) ?_; conv => whnf) | (refine AppX.nil (n := 1) Nat.zero_lt_one (Nat.le_of_ble_eq_true rfl) ?_; conv => whnf) | (refine AppX.own (n := 1) rfl rfl rfl Nat.zero_lt_one (Nat.le_of_ble_eq_true rfl) ?_; conv => whnf) | ((with_reducible refine And.intro ?hh ?_); (case hh => exact condA); conv => whnf) | fail))
          all_goals first | (exfalso; omega) | exact ⟨[3], rfl, rfl, rfl, ⟨⟨_, rfl, rfl, SubQ.ofL rfl (gR_bare (l := [(i : Int) - 1, (i : Int) - W]) eI_bare) (.inr rfl)⟩, ltB_ofLb (gR_bare (l := [(i : Int) - 1, (i : Int) - W]) eI_bare), rfl, trivial⟩, trivs⟩
        · have w0 : 0 < y := Nat.blt_eq.mp q0.symm
          have w1 : 0 < x := Nat.blt_eq.mp q1.symm
          have w2 : ¬ x + 1 < W := fun h => by rw [Nat.blt_eq.mpr h] at q2; cases q2
          have w3 : y + 1 < H := Nat.blt_eq.mp q3.symm
          have s0 := s0 rfl
          have s1 := s1 rfl
          have hr : r = [(i : Int) + W, (i : Int) - 1, (i : Int) - W] := by rw [hr, ← s0, ← s1, ← s3]; rfl
          subst hr
          refine CallOk.runN Try.func46 rfl rfl (argsC := [.int .i64 W, .int .i64 H, .int .i64 i]) (fun N => grV (N + 0) 3) (fun _ => gNew 1 eI [(i : Int) + W, (i : Int) - 1, (i : Int) - W]) (Nat.le_of_ble_eq_true rfl) [] (CaL.lt0 rfl) (viewM0 h) (grSh _ _ _ 1 0 _ eI [(i : Int) + W, (i : Int) - 1, (i : Int) - W] (by simp)) rfl (fun i b hi => ⟨b, hi, grBs eI_bare hi⟩) (WpR.of_vc ?_)
          (conv => whnf); (repeat' (first | ((with_reducible refine ifb_mk (fun hc => ?_) (fun hc => ?_)) <;> ((try simp only [decide_eq_true_eq, decide_eq_false_iff_not, Bool.not_eq_true', Bool.not_eq_false', Int.not_lt, Int.not_le, ne_eq, Decidable.not_not, beq_iff_eq, List.cons.injEq, and_true] at hc); (first | (exfalso; omega) | exact absurd True.intro hc | conv => whnf))) | ((with_reducible refine And.intro True.intro ?_); conv => whnf) | ((with_reducible refine WpR.draw (id := 1) mixed [0, 1, 2, 3, 4, 5, 6, 7] [0, 0, 3, 0, 0, 24, 7, 127] ?hh ?_); (case hh => kernel_rfl); conv => whnf) | ((with_reducible refine grd_and ?_); refine And.intro (y0) ?_; conv => whnf) | ((with_reducible refine grd_and ?_); refine And.intro (y1) ?_; conv => whnf) | ((with_reducible refine grd_and ?_); refine And.intro (y2) ?_; conv => whnf) | (refine AppX.nil (n := 1) Nat.zero_lt_one (Nat.le_of_ble_eq_true rfl) ?_; conv => whnf) | (refine AppX.own (n := 1) rfl rfl rfl Nat.zero_lt_one (Nat.le_of_ble_eq_true rfl) ?_; conv => whnf) | ((with_reducible refine And.intro ?hh ?_); (case hh => exact condA); conv => whnf) | fail))
          all_goals first | (exfalso; omega) | exact ⟨[5], rfl, rfl, rfl, ⟨⟨_, rfl, rfl, SubQ.ofL rfl (gR_bare (l := [(i : Int) + W, (i : Int) - 1, (i : Int) - W]) eI_bare) (.inr rfl)⟩, ltB_ofLb (gR_bare (l := [(i : Int) + W, (i : Int) - 1, (i : Int) - W]) eI_bare), rfl, trivial⟩, trivs⟩
      · cases b3
        · have w0 : 0 < y := Nat.blt_eq.mp q0.symm
          have w1 : 0 < x := Nat.blt_eq.mp q1.symm
          have w2 : x + 1 < W := Nat.blt_eq.mp q2.symm
          have w3 : ¬ y + 1 < H := fun h => by rw [Nat.blt_eq.mpr h] at q3; cases q3
          have s0 := s0 rfl
          have s1 := s1 rfl
          have hr : r = [(i : Int) + 1, (i : Int) - 1, (i : Int) - W] := by rw [hr, ← s0, ← s1, ← s2]; rfl
          subst hr
          refine CallOk.runN Try.func46 rfl rfl (argsC := [.int .i64 W, .int .i64 H, .int .i64 i]) (fun N => grV (N + 0) 3) (fun _ => gNew 1 eI [(i : Int) + 1, (i : Int) - 1, (i : Int) - W]) (Nat.le_of_ble_eq_true rfl) [] (CaL.lt0 rfl) (viewM0 h) (grSh _ _ _ 1 0 _ eI [(i : Int) + 1, (i : Int) - 1, (i : Int) - W] (by simp)) rfl (fun i b hi => ⟨b, hi, grBs eI_bare hi⟩) (WpR.of_vc ?_)
          (conv => whnf); (repeat' (first | ((with_reducible refine ifb_mk (fun hc => ?_) (fun hc => ?_)) <;> ((try simp only [decide_eq_true_eq, decide_eq_false_iff_not, Bool.not_eq_true', Bool.not_eq_false', Int.not_lt, Int.not_le, ne_eq, Decidable.not_not, beq_iff_eq, List.cons.injEq, and_true] at hc); (first | (exfalso; omega) | exact absurd True.intro hc | conv => whnf))) | ((with_reducible refine And.intro True.intro ?_); conv => whnf) | ((with_reducible refine WpR.draw (id := 1) mixed [0, 1, 2, 3, 4, 5, 6, 7] [0, 0, 3, 0, 0, 24, 7, 127] ?hh ?_); (case hh => kernel_rfl); conv => whnf) | ((with_reducible refine grd_and ?_); refine And.intro (y0) ?_; conv => whnf) | ((with_reducible refine grd_and ?_); refine And.intro (y1) ?_; conv => whnf) | ((with_reducible refine grd_and ?_); refine And.intro (y2) ?_; conv => whnf) | (refine AppX.nil (n := 1) Nat.zero_lt_one (Nat.le_of_ble_eq_true rfl) ?_; conv => whnf) | (refine AppX.own (n := 1) rfl rfl rfl Nat.zero_lt_one (Nat.le_of_ble_eq_true rfl) ?_; conv => whnf) | ((with_reducible refine And.intro ?hh ?_); (case hh => exact condA); conv => whnf) | fail))
          all_goals first | (exfalso; omega) | exact ⟨[5], rfl, rfl, rfl, ⟨⟨_, rfl, rfl, SubQ.ofL rfl (gR_bare (l := [(i : Int) + 1, (i : Int) - 1, (i : Int) - W]) eI_bare) (.inr rfl)⟩, ltB_ofLb (gR_bare (l := [(i : Int) + 1, (i : Int) - 1, (i : Int) - W]) eI_bare), rfl, trivial⟩, trivs⟩
        · have w0 : 0 < y := Nat.blt_eq.mp q0.symm
          have w1 : 0 < x := Nat.blt_eq.mp q1.symm
          have w2 : x + 1 < W := Nat.blt_eq.mp q2.symm
          have w3 : y + 1 < H := Nat.blt_eq.mp q3.symm
          have s0 := s0 rfl
          have s1 := s1 rfl
          have hr : r = [(i : Int) + W, (i : Int) + 1, (i : Int) - 1, (i : Int) - W] := by rw [hr, ← s0, ← s1, ← s2, ← s3]; rfl
          subst hr
          refine CallOk.runN Try.func46 rfl rfl (argsC := [.int .i64 W, .int .i64 H, .int .i64 i]) (fun N => grV (N + 0) 4) (fun _ => gNew 1 eI [(i : Int) + W, (i : Int) + 1, (i : Int) - 1, (i : Int) - W]) (Nat.le_of_ble_eq_true rfl) [] (CaL.lt0 rfl) (viewM0 h) (grSh _ _ _ 1 0 _ eI [(i : Int) + W, (i : Int) + 1, (i : Int) - 1, (i : Int) - W] (by simp)) rfl (fun i b hi => ⟨b, hi, grBs eI_bare hi⟩) (WpR.of_vc ?_)
          (conv => whnf); (repeat' (first | ((with_reducible refine ifb_mk (fun hc => ?_) (fun hc => ?_)) <;> ((try simp only [decide_eq_true_eq, decide_eq_false_iff_not, Bool.not_eq_true', Bool.not_eq_false', Int.not_lt, Int.not_le, ne_eq, Decidable.not_not, beq_iff_eq, List.cons.injEq, and_true] at hc); (first | (exfalso; omega) | exact absurd True.intro hc | conv => whnf))) | ((with_reducible refine And.intro True.intro ?_); conv => whnf) | ((with_reducible refine WpR.draw (id := 1) mixed [0, 1, 2, 3, 4, 5, 6, 7] [0, 0, 3, 0, 0, 24, 7, 127] ?hh ?_); (case hh => kernel_rfl); conv => whnf) | ((with_reducible refine grd_and ?_); refine And.intro (y0) ?_; conv => whnf) | ((with_reducible refine grd_and ?_); refine And.intro (y1) ?_; conv => whnf) | ((with_reducible refine grd_and ?_); refine And.intro (y2) ?_; conv => whnf) | (refine AppX.nil (n := 1) Nat.zero_lt_one (Nat.le_of_ble_eq_true rfl) ?_; conv => whnf) | (refine AppX.own (n := 1) rfl rfl rfl Nat.zero_lt_one (Nat.le_of_ble_eq_true rfl) ?_; conv => whnf) | ((with_reducible refine And.intro ?hh ?_); (case hh => exact condA); conv => whnf) | fail))
          all_goals first | (exfalso; omega) | exact ⟨[7], rfl, rfl, rfl, ⟨⟨_, rfl, rfl, SubQ.ofL rfl (gR_bare (l := [(i : Int) + W, (i : Int) + 1, (i : Int) - 1, (i : Int) - W]) eI_bare) (.inr rfl)⟩, ltB_ofLb (gR_bare (l := [(i : Int) + W, (i : Int) + 1, (i : Int) - 1, (i : Int) - W]) eI_bare), rfl, trivial⟩, trivs⟩
theorem beside_ok (h : As.H) (W H i : Nat) (hW : 1 ≤ W ∧ W ≤ 6) (hH : 1 ≤ H ∧ H ≤ 6) (hi : i < W * H) :
    CallOk Try.prog 46 [.int .i64 W, .int .i64 H, .int .i64 i] h (.rsl false 1 (bsL W H i).length (iG (iL (bsL W H i)))) h := by
  have hl : (((bsL W H i).map fun x : Nat => (x : Int)).reverse).length = (bsL W H i).length := by simp
  have := gr_freeze (g := iG (iL (bsL W H i))) eI_len eI_bare (beside_new h W H i hW hH hi _ rfl) (fun j x hj => by
    rw [List.reverse_reverse, List.getElem?_map] at hj
    unfold iG iL eI
    cases hq : (bsL W H i)[j]? with
    | none => rw [hq] at hj; cases hj
    | some y =>
      rw [hq] at hj
      have hj' : (y : Int) = x := Option.some.inj hj
      rw [List.getD_eq_getElem?_getD, hq]
      show [V.int .i64 (y : Int)] = _
      rw [hj'])
  rwa [hl] at this
end Go.Proofs.H

namespace Go.Proofs.H
open Go.As
set_option maxRecDepth 20000
set_option linter.unusedVariables false
set_option linter.unusedSimpArgs false

/-! ### The definitions: plates, blows -/

theorem isSize_ok (h : As.H) (W H m : Int) : CallOk Try.prog 60 [.int .i64 W, .int .i64 H, .int .i64 m] h (.bool (decide ((1 ≤ W ∧ W ≤ m) ∧ 1 ≤ H ∧ H ≤ m))) h := by
  refine CallOk.run0 Try.func60 rfl rfl rfl rfl rfl (WpR.of_vc ?_)
  by_cases hc : (1 ≤ W ∧ W ≤ m) ∧ 1 ≤ H ∧ H ≤ m
  · rw [decide_eq_true hc]
    (conv => whnf); (repeat' (first | ((with_reducible refine ifb_mk (fun hc => ?_) (fun hc => ?_)) <;> ((try simp only [decide_eq_true_eq, decide_eq_false_iff_not, Bool.not_eq_true', Bool.not_eq_false', Int.not_lt, Int.not_le, ne_eq, Decidable.not_not, beq_iff_eq, List.cons.injEq, and_true] at hc); (first | (exfalso; omega) | exact absurd True.intro hc | conv => whnf))) | ((with_reducible refine And.intro True.intro ?_); conv => whnf) | ((with_reducible refine And.intro ?hh ?_); (case hh => exact condA); conv => whnf) | fail))
    all_goals first | (refine ⟨[], ?_, rfl, rfl, trivial, trivs⟩; simp only [renV, renL]; (first | done | rfl | (simp; done) | (simp; omega) | grind)) | (exfalso; omega) | (refine ⟨[], ?_, rfl, rfl, trivial, trivs⟩; simp only [renV]; rw [decide_eq_true (by omega)])
  · rw [decide_eq_false hc]
    (conv => whnf); (repeat' (first | ((with_reducible refine ifb_mk (fun hc => ?_) (fun hc => ?_)) <;> ((try simp only [decide_eq_true_eq, decide_eq_false_iff_not, Bool.not_eq_true', Bool.not_eq_false', Int.not_lt, Int.not_le, ne_eq, Decidable.not_not, beq_iff_eq, List.cons.injEq, and_true] at hc); (first | (exfalso; omega) | exact absurd True.intro hc | conv => whnf))) | ((with_reducible refine And.intro True.intro ?_); conv => whnf) | ((with_reducible refine And.intro ?hh ?_); (case hh => exact condA); conv => whnf) | fail))
    all_goals first | (refine ⟨[], ?_, rfl, rfl, trivial, trivs⟩; simp only [renV, renL]; (first | done | rfl | (simp; done) | (simp; omega) | grind)) | (exfalso; omega) | (refine ⟨[], ?_, rfl, rfl, trivial, trivs⟩; simp only [renV]; rw [decide_eq_false (by omega)])
set_option maxHeartbeats 4000000 in
theorem checkPlateR_ok (h : As.H) (W H : Int) (ex : Bool) (k : Nat) (d : Nat → Int) (hk : k ≤ 9223372036854775807) : CallOk Try.prog 23 [plV W H ex k d] h (.int .i64 (ckP W H k d)) h := by
  have k1 := fun h' => isSize_ok h' W H 6
  unfold ckP wiR
  refine CallOk.run0 Try.func23 rfl rfl rfl rfl rfl (WpR.of_vc ?_)
  by_cases h1 : (1 ≤ W ∧ W ≤ 6) ∧ 1 ≤ H ∧ H ≤ 6
  · rw [if_pos h1]
    rw [decide_eq_true h1] at k1
    have hr : InR (W * H) := by
      have a1 : W * H ≤ 6 * 6 := Int.mul_le_mul h1.1.2 h1.2.2 (by omega) (by omega)
      have a2 : 0 ≤ W * H := Int.mul_nonneg (by omega) (by omega)
      unfold InR; omega
    by_cases h2 : (k : Int) = W * H
    · rw [if_pos h2]
      (conv => whnf); (repeat' (first | ((with_reducible refine ifb_mk (fun hc => ?_) (fun hc => ?_)) <;> ((try simp only [decide_eq_true_eq, decide_eq_false_iff_not, Bool.not_eq_true', Bool.not_eq_false', Int.not_lt, Int.not_le, ne_eq, Decidable.not_not, beq_iff_eq, List.cons.injEq, and_true] at hc); (first | (exfalso; omega) | exact absurd True.intro hc | conv => whnf))) | ((with_reducible refine And.intro True.intro ?_); conv => whnf) | ((with_reducible refine CallX.all ?_); refine CallW.of_ok (k1 _) ?_; conv => whnf) | ((with_reducible refine grd_and ?_); refine And.intro (hr) ?_; conv => whnf) | ((with_reducible refine And.intro ?hh ?_); (case hh => exact condA); conv => whnf) | fail))
      refine WpR.loopA (ι := Nat) [] [1] [] [] 1 (fun i => [(3, .int .i64 i)]) (fun _ => []) (fun i => k - i) (fun i => i ≤ k ∧ ∀ j, j < i → decide (0 ≤ d j ∧ d j ≤ 30) = true) ?_ (0) (⟨Nat.zero_le _, fun j hj => by omega⟩) [] Back.auto
      rintro i ⟨j1, hQ⟩
      refine WpR.of_vc ?_
      by_cases hi : i < k
      · cases ht : decide (0 ≤ d i ∧ d i ≤ 30) with
        | true =>
          have ht' : 0 ≤ d i ∧ d i ≤ 30 := of_decide_eq_true ht
          (conv => whnf); (repeat' (first | ((with_reducible refine ifb_mk (fun hc => ?_) (fun hc => ?_)) <;> ((try simp only [decide_eq_true_eq, decide_eq_false_iff_not, Bool.not_eq_true', Bool.not_eq_false', Int.not_lt, Int.not_le, ne_eq, Decidable.not_not, beq_iff_eq, List.cons.injEq, and_true] at hc); (first | (exfalso; omega) | exact absurd True.intro hc | conv => whnf))) | ((with_reducible refine And.intro True.intro ?_); conv => whnf) | ((with_reducible refine grd_and ?_); refine And.intro (hi) ?_; conv => whnf) | ((with_reducible refine And.intro ?hh ?_); (case hh => exact condA); conv => whnf) | fail))
          all_goals first | (exfalso; omega) | exact ⟨i + 1, [], by omega, ⟨by omega, below_succ hQ ht⟩, Back.auto⟩
        | false =>
          have ht' : ¬ (0 ≤ d i ∧ d i ≤ 30) := of_decide_eq_false ht
          rw [if_neg (by rw [allF_f (p := fun i => decide (0 ≤ d i ∧ d i ≤ 30)) hi ht]; decide)]
          (conv => whnf); (repeat' (first | ((with_reducible refine ifb_mk (fun hc => ?_) (fun hc => ?_)) <;> ((try simp only [decide_eq_true_eq, decide_eq_false_iff_not, Bool.not_eq_true', Bool.not_eq_false', Int.not_lt, Int.not_le, ne_eq, Decidable.not_not, beq_iff_eq, List.cons.injEq, and_true] at hc); (first | (exfalso; omega) | exact absurd True.intro hc | conv => whnf))) | ((with_reducible refine And.intro True.intro ?_); conv => whnf) | ((with_reducible refine grd_and ?_); refine And.intro (hi) ?_; conv => whnf) | ((with_reducible refine And.intro ?hh ?_); (case hh => exact condA); conv => whnf) | fail))
          all_goals first | (refine ⟨[], ?_, rfl, rfl, trivial, trivs⟩; simp only [renV, renL]; (first | done | rfl | (simp; done) | (simp; omega) | grind)) | (exfalso; omega)
      · rw [if_pos (allF_t fun j hj => hQ j (by omega))]
        (conv => whnf); (repeat' (first | ((with_reducible refine ifb_mk (fun hc => ?_) (fun hc => ?_)) <;> ((try simp only [decide_eq_true_eq, decide_eq_false_iff_not, Bool.not_eq_true', Bool.not_eq_false', Int.not_lt, Int.not_le, ne_eq, Decidable.not_not, beq_iff_eq, List.cons.injEq, and_true] at hc); (first | (exfalso; omega) | exact absurd True.intro hc | conv => whnf))) | ((with_reducible refine And.intro True.intro ?_); conv => whnf) | ((with_reducible refine And.intro ?hh ?_); (case hh => exact condA); conv => whnf) | fail))
        (refine ⟨[], ?_, rfl, rfl, trivial, trivs⟩; simp only [renV, renL]; (first | done | rfl | (simp; done) | (simp; omega) | grind))
    · rw [if_neg h2]
      (conv => whnf); (repeat' (first | ((with_reducible refine ifb_mk (fun hc => ?_) (fun hc => ?_)) <;> ((try simp only [decide_eq_true_eq, decide_eq_false_iff_not, Bool.not_eq_true', Bool.not_eq_false', Int.not_lt, Int.not_le, ne_eq, Decidable.not_not, beq_iff_eq, List.cons.injEq, and_true] at hc); (first | (exfalso; omega) | exact absurd True.intro hc | conv => whnf))) | ((with_reducible refine And.intro True.intro ?_); conv => whnf) | ((with_reducible refine CallX.all ?_); refine CallW.of_ok (k1 _) ?_; conv => whnf) | ((with_reducible refine grd_and ?_); refine And.intro (hr) ?_; conv => whnf) | ((with_reducible refine And.intro ?hh ?_); (case hh => exact condA); conv => whnf) | fail))
      all_goals first | (refine ⟨[], ?_, rfl, rfl, trivial, trivs⟩; simp only [renV, renL]; (first | done | rfl | (simp; done) | (simp; omega) | grind)) | (exfalso; omega)
  · rw [if_neg h1]
    rw [decide_eq_false h1] at k1
    (conv => whnf); (repeat' (first | ((with_reducible refine ifb_mk (fun hc => ?_) (fun hc => ?_)) <;> ((try simp only [decide_eq_true_eq, decide_eq_false_iff_not, Bool.not_eq_true', Bool.not_eq_false', Int.not_lt, Int.not_le, ne_eq, Decidable.not_not, beq_iff_eq, List.cons.injEq, and_true] at hc); (first | (exfalso; omega) | exact absurd True.intro hc | conv => whnf))) | ((with_reducible refine And.intro True.intro ?_); conv => whnf) | ((with_reducible refine CallX.all ?_); refine CallW.of_ok (k1 _) ?_; conv => whnf) | ((with_reducible refine And.intro ?hh ?_); (case hh => exact condA); conv => whnf) | fail))
    all_goals first | (refine ⟨[], ?_, rfl, rfl, trivial, trivs⟩; simp only [renV, renL]; (first | done | rfl | (simp; done) | (simp; omega) | grind)) | (exfalso; omega)
theorem isFlatR_ok (h : As.H) (n : Nat) (a : Nat → Int) (ex : Bool) (hn : n ≤ 9223372036854775807) : CallOk Try.prog 64 [.rsl ex 1 n (iG a)] h (.bool (allF n fun j => decide (a j ≤ 3))) h := by
  refine CallOk.run0 Try.func64 rfl rfl rfl rfl rfl (WpR.of_vc ?_)
  (conv => whnf); (repeat' (first | ((with_reducible refine ifb_mk (fun hc => ?_) (fun hc => ?_)) <;> ((try simp only [decide_eq_true_eq, decide_eq_false_iff_not, Bool.not_eq_true', Bool.not_eq_false', Int.not_lt, Int.not_le, ne_eq, Decidable.not_not, beq_iff_eq, List.cons.injEq, and_true] at hc); (first | (exfalso; omega) | exact absurd True.intro hc | conv => whnf))) | ((with_reducible refine And.intro True.intro ?_); conv => whnf) | ((with_reducible refine And.intro ?hh ?_); (case hh => exact condA); conv => whnf) | fail))
  refine WpR.loopA (ι := Nat) [] [0] [] [] 0 (fun i => [(3, .int .i64 i)]) (fun _ => []) (fun i => n - i) (fun i => i ≤ n ∧ ∀ j, j < i → decide (a j ≤ 3) = true) ?_ (0) (⟨Nat.zero_le _, fun j hj => by omega⟩) [] Back.auto
  rintro i ⟨j1, hQ⟩
  refine WpR.of_vc ?_
  by_cases hi : i < n
  · cases ht : decide (a i ≤ 3) with
    | true =>
      have ht' : a i ≤ 3 := of_decide_eq_true ht
      (conv => whnf); (repeat' (first | ((with_reducible refine ifb_mk (fun hc => ?_) (fun hc => ?_)) <;> ((try simp only [decide_eq_true_eq, decide_eq_false_iff_not, Bool.not_eq_true', Bool.not_eq_false', Int.not_lt, Int.not_le, ne_eq, Decidable.not_not, beq_iff_eq, List.cons.injEq, and_true] at hc); (first | (exfalso; omega) | exact absurd True.intro hc | conv => whnf))) | ((with_reducible refine And.intro True.intro ?_); conv => whnf) | ((with_reducible refine grd_and ?_); refine And.intro (hi) ?_; conv => whnf) | ((with_reducible refine And.intro ?hh ?_); (case hh => exact condA); conv => whnf) | fail))
      all_goals first | (exfalso; omega) | exact ⟨i + 1, [], by omega, ⟨by omega, below_succ hQ ht⟩, Back.auto⟩
    | false =>
      have ht' : ¬ a i ≤ 3 := of_decide_eq_false ht
      rw [allF_f (p := fun j => decide (a j ≤ 3)) hi ht]
      (conv => whnf); (repeat' (first | ((with_reducible refine ifb_mk (fun hc => ?_) (fun hc => ?_)) <;> ((try simp only [decide_eq_true_eq, decide_eq_false_iff_not, Bool.not_eq_true', Bool.not_eq_false', Int.not_lt, Int.not_le, ne_eq, Decidable.not_not, beq_iff_eq, List.cons.injEq, and_true] at hc); (first | (exfalso; omega) | exact absurd True.intro hc | conv => whnf))) | ((with_reducible refine And.intro True.intro ?_); conv => whnf) | ((with_reducible refine grd_and ?_); refine And.intro (hi) ?_; conv => whnf) | ((with_reducible refine And.intro ?hh ?_); (case hh => exact condA); conv => whnf) | fail))
      all_goals first | (refine ⟨[], ?_, rfl, rfl, trivial, trivs⟩; simp only [renV, renL]; (first | done | rfl | (simp; done) | (simp; omega) | grind)) | (exfalso; omega)
  · rw [allF_t (p := fun j => decide (a j ≤ 3)) fun j hj => hQ j (by omega)]
    (conv => whnf); (repeat' (first | ((with_reducible refine ifb_mk (fun hc => ?_) (fun hc => ?_)) <;> ((try simp only [decide_eq_true_eq, decide_eq_false_iff_not, Bool.not_eq_true', Bool.not_eq_false', Int.not_lt, Int.not_le, ne_eq, Decidable.not_not, beq_iff_eq, List.cons.injEq, and_true] at hc); (first | (exfalso; omega) | exact absurd True.intro hc | conv => whnf))) | ((with_reducible refine And.intro True.intro ?_); conv => whnf) | ((with_reducible refine And.intro ?hh ?_); (case hh => exact condA); conv => whnf) | fail))
    (refine ⟨[], ?_, rfl, rfl, trivial, trivs⟩; simp only [renV, renL]; (first | done | rfl | (simp; done) | (simp; omega) | grind))

/-! ### Blows at a place -/

def rsL (a : Nat → Int) (N : Int) (L : List Nat) : Nat → Int := L.foldl (fun a x => rs a x N) a
theorem rsL_snoc (a : Nat → Int) (N : Int) (L : List Nat) (x : Nat) : rsL a N (L ++ [x]) = rs (rsL a N L) x N := by unfold rsL; rw [List.foldl_append]; rfl
theorem rsL_app (a : Nat → Int) (N : Int) (L M : List Nat) : rsL a N (L ++ M) = rsL (rsL a N L) N M := by unfold rsL; rw [List.foldl_append]
theorem rsL_if (a : Nat → Int) (N : Int) (b : Bool) (x k : Nat) : rsL a N (if b = true then [x] else []) k = a k + bI (b && Nat.beq k x) * N := by
  cases b with
  | false => show a k = a k + 0 * N; omega
  | true =>
    rw [if_pos rfl, Bool.true_and]
    show rs a x N k = _
    unfold rs
    by_cases h : k = x
    · rw [if_pos h, show Nat.beq k x = true from by rw [h]; exact Nat.beq_refl _]; show _ = _ + 1 * N; omega
    · rw [if_neg h, show Nat.beq k x = false from by rw [Bool.eq_false_iff]; exact fun hc => h (Nat.eq_of_beq_eq_true hc)]; show _ = _ + 0 * N; omega
theorem rsL_bs (W H i : Nat) (a : Nat → Int) (N : Int) : rsL (rs a i (-(4 * N))) N (bsL W H i) = hitA (adI W H) a i N := by
  funext k
  unfold bsL
  rw [rsL_app, rsL_if, rsL_app, rsL_if, rsL_app, rsL_if, rsL_if]
  unfold hitA adI
  rw [sm4, Int.add_mul, Int.add_mul, Int.add_mul]
  unfold rs
  generalize bI (nbP W H i 0 && Nat.beq k (nbI W i 0)) * N = t0
  generalize bI (nbP W H i 1 && Nat.beq k (nbI W i 1)) * N = t1
  generalize bI (nbP W H i 2 && Nat.beq k (nbI W i 2)) * N = t2
  generalize bI (nbP W H i 3 && Nat.beq k (nbI W i 3)) * N = t3
  split <;> omega
theorem bsL_mem {W H i x : Nat} (hx : x ∈ bsL W H i) : ∃ j, j < 4 ∧ nbP W H i j = true ∧ x = nbI W i j := by
  unfold bsL at hx
  have key : ∀ j, x ∈ (if nbP W H i j = true then [nbI W i j] else []) → nbP W H i j = true ∧ x = nbI W i j := fun j h => by
    split at h
    · rename_i hp; exact ⟨hp, List.mem_singleton.1 h⟩
    · cases h
  rcases List.mem_append.1 hx with h | h
  · rcases List.mem_append.1 h with h | h
    · rcases List.mem_append.1 h with h | h
      · exact ⟨0, by omega, key 0 h⟩
      · exact ⟨1, by omega, key 1 h⟩
    · exact ⟨2, by omega, key 2 h⟩
  · exact ⟨3, by omega, key 3 h⟩
theorem bsL_lt {W H i x : Nat} (hW : 1 ≤ W ∧ W ≤ 6) (hH : 1 ≤ H ∧ H ≤ 6) (hi : i < W * H) (hx : x ∈ bsL W H i) : x < W * H := by
  obtain ⟨j, hj, hp, rfl⟩ := bsL_mem hx
  exact (grid_at hW hH hi).2.2.2.2.2.2 j hj hp
theorem rsL_rng {n : Nat} {a : Nat → Int} {N B C : Int} (hB : Sml n B a) (hN : -C ≤ N ∧ N ≤ C) : ∀ L : List Nat, Sml n (B + C * L.length) (rsL a N L) := by
  intro L
  have key : ∀ (L : List Nat) (a : Nat → Int) (B : Int), Sml n B a → Sml n (B + C * L.length) (rsL a N L) := fun L => by
    induction L with
    | nil => intro a B h k hk; have := h k hk; show _ ≤ a k ∧ a k ≤ _; simp; omega
    | cons x L ih =>
      intro a B h k hk
      have := ih (rs a x N) (B + C) (fun k hk => by have := h k hk; unfold rs; split <;> omega) k hk
      show _ ≤ rsL (rs a x N) N L k ∧ rsL (rs a x N) N L k ≤ _
      rw [List.length_cons, show ((L.length + 1 : Nat) : Int) = L.length + 1 from rfl, Int.mul_add, Int.mul_one]
      omega
  exact key L a B hB
end Go.Proofs.H

