/- What the functions answer that the laws call, one after another (Knw). -/
import Derived.Test.YtgcnflpgolnjeaaAs6
import Derived.Test.YtgcnflpgolnjeaaWk

set_option linter.unusedVariables false
namespace Go.Proofs.K
open Go.As
set_option maxRecDepth 20000
set_option linter.unusedVariables false
set_option linter.unusedSimpArgs false

/-! ### The examples of the chapter -/

theorem w_mostS2 (h : As.H) : CallOk Try.prog 29 [lgV 1 false 5 sa sb] h (.tup [.int .i64 4, .int .i64 0]) h := by
  have k := mostP_ok h 1 (by decide) false 5 sa sb sL
  obtain ⟨c, q, e⟩ := ne_cons sM.1
  have h2 := sM.2.2
  rw [e] at k h2
  have k' : CallOk Try.prog 29 [lgV ((1 : Nat) : Int) false 5 sa sb] h (.tup [.int .i64 ((mxC (cnC 5 sa sb) (prQ (c :: q)) : Nat) : Int), .int .i64 0]) h := k
  rw [h2] at k'
  exact k'
theorem throughP_eq2 (h : As.H) (D : Nat) (ex ex2 : Bool) (n : Nat) (a b : Nat → Int) (hv : ckL D n a b = 0) (k : Nat) (hk9 : k ≤ 9223372036854775807) (hk : k ≠ D + 1) (sx : Nat → Int) :
    CallOk Try.prog 23 [lgV D ex n a b, .rsl ex2 1 k (iG sx)] h (.tup [.nils, .int .i64 15]) h := by
  obtain ⟨hD, l⟩ := ckL_lg hv
  have hn := l.le
  have kS : ∀ (h' : As.H) (s : Nat), s = h'.n + 0 → CallOk Try.prog 59 [lgV D ex n a b] h' (.tup [.ptr s 0, .int .i64 0]) (addBs h' [shB D (.rsl ex 2 n (lkG a b)) fun _ => false]) := fun h' s e => by subst e; exact sheetFor_new h' D ex n a b (by omega) hv
  refine CallOk.run0 Try.func23 rfl rfl rfl rfl rfl (WpR.of_vc ?_)
  (conv => whnf); (repeat' (first | ((with_reducible refine ifb_mk (fun hc => ?_) (fun hc => ?_)) <;> ((try simp only [decide_eq_true_eq, decide_eq_false_iff_not, Bool.not_eq_true', Bool.not_eq_false', Int.not_lt, Int.not_le, ne_eq, Decidable.not_not, beq_iff_eq, List.cons.injEq, and_true] at hc); (first | (exfalso; omega) | exact absurd True.intro hc | conv => whnf))) | ((with_reducible refine And.intro True.intro ?_); conv => whnf) | ((with_reducible refine CallX.all ?_); refine CallW.of_ok (kS _ 2 (by rfl)) ?_; conv => whnf) | ((with_reducible refine WpR.draw (id := 4) mixed [0, 1, 2, 3, 4, 5, 6, 7, 8] [0, 1, 0, 4, 12, 28, 60, 124, 255] ?hh ?_); (case hh => kernel_rfl); conv => whnf) | ((with_reducible refine WpR.draw (id := 11) mixed [0, 1, 2, 3, 4, 5, 6, 7, 8] [0, 0, 2, 6, 14, 30, 63, 127, 255] ?hh ?_); (case hh => kernel_rfl); conv => whnf) | ((with_reducible refine And.intro ?hh ?_); (case hh => exact condA); conv => whnf) | fail))
  all_goals first | (refine ⟨[], ?_, rfl, rfl, trivial, trivs⟩; simp only [renV, renL]; (first | done | rfl | (simp; done) | (simp; omega) | grind)) | (exfalso; omega)
def qa : Nat → Int := fun k => ba (0 + k)
def qb : Nat → Int := fun k => bb (0 + k)
theorem k_least (h : As.H) (ex : Bool) : CallOk Try.prog 38 [.agg [.int .i64 2, .rsl ex 2 4 (fun k => lkG ba bb (0 + k))]] h (.tup [.int .i64 2, .int .i64 0]) h :=
  leastP_ok h 2 ex 4 qa qb (by decide) (by decide +kernel) _ rfl true (by decide +kernel)
theorem k_least2 (h : As.H) : CallOk Try.prog 38 [lgV 1 false 2 ha hb] h (.tup [.int .i64 0, .int .i64 23]) h :=
  leastP_ok h 1 false 2 ha hb (by decide) hL _ rfl false (by decide +kernel)
theorem k_least0 (h : As.H) : CallOk Try.prog 38 [.agg [.int .i64 2, .nils]] h (.tup [.int .i64 0, .int .i64 0]) h := by
  have k : CallOk Try.prog 38 [lgV 2 false 0 (fun _ => 0) (fun _ => 0)] As.H.empty (.tup [.int .i64 0, .int .i64 0]) As.H.empty := leastP_ok As.H.empty 2 false 0 (fun _ => 0) (fun _ => 0) (by decide) (by decide +kernel) _ rfl true (by decide +kernel)
  exact CallOk.thaw k rfl h (.cons (ThL.agg (.cons (.same rfl) (.cons .nil .nil))) .nil)
theorem k_thr : ∃ z : Nat → Int, eqB 2 z 2 (gL [1, 2]) = true ∧ ∀ (h : As.H) b, h.get b = some (.cells (ofL (iVs [0, 1]) 0) true none) → CallOk Try.prog 23 [lgV 1 false 5 sa sb, .sl b 0 2 2 true] h (.tup [.rsl false 1 2 (iG z), .int .i64 0]) (h.put b .dead) := by
  refine ⟨thP (cnF (selB 2 (gL [0, 1])) 5) (slF (selB 2 (gL [0, 1])) sa 5) (slF (selB 2 (gL [0, 1])) sb 5), by decide +kernel, fun h b hb => ?_⟩
  have k := throughP_yes As.H.empty 1 false false 5 sa sb sL 2 rfl (gL [0, 1]) (by decide +kernel) (by decide +kernel) (by decide +kernel)
  exact CallOk.thawF k rfl h b hb (.cons (.same rfl) (.cons (th_own rfl rfl (by decide) hb) .nil)) (fun m xs hv => occ1 hv)
theorem k_thr3 (h : As.H) (b : Nat) (hb : h.get b = some (.cells (ofL (iVs [0, 1, 2]) 0) true none)) : CallOk Try.prog 23 [lgV 1 false 5 sa sb, .sl b 0 3 3 true] h (.tup [.nils, .int .i64 15]) (h.put b .dead) := by
  have k := throughP_eq2 As.H.empty 1 false false 5 sa sb sL 3 (by decide) (by decide) (gL [0, 1, 2])
  exact CallOk.thawF k rfl h b hb (.cons (.same rfl) (.cons (th_own rfl rfl (by decide) hb) .nil)) (fun m xs hv => occ1 hv)
set_option maxHeartbeats 16000000 in
theorem kwhole : CallOk Try.prog 15 [] As.H.empty (.bool true) As.H.empty := by
  have kWk := fun h : As.H => wwhole.everywhere rfl h
  obtain ⟨zT, eT, kT⟩ := k_thr
  have kS := fun h' => straight_ok h'
  have kH := fun h' => half_ok h'
  have kB := fun h' => bent_ok h'
  obtain ⟨zL, eL, kL⟩ : ∃ z : Nat → Int, eqB 2 z 2 (gL [7, 2]) = true ∧ ∀ (h' : As.H) b, h'.get b = some (.cells (ofL (iVs [1, 2]) 0) true none) → CallOk Try.prog 19 [.sl b 0 2 2 true, .int .i64 3] h' (.tup [.rsl false 1 2 (iG z), .int .i64 0]) (h'.put b .dead) :=
    ⟨ltP 2 (gL [1, 2]) 3, by decide +kernel, fun h' b hb => later_own (n := 2) (cap := 2) (ex := true) h' 3 rfl (by decide) (by decide) hb (by decide +kernel)⟩
  have t3 := fun (h' : As.H) b hb => k_thr3 h' b hb
  have cp := fun (h' : As.H) b hb => w_check (b := b) (n := 2) (cap := 2) (ex := true) (gg := none) h' [-1, 3] 2 rfl (by decide) (by decide) hb (by decide +kernel) (by decide +kernel)
  have f1 := fun (h' : As.H) b hb => of_own (b := b) (n := 2) (cap := 2) (ex := true) (gg := none) (L := [0, 1]) h' (by decide) rfl hb
  have f2 := fun (h' : As.H) b hb => of_own (b := b) (n := 3) (cap := 3) (ex := true) (gg := none) (L := [0, 1, 2]) h' (by decide) rfl hb
  have f3 := fun (h' : As.H) b hb => longsF_own (b := b) (n := 2) (cap := 2) (ex := true) (gg := none) (L := [-1, 3]) h' (by decide) rfl hb
  have m1 := fun h' => w_mostS2 h'
  have i1 := fun h' => (w_kind h').2
  have l1 := fun (h' : As.H) (ex : Bool) => k_least h' ex
  have l2 := fun h' => k_least2 h'
  have l3 := fun h' => k_least0 h'
  have g1 := fun (h' : As.H) b hb => longs_own (b := b) (n := 2) (cap := 2) (ex := true) (gg := none) (L := [7, 2]) h' 2 zL (by decide) rfl (by decide) (by decide) hb eL
  have g2 := fun (h' : As.H) b hb => longs_own (b := b) (n := 2) (cap := 2) (ex := true) (gg := none) (L := [1, 2]) h' 2 zT (by decide) rfl (by decide) (by decide) hb eT
  clear eT eL
  refine CallOk.run0 Try.func15 rfl rfl rfl rfl rfl (WpR.of_vc ?_)
  (conv => whnf); (repeat' (first | ((with_reducible refine ifb_mk (fun hc => ?_) (fun hc => ?_)) <;> ((try simp only [decide_eq_true_eq, decide_eq_false_iff_not, Bool.not_eq_true', Bool.not_eq_false', Int.not_lt, Int.not_le, ne_eq, Decidable.not_not, beq_iff_eq, List.cons.injEq, and_true] at hc); (first | (exfalso; omega) | exact absurd True.intro hc | conv => whnf))) | ((with_reducible refine And.intro True.intro ?_); conv => whnf) | ((with_reducible refine CallX.all ?_); refine CallW.of_ok (kS _) ?_; conv => whnf) | ((with_reducible refine CallX.all ?_); refine CallW.of_ok (kH _) ?_; conv => whnf) | ((with_reducible refine CallX.all ?_); refine CallW.of_ok (kB _) ?_; conv => whnf) | ((with_reducible refine CallX.all (f := 51) ?_); refine CallW.inline Try.func51 rfl rfl (Nat.le_of_ble_eq_true rfl) (WpR.of_vc ?_); conv => whnf) | ((with_reducible refine CallX.all (f := 54) ?_); refine CallW.inline Try.func54 rfl rfl (Nat.le_of_ble_eq_true rfl) (WpR.of_vc ?_); conv => whnf) | ((with_reducible refine WpR.loopU 1 ?_); conv => whnf) | ((with_reducible refine CallX.all ?_); refine CallW.of_ok (kL _ _ rfl) ?_; conv => whnf) | ((with_reducible refine WpR.draw (id := 3) mixed [0, 1, 2, 3, 4, 5, 6, 7, 8] [0, 0, 2, 7, 15, 31, 31, 63, 255] ?hh ?_); (case hh => kernel_rfl); conv => whnf) | ((with_reducible refine WpR.draw (id := 4) mixed [0, 1, 2, 3, 4, 5, 6, 7, 8] [0, 0, 2, 7, 15, 31, 31, 63, 255] ?hh ?_); (case hh => kernel_rfl); conv => whnf) | ((with_reducible refine WpR.draw (id := 5) mixed [0, 1, 2, 3, 4, 5, 6, 7, 8] [0, 0, 2, 7, 15, 31, 31, 63, 255] ?hh ?_); (case hh => kernel_rfl); conv => whnf) | ((with_reducible refine grd_ex ?_); refine ex_ok (f1 _ _ rfl) ?_; conv => whnf) | ((with_reducible refine grd_ex ?_); refine ex_ok (f2 _ _ rfl) ?_; conv => whnf) | ((with_reducible refine grd_ex ?_); refine ex_ok (f3 _ _ rfl) ?_; conv => whnf) | ((with_reducible refine CallX.all ?_); refine CallW.of_ok (kT _ _ rfl) ?_; conv => whnf) | ((with_reducible refine grd_ex ?_); refine ex_ok (kT _ _ rfl) ?_; conv => whnf) | ((with_reducible refine CallX.all ?_); refine CallW.of_ok (t3 _ _ rfl) ?_; conv => whnf) | ((with_reducible refine grd_ex ?_); refine ex_ok (t3 _ _ rfl) ?_; conv => whnf) | ((with_reducible refine CallX.all ?_); refine CallW.of_ok (cp _ _ rfl) ?_; conv => whnf) | ((with_reducible refine grd_ex ?_); refine ex_ok (cp _ _ rfl) ?_; conv => whnf) | ((with_reducible refine CallX.all ?_); refine CallW.of_ok (m1 _) ?_; conv => whnf) | ((with_reducible refine CallX.all ?_); refine CallW.of_ok (i1 _) ?_; conv => whnf) | ((with_reducible refine CallX.all ?_); refine CallW.of_ok (l1 _ _) ?_; conv => whnf) | ((with_reducible refine CallX.all ?_); refine CallW.of_ok (l2 _) ?_; conv => whnf) | ((with_reducible refine CallX.all ?_); refine CallW.of_ok (l3 _) ?_; conv => whnf) | ((with_reducible refine CallX.all ?_); refine CallW.of_ok (g1 _ _ rfl) ?_; conv => whnf) | ((with_reducible refine CallX.all ?_); refine CallW.of_ok (g2 _ _ rfl) ?_; conv => whnf) | ((with_reducible refine CallX.all ?_); refine CallW.of_ok (kWk _) ?_; conv => whnf) | ((with_reducible refine And.intro ?hh ?_); (case hh => exact condA); conv => whnf) | fail))
  all_goals first | (refine ⟨[], ?_, rfl, rfl, trivial, trivs⟩; simp only [renV, renL]; (first | done | rfl | (simp; done) | (simp; omega) | grind)) | (exfalso; omega)
end Go.Proofs.K
