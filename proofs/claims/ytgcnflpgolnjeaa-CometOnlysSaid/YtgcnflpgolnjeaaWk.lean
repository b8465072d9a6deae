/- What the functions answer that the laws call, one after another (Wk). -/
import Derived.Test.YtgcnflpgolnjeaaAs6
import Derived.Test.YtgcnflpgolnjeaaExa
set_option linter.unusedVariables false
set_option linter.unusedSimpArgs false
namespace Go.Proofs.K
open Go.As
set_option maxRecDepth 20000
theorem ne_cons {α : Type} {l : List α} (h : l ≠ []) : ∃ c q, l = c :: q := by
  cases l with
  | nil => exact absurd rfl h
  | cons c q => exact ⟨c, q, rfl⟩
theorem w_most (h : As.H) : CallOk Try.prog 29 [lgV 2 false 5 ba bb] h (.tup [.int .i64 4, .int .i64 0]) h := by
  have k := mostP_ok h 2 (by decide) false 5 ba bb bL
  obtain ⟨c, q, e⟩ := ne_cons bM.1
  have h2 := bM.2
  rw [e] at k h2
  have k' : CallOk Try.prog 29 [lgV ((2 : Nat) : Int) false 5 ba bb] h (.tup [.int .i64 ((mxC (cnC 5 ba bb) (prQ (c :: q)) : Nat) : Int), .int .i64 0]) h := k
  rw [h2] at k'
  exact k'
theorem w_most1 (h : As.H) : CallOk Try.prog 29 [lgV 1 false 2 ha hb] h (.tup [.int .i64 0, .int .i64 23]) h := by
  have k := mostP_ok h 1 (by decide) false 2 ha hb hL
  rw [hM] at k
  exact k
theorem w_count (h : As.H) : CallOk Try.prog 31 [lgV 1 false 5 sa sb] h (.tup [.int .i64 1, .int .i64 0]) h := by
  have k := countP_ok h 1 (by decide) false 5 sa sb sL
  obtain ⟨c, q, e⟩ := ne_cons sM.1
  have h2 := sM.2.1
  rw [e] at k h2
  have k' : CallOk Try.prog 31 [lgV ((1 : Nat) : Int) false 5 sa sb] h (.tup [.int .i64 (((bstL (cnC 5 sa sb) (prQ (c :: q))).length : Nat) : Int), .int .i64 0]) h := k
  rw [h2] at k'
  exact k'
theorem w_kind (h : As.H) : CallOk Try.prog 33 [lgV 1 false 5 sa sb, .int .i64 3] h (.tup [.int .i64 2, .int .i64 0]) h ∧ CallOk Try.prog 33 [lgV 1 false 5 sa sb, .int .i64 0] h (.tup [.int .i64 0, .int .i64 0]) h := by
  obtain ⟨c, q, e⟩ := ne_cons sM.1
  have k1 := kindP_ok h 1 (by decide) false 5 sa sb sL 3 (by decide) e
  have k2 := kindP_ok h 1 (by decide) false 5 sa sb sL 0 (by decide) e
  have h1 := sM.2.1
  have h2 := sK
  rw [e] at h1 h2
  rw [h1, h2.1] at k1
  rw [h1, h2.2] at k2
  exact ⟨k1, k2⟩
theorem w_path (h : As.H) : ∃ z : Nat → Int, eqB 3 z 3 (gL [1, 1, 1]) = true ∧ ∀ h, CallOk Try.prog 35 [lgV 2 false 5 ba bb] h (.tup [.rsl false 1 3 (iG z), .int .i64 0]) h := by
  refine ⟨crG 5 ba bb 7, by decide +kernel, fun h => ?_⟩
  obtain ⟨c, q, e⟩ := ne_cons bM.1
  have h2 := bM.2
  rw [e] at h2
  exact pathP_new h 2 (by decide) false 5 ba bb bL e 7 (by decide) (by rw [h2]; exact bP.1) (fun g hg => by rw [h2]; exact bP.2.1 g hg)
theorem w_only : ∃ z : Nat → Int, eqB 2 z 2 (gL [1, 2]) = true ∧ ∀ h, CallOk Try.prog 36 [lgV 1 false 5 sa sb, .int .i64 1] h (.tup [.rsl false 1 2 (iG z), .int .i64 0]) h :=
  ⟨crG 5 sa sb 3, by decide +kernel, fun h => onlyP_yes h 1 false 5 sa sb 1 (by decide +kernel) 3 (by decide) sO.1 sO.2.1⟩
theorem w_only2 (h : As.H) : CallOk Try.prog 36 [lgV 1 false 5 sa sb, .int .i64 2] h (.tup [.nils, .int .i64 13]) h := by
  have k := onlyP_err h 1 false 5 sa sb (by decide) 2 (by decide +kernel)
  rw [show ckO 1 5 sa sb 2 = 13 from by decide +kernel] at k
  exact k
theorem w_only0 (h : As.H) : CallOk Try.prog 36 [lgV 1 false 5 sa sb, .int .i64 0] h (.tup [.nils, .int .i64 23]) h :=
  onlyP_no h 1 false 5 sa sb 0 (by decide +kernel) sO0
theorem w_least (h : As.H) : CallOk Try.prog 38 [lgV 1 false 5 sa sb] h (.tup [.int .i64 0, .int .i64 23]) h := by
  have k := leastP_ok h 1 false 5 sa sb (by decide) sL _ rfl false (by decide +kernel)
  exact k
section
variable {b n cap : Nat} {ex : Bool} {L : List Int} {gg : Option (Nat × Nat)}
theorem w_thr (cap : Nat) (hcap : 2 ≤ cap) (ex : Bool) (gg : Option (Nat × Nat)) : ∃ z : Nat → Int, eqB 2 z 2 (gL [-1, 3]) = true ∧ ∀ (h : As.H) b, h.get b = some (.cells (ofL (iVs [2, 3]) 0) true gg) → CallOk Try.prog 23 [lgV 1 false 5 sa sb, .sl b 0 2 cap ex] h (.tup [.rsl false 1 2 (iG z), .int .i64 0]) (h.put b .dead) := by
  refine ⟨thP (cnF (selB 2 (gL [2, 3])) 5) (slF (selB 2 (gL [2, 3])) sa 5) (slF (selB 2 (gL [2, 3])) sb 5), by decide +kernel, fun h b hb => ?_⟩
  have k := throughP_yes As.H.empty 1 false false 5 sa sb sL 2 rfl (gL [2, 3]) (by decide +kernel) (by decide +kernel) (by decide +kernel)
  exact CallOk.thawF k rfl h b hb (.cons (.same rfl) (.cons (th_own rfl rfl hcap hb) .nil)) (fun m xs hv => occ1 hv)
theorem w_thr0 (h : As.H) (hcap : 2 ≤ cap) (hb : h.get b = some (.cells (ofL (iVs [0, 1]) 0) true gg)) : CallOk Try.prog 23 [lgV 1 false 2 ha Go.Proofs.K.hb, .sl b 0 2 cap ex] h (.tup [.nils, .int .i64 23]) (h.put b .dead) := by
  have k := throughP_no As.H.empty 1 false false 2 ha Go.Proofs.K.hb hL 2 rfl (gL [0, 1]) (by decide +kernel) (by decide +kernel) (by decide +kernel)
  exact CallOk.thawF k rfl h b hb (.cons (.same rfl) (.cons (th_own rfl rfl hcap hb) .nil)) (fun m xs hv => occ1 hv)
theorem w_check (h : As.H) (L : List Int) (v : Int) (hn : n = L.length) (hcap : n ≤ cap) (hn9 : n ≤ 1000) (hb : h.get b = some (.cells (ofL (iVs L) 0) true gg)) (h1 : cpN 1 5 sa sb n (gL L) = v) (h2 : ckQ 1 5 sa sb n (gL L) = 0) : CallOk Try.prog 25 [lgV 1 false 5 sa sb, .sl b 0 n cap ex] h (.tup [.int .i64 v, .int .i64 0]) h := by
  have k := checkPathP_ok As.H.empty 1 false false 5 sa sb (by decide) n (by omega) (gL L)
  rw [h1, h2] at k
  exact CallOk.thaw k rfl h (.cons (.same rfl) (.cons (th_own trivial hn hcap hb) .nil))
end
set_option maxHeartbeats 16000000 in
theorem wwhole : CallOk Try.prog 16 [] As.H.empty (.bool true) As.H.empty := by
  obtain ⟨zP, eP, kP⟩ := w_path As.H.empty
  obtain ⟨zO, eO, kO⟩ := w_only
  obtain ⟨zT, eT, kT⟩ := w_thr 2 (by decide) true none
  have kS := fun h' => straight_ok h'
  have kH := fun h' => half_ok h'
  have kB := fun h' => bent_ok h'
  have a1 : ∀ (h' : As.H) b, h'.get b = some (.cells (ofL (iVs [1, 1, 1]) 0) true none) → CallOk Try.prog 17 [.sl b 0 3 3 true, .int .i64 4] h' (.tup [.int .i64 11, .int .i64 0]) h' := fun h' b hb => by
    have k := at_own (n := 3) (cap := 3) (ex := true) h' 4 rfl (by decide) (by decide) hb
    rw [show atP 3 (gL [1, 1, 1]) 4 = 11 from by decide +kernel, show ckC 3 (gL [1, 1, 1]) 4 = 0 from by decide +kernel] at k
    exact k
  have a2 : ∀ (h' : As.H) b, h'.get b = some (.cells (ofL (iVs [1, 2]) 0) true none) → CallOk Try.prog 17 [.sl b 0 2 2 true, .int .i64 61] h' (.tup [.int .i64 0, .int .i64 2]) h' := fun h' b hb => by
    have k := at_own (n := 2) (cap := 2) (ex := true) h' 61 rfl (by decide) (by decide) hb
    rw [show atP 2 (gL [1, 2]) 61 = 0 from by decide +kernel, show ckC 2 (gL [1, 2]) 61 = 2 from by decide +kernel] at k
    exact k
  obtain ⟨zL, eL, kL⟩ : ∃ z : Nat → Int, eqB 3 z 3 (gL [4, 3, 1]) = true ∧ ∀ (h' : As.H) b, h'.get b = some (.cells (ofL (iVs [1, 1, 1]) 0) true none) → CallOk Try.prog 19 [.sl b 0 3 3 true, .int .i64 2] h' (.tup [.rsl false 1 3 (iG z), .int .i64 0]) (h'.put b .dead) :=
    ⟨ltP 3 (gL [1, 1, 1]) 2, by decide +kernel, fun h' b hb => later_own (cap := 3) (ex := true) h' 2 rfl (by decide) (by decide) hb (by decide +kernel)⟩
  have t0 := fun (h' : As.H) b hb => w_thr0 (b := b) (cap := 2) (ex := true) (gg := none) h' (by decide) hb
  have cp := fun (h' : As.H) b hb => w_check (b := b) (n := 2) (cap := 2) (ex := true) (gg := none) h' [1, 2] 4 rfl (by decide) (by decide) hb (by decide +kernel) (by decide +kernel)
  have f1 := fun (h' : As.H) b hb => of_own (b := b) (n := 2) (cap := 2) (ex := true) (gg := none) (L := [2, 3]) h' (by decide) rfl hb
  have f2 := fun (h' : As.H) b hb => of_own (b := b) (n := 2) (cap := 2) (ex := true) (gg := none) (L := [0, 1]) h' (by decide) rfl hb
  have f3 := fun (h' : As.H) b hb => longsF_own (b := b) (n := 2) (cap := 2) (ex := true) (gg := none) (L := [1, 2]) h' (by decide) rfl hb
  have m1 := fun h' => w_most h'
  have m2 := fun h' => w_most1 h'
  have c1 := fun h' => w_count h'
  have i1 := fun h' => (w_kind h').1
  have o2 := fun h' => w_only2 h'
  have o0 := fun h' => w_only0 h'
  have l0 := fun h' => w_least h'
  have g1 := fun (h' : As.H) b hb => longs_own (b := b) (n := 3) (cap := 3) (ex := true) (gg := none) (L := [4, 3, 1]) h' 3 zL (by decide) rfl (by decide) (by decide) hb eL
  have g2 := fun (h' : As.H) b hb => longs_own (b := b) (n := 2) (cap := 2) (ex := true) (gg := none) (L := [-1, 3]) h' 2 zT (by decide) rfl (by decide) (by decide) hb eT
  have g3 := fun (h' : As.H) b hb => longs_own (b := b) (n := 3) (cap := 3) (ex := true) (gg := none) (L := [1, 1, 1]) h' 3 zP (by decide) rfl (by decide) (by decide) hb eP
  have g4 := fun (h' : As.H) b hb => longs_own (b := b) (n := 2) (cap := 2) (ex := true) (gg := none) (L := [1, 2]) h' 2 zO (by decide) rfl (by decide) (by decide) hb eO
  clear eP eO eT eL
  refine CallOk.run0 Try.func16 rfl rfl rfl rfl rfl (WpR.of_vc ?_)
  (conv => whnf); (repeat' (first | ((with_reducible refine ifb_mk (fun hc => ?_) (fun hc => ?_)) <;> ((try simp only [decide_eq_true_eq, decide_eq_false_iff_not, Bool.not_eq_true', Bool.not_eq_false', Int.not_lt, Int.not_le, ne_eq, Decidable.not_not, beq_iff_eq, List.cons.injEq, and_true] at hc); (first | (exfalso; omega) | exact absurd True.intro hc | conv => whnf))) | ((with_reducible refine And.intro True.intro ?_); conv => whnf) | ((with_reducible refine CallX.all ?_); refine CallW.of_ok (kS _) ?_; conv => whnf) | ((with_reducible refine CallX.all ?_); refine CallW.of_ok (kH _) ?_; conv => whnf) | ((with_reducible refine CallX.all ?_); refine CallW.of_ok (kB _) ?_; conv => whnf) | ((with_reducible refine CallX.all (f := 51) ?_); refine CallW.inline Try.func51 rfl rfl (Nat.le_of_ble_eq_true rfl) (WpR.of_vc ?_); conv => whnf) | ((with_reducible refine CallX.all ?_); refine CallW.of_ok (a1 _ _ rfl) ?_; conv => whnf) | ((with_reducible refine CallX.all ?_); refine CallW.of_ok (a2 _ _ rfl) ?_; conv => whnf) | ((with_reducible refine CallX.all ?_); refine CallW.of_ok (kL _ _ rfl) ?_; conv => whnf) | ((with_reducible refine WpR.draw (id := 5) mixed [0, 1, 2, 3, 4, 5, 6, 7, 8] [0, 0, 2, 7, 15, 31, 31, 63, 255] ?hh ?_); (case hh => kernel_rfl); conv => whnf) | ((with_reducible refine WpR.draw (id := 6) mixed [0, 1, 2, 3, 4, 5, 6, 7, 8] [0, 0, 2, 7, 15, 31, 31, 63, 255] ?hh ?_); (case hh => kernel_rfl); conv => whnf) | ((with_reducible refine WpR.draw (id := 7) mixed [0, 1, 2, 3, 4, 5, 6, 7, 8] [0, 0, 2, 7, 15, 31, 31, 63, 255] ?hh ?_); (case hh => kernel_rfl); conv => whnf) | ((with_reducible refine grd_ex ?_); refine ex_ok (f1 _ _ rfl) ?_; conv => whnf) | ((with_reducible refine grd_ex ?_); refine ex_ok (f2 _ _ rfl) ?_; conv => whnf) | ((with_reducible refine grd_ex ?_); refine ex_ok (f3 _ _ rfl) ?_; conv => whnf) | ((with_reducible refine CallX.all ?_); refine CallW.of_ok (kT _ _ rfl) ?_; conv => whnf) | ((with_reducible refine grd_ex ?_); refine ex_ok (kT _ _ rfl) ?_; conv => whnf) | ((with_reducible refine CallX.all ?_); refine CallW.of_ok (t0 _ _ rfl) ?_; conv => whnf) | ((with_reducible refine grd_ex ?_); refine ex_ok (t0 _ _ rfl) ?_; conv => whnf) | ((with_reducible refine CallX.all ?_); refine CallW.of_ok (cp _ _ rfl) ?_; conv => whnf) | ((with_reducible refine grd_ex ?_); refine ex_ok (cp _ _ rfl) ?_; conv => whnf) | ((with_reducible refine CallX.all ?_); refine CallW.of_ok (m1 _) ?_; conv => whnf) | ((with_reducible refine CallX.all ?_); refine CallW.of_ok (m2 _) ?_; conv => whnf) | ((with_reducible refine CallX.all ?_); refine CallW.of_ok (kP _) ?_; conv => whnf) | ((with_reducible refine CallX.all ?_); refine CallW.of_ok (c1 _) ?_; conv => whnf) | ((with_reducible refine CallX.all ?_); refine CallW.of_ok (i1 _) ?_; conv => whnf) | ((with_reducible refine CallX.all ?_); refine CallW.of_ok (kO _) ?_; conv => whnf) | ((with_reducible refine CallX.all ?_); refine CallW.of_ok (o2 _) ?_; conv => whnf) | ((with_reducible refine CallX.all ?_); refine CallW.of_ok (o0 _) ?_; conv => whnf) | ((with_reducible refine CallX.all ?_); refine CallW.of_ok (l0 _) ?_; conv => whnf) | ((with_reducible refine CallX.all ?_); refine CallW.of_ok (g1 _ _ rfl) ?_; conv => whnf) | ((with_reducible refine CallX.all ?_); refine CallW.of_ok (g2 _ _ rfl) ?_; conv => whnf) | ((with_reducible refine CallX.all ?_); refine CallW.of_ok (g3 _ _ rfl) ?_; conv => whnf) | ((with_reducible refine CallX.all ?_); refine CallW.of_ok (g4 _ _ rfl) ?_; conv => whnf) | ((with_reducible refine And.intro ?hh ?_); (case hh => exact condA); conv => whnf) | fail))
  all_goals first | (refine ⟨[], ?_, rfl, rfl, trivial, trivs⟩; simp only [renV, renL]; (first | done | rfl | (simp; done) | (simp; omega) | grind)) | (exfalso; omega)
end Go.Proofs.K
