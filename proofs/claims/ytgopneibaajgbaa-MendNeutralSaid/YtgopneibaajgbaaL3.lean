/- What the functions answer that the laws call, one after another (L3). -/
import Derived.Test.YtgopneibaajgbaaAs6
import Derived.Test.YtgopneibaajgbaaL2

set_option linter.unusedVariables false
namespace Go.Proofs.H
open Go.As
set_option maxRecDepth 20000
set_option linter.unusedVariables false
set_option linter.unusedSimpArgs false

/-! ### Lists of which less is said: whether there is room behind them -/

inductive Wk : V → V → Prop
  | same (v : V) : Wk v v
  | rsl {ex : Bool} {sz n : Nat} {g : Nat → List V} : Wk (.rsl ex sz n g) (.rsl false sz n g)
  | tup {l l' : List V} (hl : l.length = l'.length) (h : ∀ (i : Nat) (v v' : V), l[i]? = some v → l'[i]? = some v' → Wk v v') : Wk (.tup l) (.tup l')
theorem Wk.vr {v v' : V} (h : Wk v v') : ∀ {m : M} {x : Value}, VR m v x → VR m v' x := by
  induction h with
  | same v => exact fun h => h
  | rsl =>
    intro m x hx
    cases hx with
    | rsl hx =>
      cases hx with
      | rsl hf hn he hl ho hx => exact .rsl (.rsl hf hn (fun h => by cases h) hl ho hx)
      | rsl0 => exact .rsl .rsl0
  | tup hl _ ih =>
    intro m x hx
    cases hx with
    | tup l hc =>
      refine .tup (by rw [← hl]; exact l) (fun i v x hv hx => ?_)
      have hi := (List.getElem?_eq_some_iff.1 hv).1
      exact ih i _ v (List.getElem?_eq_getElem (by rw [hl]; exact hi)) hv (hc i _ x (List.getElem?_eq_getElem (by rw [hl]; exact hi)) hx)
inductive WkL : List V → List V → Prop
  | nil : WkL [] []
  | cons {v v' : V} {l l' : List V} (h : Wk v v') (hs : WkL l l') : WkL (v :: l) (v' :: l')
theorem WkL.all {l l' : List V} (h : WkL l l') : l.length = l'.length ∧ ∀ (i : Nat) (v v' : V), l[i]? = some v → l'[i]? = some v' → Wk v v' := by
  induction h with
  | nil => exact ⟨rfl, fun i v v' h => by simp at h⟩
  | cons h _ ih =>
    refine ⟨by simp [ih.1], fun i v v' hv hv' => ?_⟩
    cases i with
    | zero => simp at hv hv'; subst hv; subst hv'; exact h
    | succ i => exact ih.2 i v v' (by simpa using hv) (by simpa using hv')
theorem WkL.tup {l l' : List V} (h : WkL l l') : Wk (.tup l) (.tup l') := .tup h.all.1 h.all.2
theorem CallOk.weak {f : FuncId} {args : List V} {h h' : As.H} {v v' : V} (hc : CallOk Try.prog f args h v h') (hl : Wk v v') : CallOk Try.prog f args h v' h' := by
  intro base m w xs hr hB hvs
  obtain ⟨h1, h2⟩ := hc base m w xs hr hB hvs
  refine ⟨h1, CallsIn.mono h2 ?_⟩
  rintro e w' ⟨m', x, rfl, hs, hv⟩
  exact ⟨m', x, rfl, hs, hl.vr hv⟩

/-! ### A valid plate, in the laws -/

/-- A valid plate. -/
structure Pv (W H n : Nat) (d : Nat → Int) : Prop where
  hw : 1 ≤ W ∧ W ≤ 6
  hh : 1 ≤ H ∧ H ≤ 6
  hn : n = W * H
  hd : ∀ i, i < n → 0 ≤ d i ∧ d i ≤ 30
theorem Pv.of {W H : Int} {k : Nat} {d : Nat → Int} (h : ckP W H k d = 0) : ∃ w h : Nat, W = w ∧ H = h ∧ Pv w h k d := by
  obtain ⟨w, h', e1, e2, hW, hH, hk⟩ := ckP_nat h
  exact ⟨w, h', e1, e2, hW, hH, hk, (ckP_n h).2.2⟩
section
variable {W H n : Nat} {d : Nat → Int}
theorem Pv.ck (p : Pv W H n d) : ckP W H n d = 0 := ckP_v ⟨by have := p.hw; omega, by have := p.hh; omega⟩ p.hn p.hd
theorem Pv.le (p : Pv W H n d) : 1 ≤ n ∧ n ≤ 36 := by rw [p.hn]; exact wh_le p.hw p.hh
theorem Pv.g (p : Pv W H n d) : Gr n (adI W H) (wgt W) := by rw [p.hn]; exact gr_ok p.hw p.hh
theorem Pv.d0 (p : Pv W H n d) : ∀ k, k < n → 0 ≤ d k := fun k hk => (p.hd k hk).1
theorem Pv.mid (p : Pv W H n d) : Mid n (adI W H) (wgt W) d (xF W H d, uF W H d) := by
  have := fin_mid p.g p.d0
  rw [p.hn] at this ⊢
  exact this
theorem Pv.flat (p : Pv W H n d) : ∀ k, k < n → xF W H d k ≤ 3 := by
  have := fin_flat p.g p.d0
  rw [p.hn] at this ⊢
  exact this
theorem Pv.x (p : Pv W H n d) : Pv W H n (xF W H d) := ⟨p.hw, p.hh, p.hn, fun i hi => by have := p.flat i hi; have := p.mid.nn i hi; dsimp only at this; omega⟩
theorem Pv.ptd (p : Pv W H n d) : pt n (wgt W) d ≤ 12960 := by
  have := p.le
  have h1 := pt_le p.g (a := d) (B := 30) (C := 12) (fun k hk => wgt_le p.hw p.hh k (by rw [← p.hn]; exact hk)) (fun k hk => (p.hd k hk).2) (by omega)
  have h2 : ((n : Nat) : Int) * (12 * 30) ≤ 36 * (12 * 30) := Int.mul_le_mul_of_nonneg_right (by omega) (by omega)
  omega
theorem Pv.u (p : Pv W H n d) : ∀ k, k < n → 0 ≤ uF W H d k ∧ uF W H d k ≤ 6480 := fun k hk => by
  have h1 := p.mid.pv k hk
  have h2 := p.mid.vn k hk
  have h3 := pt_nn p.g p.mid.nn
  have h4 := p.ptd
  dsimp only at h1 h2 h3
  omega
theorem flattenV (p : Pv W H n d) (h : As.H) : CallOk Try.prog 27 [plV W H false n d] h (.tup [.rsl false 1 n (iG (xF W H d)), .rsl false 1 n (iG (uF W H d)), .int .i64 0]) h := by
  have := CallOk.weak (flatten_ok h W H p.hw p.hh false n d p.hn p.hd) (WkL.tup (.cons .rsl (.cons .rsl (.cons (.same _) .nil))))
  rwa [← p.hn] at this
theorem ckV (p : Pv W H n d) (h : As.H) : CallOk Try.prog 23 [plV W H false n d] h (.int .i64 0) h := by
  have := checkPlateR_ok h W H false n d (by have := p.le; omega)
  rwa [p.ck] at this
/-- CheckBlows of the blows themselves. -/
theorem cbV (p : Pv W H n d) (h : As.H) : CallOk Try.prog 26 [plV W H false n d, .rsl false 1 n (iG (uF W H d))] h (.int .i64 0) h :=
  checkBlowsR_ok h W H p.hw p.hh n d p.hn p.hd false n (uF W H d) p.hn (fun i hi => by have := p.u i hi; omega) true (by
    refine (allF_t fun j hj => decide_eq_true ?_).symm
    have := p.mid.eq j (by rw [p.hn]; exact hj)
    have h2 := p.flat j (by rw [p.hn]; exact hj)
    dsimp only at this
    rw [← p.hn, ← this]
    exact h2)
theorem greatV (p : Pv W H n d) (h : As.H) : CallOk Try.prog 18 [plV W H false n d] h (.bool false) h := by
  have := great_ok h W H false n d (by have := p.le; omega)
  rwa [decide_eq_false (by have := p.le; omega)] at this
theorem fineV (p : Pv W H n d) (h : As.H) : CallOk Try.prog 42 [plV W H false n d] h (.bool true) h := by
  have k1 := fun h' => greatV p h'
  have k2 := fun h' => ckV p h'
  refine CallOk.run0 Try.func42 rfl rfl rfl rfl rfl (WpR.of_vc ?_)
  (conv => whnf); (repeat' (first | ((with_reducible refine ifb_mk (fun hc => ?_) (fun hc => ?_)) <;> ((try simp only [decide_eq_true_eq, decide_eq_false_iff_not, Bool.not_eq_true', Bool.not_eq_false', Int.not_lt, Int.not_le, ne_eq, Decidable.not_not, beq_iff_eq, List.cons.injEq, and_true] at hc); (first | (exfalso; omega) | exact absurd True.intro hc | conv => whnf))) | ((with_reducible refine And.intro True.intro ?_); conv => whnf) | ((with_reducible refine CallX.all ?_); refine CallW.of_ok (k1 _) ?_; conv => whnf) | ((with_reducible refine CallX.all ?_); refine CallW.of_ok (k2 _) ?_; conv => whnf) | ((with_reducible refine grd_ex ?_); refine ex_ok (k1 _) ?_; conv => whnf) | ((with_reducible refine grd_ex ?_); refine ex_ok (k2 _) ?_; conv => whnf) | ((with_reducible refine And.intro ?hh ?_); (case hh => exact condA); conv => whnf) | fail))
  all_goals first | (refine ⟨[], ?_, rfl, rfl, trivial, trivs⟩; simp only [renV, renL]; (first | done | rfl | (simp; done) | (simp; omega) | grind)) | (exfalso; omega)
end
theorem fine_not (h : As.H) (W H : Int) (k : Nat) (d : Nat → Int) (hk : k ≤ 9223372036854775807) (hb : 50 < k ∨ ckP W H k d ≠ 0) : CallOk Try.prog 42 [plV W H false k d] h (.bool false) h := by
  have k1 := fun h' => great_ok h' W H false k d hk
  have k2 := fun h' => checkPlateR_ok h' W H false k d hk
  by_cases hg : 50 < k
  · rw [decide_eq_true hg] at k1
    refine CallOk.run0 Try.func42 rfl rfl rfl rfl rfl (WpR.of_vc ?_)
    (conv => whnf); (repeat' (first | ((with_reducible refine ifb_mk (fun hc => ?_) (fun hc => ?_)) <;> ((try simp only [decide_eq_true_eq, decide_eq_false_iff_not, Bool.not_eq_true', Bool.not_eq_false', Int.not_lt, Int.not_le, ne_eq, Decidable.not_not, beq_iff_eq, List.cons.injEq, and_true] at hc); (first | (exfalso; omega) | exact absurd True.intro hc | conv => whnf))) | ((with_reducible refine And.intro True.intro ?_); conv => whnf) | ((with_reducible refine CallX.all ?_); refine CallW.of_ok (k1 _) ?_; conv => whnf) | ((with_reducible refine CallX.all ?_); refine CallW.of_ok (k2 _) ?_; conv => whnf) | ((with_reducible refine grd_ex ?_); refine ex_ok (k1 _) ?_; conv => whnf) | ((with_reducible refine grd_ex ?_); refine ex_ok (k2 _) ?_; conv => whnf) | ((with_reducible refine And.intro ?hh ?_); (case hh => exact condA); conv => whnf) | fail))
    all_goals first | (refine ⟨[], ?_, rfl, rfl, trivial, trivs⟩; simp only [renV, renL]; (first | done | rfl | (simp; done) | (simp; omega) | grind)) | (exfalso; omega)
  · have hc : ckP W H k d ≠ 0 := by rcases hb with h | h; exact absurd h hg; exact h
    rw [decide_eq_false hg] at k1
    generalize ckP W H k d = e at *
    refine CallOk.run0 Try.func42 rfl rfl rfl rfl rfl (WpR.of_vc ?_)
    (conv => whnf); (repeat' (first | ((with_reducible refine ifb_mk (fun hc => ?_) (fun hc => ?_)) <;> ((try simp only [decide_eq_true_eq, decide_eq_false_iff_not, Bool.not_eq_true', Bool.not_eq_false', Int.not_lt, Int.not_le, ne_eq, Decidable.not_not, beq_iff_eq, List.cons.injEq, and_true] at hc); (first | (exfalso; omega) | exact absurd True.intro hc | conv => whnf))) | ((with_reducible refine And.intro True.intro ?_); conv => whnf) | ((with_reducible refine CallX.all ?_); refine CallW.of_ok (k1 _) ?_; conv => whnf) | ((with_reducible refine CallX.all ?_); refine CallW.of_ok (k2 _) ?_; conv => whnf) | ((with_reducible refine grd_ex ?_); refine ex_ok (k1 _) ?_; conv => whnf) | ((with_reducible refine grd_ex ?_); refine ex_ok (k2 _) ?_; conv => whnf) | ((with_reducible refine And.intro ?hh ?_); (case hh => exact condA); conv => whnf) | fail))
    all_goals first | (refine ⟨[], ?_, rfl, rfl, trivial, trivs⟩; simp only [renV, renL]; (first | done | rfl | (simp; done) | (simp; omega) | grind)) | (exfalso; omega) | (refine ⟨[], ?_, rfl, rfl, trivial, trivs⟩; simp only [renV]; rw [decide_eq_false hc])
/-- A law asks something of valid plates only. -/
theorem fine_split (W H : Int) (k : Nat) (d : Nat → Int) (hk : k ≤ 9223372036854775807) : (∃ w h : Nat, W = w ∧ H = h ∧ Pv w h k d) ∨ ∀ h', CallOk Try.prog 42 [plV W H false k d] h' (.bool false) h' := by
  by_cases hc : 50 < k ∨ ckP W H k d ≠ 0
  · exact .inr fun h' => fine_not h' W H k d hk hc
  · exact .inl (Pv.of (Classical.byContradiction fun h => hc (.inr h)))
set_option maxHeartbeats 8000000 in
theorem flatV {W H n : Nat} {d : Nat → Int} (p : Pv W H n d) (h : As.H) : CallOk Try.prog 43 [plV W H false n d] h (.tup [plV W H false n (xF W H d), .rsl false 1 n (iG (uF W H d)), .bool true]) h := by
  have hle := p.le
  have k1 := fun h' => flattenV p h'
  have k2 := fun h' => ckV p.x h'
  have k3 := fun h' => isFlatR_ok h' n (xF W H d) false (by omega)
  rw [allF_t (p := fun j => decide (xF W H d j ≤ 3)) fun j hj => decide_eq_true (p.flat j hj)] at k3
  have k4 := fun h' => cbV p h'
  have hbl : ∀ k, k < W * H → 0 ≤ uF W H d k ∧ uF W H d k ≤ 1000000 := fun k hk => by have := p.u k (by rw [p.hn]; exact hk); omega
  have hd0 : ∀ i, i < W * H → 0 ≤ d i ∧ d i ≤ 30 := fun i hi => p.hd i (by rw [p.hn]; exact hi)
  have hrng := fun j hj => hitsQ_rng (W := W) (H := H) (a := d) (E := []) (c := 0) (bl := uF W H d) hbl hd0 j hj
  have hqa := fun j => hitsQ_a (W := W) (H := H) (a := d) (E := []) (c := 0) (bl := uF W H d) (W * H) (Nat.le_refl _) j
  obtain ⟨Q, hQ⟩ : ∃ Q : Nat → Nat → Int, ∀ j, Q j = (hitsQ W H d [] 0 (uF W H d) j).1.1 := ⟨fun j => _, fun j => rfl⟩
  have hQ0 : Q 0 = d := by rw [hQ]; rfl
  have hQS : ∀ j, Q (j + 1) = hitA (adI W H) (Q j) j (uF W H d j) := fun j => by rw [hQ, hQ]; rfl
  have hQn : ∀ j, j < n → Q n j = xF W H d j := fun j hj => by
    have h1 := p.mid.eq j hj
    dsimp only at h1
    rw [h1, p.hn, hQ, hqa j]
    congr 1
    exact dl_congr (by rw [← p.hn]; exact hj) fun i hi => if_pos hi
  have k5 := fun h' => longs_ok h' false false n n (Q n) (xF W H d) (by omega) (by omega)
  rw [eqB_t rfl hQn] at k5
  have kH : ∀ (h' : As.H) j, j < n → CallOk Try.prog 44 [.int .i64 W, .int .i64 H, .rsl false 1 n (iG (Q j)), .int .i64 j, .int .i64 (uF W H d j)] h' (.rsl false 1 n (iG (Q (j + 1)))) h' := fun h' j hj => by
    rw [hQS]
    exact hitR_ok h' W H j p.hw p.hh (by rw [← p.hn]; exact hj) n p.hn false (Q j) (uF W H d j) (fun i hi => by have := hrng j (by rw [← p.hn]; omega) i (by rw [← p.hn]; omega); have := p.le; have := p.hn; rw [hQ]; omega) (by have := p.u j hj; omega)
  clear hrng hqa hQ hQS hQn hbl hd0
  generalize xF W H d = x at *
  generalize uF W H d = u at *
  rw [← hQ0] at k1 k4 ⊢
  refine CallOk.run0 Try.func43 rfl rfl rfl rfl rfl (WpR.of_vc ?_)
  (conv => whnf); (repeat' (first | ((with_reducible refine ifb_mk (fun hc => ?_) (fun hc => ?_)) <;> ((try simp only [decide_eq_true_eq, decide_eq_false_iff_not, Bool.not_eq_true', Bool.not_eq_false', Int.not_lt, Int.not_le, ne_eq, Decidable.not_not, beq_iff_eq, List.cons.injEq, and_true] at hc); (first | (exfalso; omega) | exact absurd True.intro hc | conv => whnf))) | ((with_reducible refine And.intro True.intro ?_); conv => whnf) | ((with_reducible refine CallX.all ?_); refine CallW.of_ok (k1 _) ?_; conv => whnf) | ((with_reducible refine CallX.all ?_); refine CallW.of_ok (k2 _) ?_; conv => whnf) | ((with_reducible refine CallX.all ?_); refine CallW.of_ok (k3 _) ?_; conv => whnf) | ((with_reducible refine CallX.all ?_); refine CallW.of_ok (k4 _) ?_; conv => whnf) | ((with_reducible refine WpR.draw (id := 9) mixed [0, 1, 2, 3, 4, 5, 6, 7, 8, 9, 10, 11] [0, 1, 0, 4, 0, 0, 0, 0, 192, 448, 1023, 2047] ?hh ?_); (case hh => kernel_rfl); conv => whnf) | ((with_reducible refine WpR.draw (id := 10) mixed [0, 1, 2, 3, 4, 5, 6, 7] [0, 0, 0, 0, 12, 29, 63, 127] ?hh ?_); (case hh => kernel_rfl); conv => whnf) | ((with_reducible refine grd_ex ?_); refine ex_ok (k2 _) ?_; conv => whnf) | ((with_reducible refine grd_ex ?_); refine ex_ok (k3 _) ?_; conv => whnf) | ((with_reducible refine grd_ex ?_); refine ex_ok (k4 _) ?_; conv => whnf) | ((with_reducible refine And.intro ?hh ?_); (case hh => exact condA); conv => whnf) | fail))
  refine WpR.loopA (ι := Nat) [] [1, 2, 5, 6, 8] [] [] 3 (fun j => [(10, .int .i64 j), (9, .rsl false 1 n (iG (Q j)))]) (fun _ => []) (fun j => n - j) (fun j => j ≤ n) ?_ (0) (Nat.zero_le _) [] Back.auto
  intro j hj
  refine WpR.of_vc ?_
  by_cases hjl : j < n
  · have kHj := fun h' => kH h' j hjl
    (conv => whnf); (repeat' (first | ((with_reducible refine ifb_mk (fun hc => ?_) (fun hc => ?_)) <;> ((try simp only [decide_eq_true_eq, decide_eq_false_iff_not, Bool.not_eq_true', Bool.not_eq_false', Int.not_lt, Int.not_le, ne_eq, Decidable.not_not, beq_iff_eq, List.cons.injEq, and_true] at hc); (first | (exfalso; omega) | exact absurd True.intro hc | conv => whnf))) | ((with_reducible refine And.intro True.intro ?_); conv => whnf) | ((with_reducible refine grd_and ?_); refine And.intro (hjl) ?_; conv => whnf) | ((with_reducible refine CallX.all ?_); refine CallW.of_ok (kHj _) ?_; conv => whnf) | ((with_reducible refine WpR.draw (id := 9) mixed [0, 1, 2, 3, 4, 5, 6, 7, 8, 9, 10, 11] [0, 1, 0, 4, 0, 0, 0, 0, 192, 448, 1023, 2047] ?hh ?_); (case hh => kernel_rfl); conv => whnf) | ((with_reducible refine WpR.draw (id := 10) mixed [0, 1, 2, 3, 4, 5, 6, 7] [0, 0, 0, 0, 12, 29, 63, 127] ?hh ?_); (case hh => kernel_rfl); conv => whnf) | ((with_reducible refine grd_ex ?_); refine ex_ok (kHj _) ?_; conv => whnf) | ((with_reducible refine And.intro ?hh ?_); (case hh => exact condA); conv => whnf) | fail))
    exact ⟨j + 1, [], by omega, by omega, Back.auto⟩
  · have e : j = n := by omega
    subst e
    (conv => whnf); (repeat' (first | ((with_reducible refine ifb_mk (fun hc => ?_) (fun hc => ?_)) <;> ((try simp only [decide_eq_true_eq, decide_eq_false_iff_not, Bool.not_eq_true', Bool.not_eq_false', Int.not_lt, Int.not_le, ne_eq, Decidable.not_not, beq_iff_eq, List.cons.injEq, and_true] at hc); (first | (exfalso; omega) | exact absurd True.intro hc | conv => whnf))) | ((with_reducible refine And.intro True.intro ?_); conv => whnf) | ((with_reducible refine grd_and ?_); refine And.intro (hjl) ?_; conv => whnf) | ((with_reducible refine WpR.draw (id := 9) mixed [0, 1, 2, 3, 4, 5, 6, 7, 8, 9, 10, 11] [0, 1, 0, 4, 0, 0, 0, 0, 192, 448, 1023, 2047] ?hh ?_); (case hh => kernel_rfl); conv => whnf) | ((with_reducible refine WpR.draw (id := 10) mixed [0, 1, 2, 3, 4, 5, 6, 7] [0, 0, 0, 0, 12, 29, 63, 127] ?hh ?_); (case hh => kernel_rfl); conv => whnf) | ((with_reducible refine grd_ex ?_); refine ex_ok (k5 _) ?_; conv => whnf) | ((with_reducible refine And.intro ?hh ?_); (case hh => exact condA); conv => whnf) | fail))
    (refine ⟨[], ?_, rfl, rfl, trivial, trivs⟩; simp only [renV, renL]; (first | done | rfl | (simp; done) | (simp; omega) | grind))
end Go.Proofs.H

