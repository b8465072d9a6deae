/- What the functions answer that the laws call, one after another (L3). -/
import Derived.Test.YtgopneibaajgbaaAs6
import Derived.Test.YtgopneibaajgbaaL2
import Derived.Test.YtgopneibaajgbaaWk

set_option linter.unusedVariables false
namespace Go.Proofs.H
open Go.As
set_option maxRecDepth 20000
set_option linter.unusedVariables false
set_option linter.unusedSimpArgs false

/-! ### Lists of which less is said: whether there is room behind them -/

inductive Wk : V → V → Prop
  | same (v : V) : Wk v v
  | rsl {ex : Bool} {sz n : Nat} {g : Nat → List V} : Wk (.rsl ex sz n g) (.rsl false sz n g)
  | tup {l l' : List V} (hl : l.length = l'.length) (h : ∀ (i : Nat) (v v' : V), l[i]? = some v → l'[i]? = some v' → Wk v v') : Wk (.tup l) (.tup l')
theorem Wk.vr {v v' : V} (h : Wk v v') : ∀ {m : M} {x : Value}, VR m v x → VR m v' x := by
  induction h with
  | same v => exact fun h => h
  | rsl =>
    intro m x hx
    cases hx with
    | rsl hx =>
      cases hx with
      | rsl hf hn he hl ho hx => exact .rsl (.rsl hf hn (fun h => by cases h) hl ho hx)
      | rsl0 => exact .rsl .rsl0
  | tup hl _ ih =>
    intro m x hx
    cases hx with
    | tup l hc =>
      refine .tup (by rw [← hl]; exact l) (fun i v x hv hx => ?_)
      have hi := (List.getElem?_eq_some_iff.1 hv).1
      exact ih i _ v (List.getElem?_eq_getElem (by rw [hl]; exact hi)) hv (hc i _ x (List.getElem?_eq_getElem (by rw [hl]; exact hi)) hx)
inductive WkL : List V → List V → Prop
  | nil : WkL [] []
  | cons {v v' : V} {l l' : List V} (h : Wk v v') (hs : WkL l l') : WkL (v :: l) (v' :: l')
theorem WkL.all {l l' : List V} (h : WkL l l') : l.length = l'.length ∧ ∀ (i : Nat) (v v' : V), l[i]? = some v → l'[i]? = some v' → Wk v v' := by
  induction h with
  | nil => exact ⟨rfl, fun i v v' h => by simp at h⟩
  | cons h _ ih =>
    refine ⟨by simp [ih.1], fun i v v' hv hv' => ?_⟩
    cases i with
    | zero => simp at hv hv'; subst hv; subst hv'; exact h
    | succ i => exact ih.2 i v v' (by simpa using hv) (by simpa using hv')
theorem WkL.tup {l l' : List V} (h : WkL l l') : Wk (.tup l) (.tup l') := .tup h.all.1 h.all.2
theorem CallOk.weak {f : FuncId} {args : List V} {h h' : As.H} {v v' : V} (hc : CallOk Try.prog f args h v h') (hl : Wk v v') : CallOk Try.prog f args h v' h' := by
  intro base m w xs hr hB hvs
  obtain ⟨h1, h2⟩ := hc base m w xs hr hB hvs
  refine ⟨h1, CallsIn.mono h2 ?_⟩
  rintro e w' ⟨m', x, rfl, hs, hv⟩
  exact ⟨m', x, rfl, hs, hl.vr hv⟩

/-! ### A valid plate, in the laws -/

/-- A valid plate. -/
structure Pv (W H n : Nat) (d : Nat → Int) : Prop where
  hw : 1 ≤ W ∧ W ≤ 6
  hh : 1 ≤ H ∧ H ≤ 6
  hn : n = W * H
  hd : ∀ i, i < n → 0 ≤ d i ∧ d i ≤ 30
theorem Pv.of {W H : Int} {k : Nat} {d : Nat → Int} (h : ckP W H k d = 0) : ∃ w h : Nat, W = w ∧ H = h ∧ Pv w h k d := by
  obtain ⟨w, h', e1, e2, hW, hH, hk⟩ := ckP_nat h
  exact ⟨w, h', e1, e2, hW, hH, hk, (ckP_n h).2.2⟩
section
variable {W H n : Nat} {d : Nat → Int}
theorem Pv.ck (p : Pv W H n d) : ckP W H n d = 0 := ckP_v ⟨by have := p.hw; omega, by have := p.hh; omega⟩ p.hn p.hd
theorem Pv.le (p : Pv W H n d) : 1 ≤ n ∧ n ≤ 36 := by rw [p.hn]; exact wh_le p.hw p.hh
theorem Pv.g (p : Pv W H n d) : Gr n (adI W H) (wgt W) := by rw [p.hn]; exact gr_ok p.hw p.hh
theorem Pv.d0 (p : Pv W H n d) : ∀ k, k < n → 0 ≤ d k := fun k hk => (p.hd k hk).1
theorem Pv.mid (p : Pv W H n d) : Mid n (adI W H) (wgt W) d (xF W H d, uF W H d) := by
  have := fin_mid p.g p.d0
  rw [p.hn] at this ⊢
  exact this
theorem Pv.flat (p : Pv W H n d) : ∀ k, k < n → xF W H d k ≤ 3 := by
  have := fin_flat p.g p.d0
  rw [p.hn] at this ⊢
  exact this
theorem Pv.x (p : Pv W H n d) : Pv W H n (xF W H d) := ⟨p.hw, p.hh, p.hn, fun i hi => by have := p.flat i hi; have := p.mid.nn i hi; dsimp only at this; omega⟩
theorem Pv.ptd (p : Pv W H n d) : pt n (wgt W) d ≤ 12960 := by
  have := p.le
  have h1 := pt_le p.g (a := d) (B := 30) (C := 12) (fun k hk => wgt_le p.hw p.hh k (by rw [← p.hn]; exact hk)) (fun k hk => (p.hd k hk).2) (by omega)
  have h2 : ((n : Nat) : Int) * (12 * 30) ≤ 36 * (12 * 30) := Int.mul_le_mul_of_nonneg_right (by omega) (by omega)
  omega
theorem Pv.u (p : Pv W H n d) : ∀ k, k < n → 0 ≤ uF W H d k ∧ uF W H d k ≤ 6480 := fun k hk => by
  have h1 := p.mid.pv k hk
  have h2 := p.mid.vn k hk
  have h3 := pt_nn p.g p.mid.nn
  have h4 := p.ptd
  dsimp only at h1 h2 h3
  omega
theorem flattenV (p : Pv W H n d) (h : As.H) : CallOk Try.prog 27 [plV W H false n d] h (.tup [.rsl false 1 n (iG (xF W H d)), .rsl false 1 n (iG (uF W H d)), .int .i64 0]) h := by
  have := CallOk.weak (flatten_ok h W H p.hw p.hh false n d p.hn p.hd) (WkL.tup (.cons .rsl (.cons .rsl (.cons (.same _) .nil))))
  rwa [← p.hn] at this
theorem lostV (p : Pv W H n d) (h : As.H) : CallOk Try.prog 29 [plV W H false n d] h (.tup [.int .i64 (sm n d - sm n (xF W H d)), .int .i64 0]) h := by
  have := lost_ok h W H p.hw p.hh false n d p.hn p.hd
  rwa [← p.hn] at this
theorem ckV (p : Pv W H n d) (h : As.H) : CallOk Try.prog 23 [plV W H false n d] h (.int .i64 0) h := by
  have := checkPlateR_ok h W H false n d (by have := p.le; omega)
  rwa [p.ck] at this
/-- CheckBlows of the blows themselves. -/
theorem cbV (p : Pv W H n d) (h : As.H) : CallOk Try.prog 26 [plV W H false n d, .rsl false 1 n (iG (uF W H d))] h (.int .i64 0) h :=
  checkBlowsR_ok h W H p.hw p.hh n d p.hn p.hd false n (uF W H d) p.hn (fun i hi => by have := p.u i hi; omega) true (by
    refine (allF_t fun j hj => decide_eq_true ?_).symm
    have := p.mid.eq j (by rw [p.hn]; exact hj)
    have h2 := p.flat j (by rw [p.hn]; exact hj)
    dsimp only at this
    rw [← p.hn, ← this]
    exact h2)
theorem greatV (p : Pv W H n d) (h : As.H) : CallOk Try.prog 18 [plV W H false n d] h (.bool false) h := by
  have := great_ok h W H false n d (by have := p.le; omega)
  rwa [decide_eq_false (by have := p.le; omega)] at this
theorem fineV (p : Pv W H n d) (h : As.H) : CallOk Try.prog 42 [plV W H false n d] h (.bool true) h := by
  have k1 := fun h' => greatV p h'
  have k2 := fun h' => ckV p h'
  refine CallOk.run0 Try.func42 rfl rfl rfl rfl rfl (WpR.of_vc ?_)
  (conv => whnf); (repeat' (first | ((with_reducible refine ifb_mk (fun hc => ?_) (fun hc => ?_)) <;> ((try simp only [decide_eq_true_eq, decide_eq_false_iff_not, Bool.not_eq_true', Bool.not_eq_false', Int.not_lt, Int.not_le, ne_eq, Decidable.not_not, beq_iff_eq, List.cons.injEq, and_true] at hc); (first | (exfalso; omega) | exact absurd True.intro hc | conv => whnf))) | ((with_reducible refine And.intro True.intro ?_); conv => whnf) | ((with_reducible refine CallX.all ?_); refine CallW.of_ok (k1 _) ?_; conv => whnf) | ((with_reducible refine CallX.all ?_); refine CallW.of_ok (k2 _) ?_; conv => whnf) | ((with_reducible refine grd_ex ?_); refine ex_ok (k1 _) ?_; conv => whnf) | ((with_reducible refine grd_ex ?_); refine ex_ok (k2 _) ?_; conv => whnf) | ((with_reducible refine And.intro ?hh ?_); (case hh => exact condA); conv => whnf) | fail))
  all_goals first | (refine ⟨[], ?_, rfl, rfl, trivial, trivs⟩; simp only [renV, renL]; (first | done | rfl | (simp; done) | (simp; omega) | grind)) | (exfalso; omega)
end
theorem fine_not (h : As.H) (W H : Int) (k : Nat) (d : Nat → Int) (hk : k ≤ 9223372036854775807) (hb : 50 < k ∨ ckP W H k d ≠ 0) : CallOk Try.prog 42 [plV W H false k d] h (.bool false) h := by
  have k1 := fun h' => great_ok h' W H false k d hk
  have k2 := fun h' => checkPlateR_ok h' W H false k d hk
  by_cases hg : 50 < k
  · rw [decide_eq_true hg] at k1
    refine CallOk.run0 Try.func42 rfl rfl rfl rfl rfl (WpR.of_vc ?_)
    (conv => whnf); (repeat' (first | ((with_reducible refine ifb_mk (fun hc => ?_) (fun hc => ?_)) <;> ((try simp only [decide_eq_true_eq, decide_eq_false_iff_not, Bool.not_eq_true', Bool.not_eq_false', Int.not_lt, Int.not_le, ne_eq, Decidable.not_not, beq_iff_eq, List.cons.injEq, and_true] at hc); (first | (exfalso; omega) | exact absurd True.intro hc | conv => whnf))) | ((with_reducible refine And.intro True.intro ?_); conv => whnf) | ((with_reducible refine CallX.all ?_); refine CallW.of_ok (k1 _) ?_; conv => whnf) | ((with_reducible refine CallX.all ?_); refine CallW.of_ok (k2 _) ?_; conv => whnf) | ((with_reducible refine grd_ex ?_); refine ex_ok (k1 _) ?_; conv => whnf) | ((with_reducible refine grd_ex ?_); refine ex_ok (k2 _) ?_; conv => whnf) | ((with_reducible refine And.intro ?hh ?_); (case hh => exact condA); conv => whnf) | fail))
    all_goals first | (refine ⟨[], ?_, rfl, rfl, trivial, trivs⟩; simp only [renV, renL]; (first | done | rfl | (simp; done) | (simp; omega) | grind)) | (exfalso; omega)
  · have hc : ckP W H k d ≠ 0 := by rcases hb with h | h; exact absurd h hg; exact h
    rw [decide_eq_false hg] at k1
    generalize ckP W H k d = e at *
    refine CallOk.run0 Try.func42 rfl rfl rfl rfl rfl (WpR.of_vc ?_)
    (conv => whnf); (repeat' (first | ((with_reducible refine ifb_mk (fun hc => ?_) (fun hc => ?_)) <;> ((try simp only [decide_eq_true_eq, decide_eq_false_iff_not, Bool.not_eq_true', Bool.not_eq_false', Int.not_lt, Int.not_le, ne_eq, Decidable.not_not, beq_iff_eq, List.cons.injEq, and_true] at hc); (first | (exfalso; omega) | exact absurd True.intro hc | conv => whnf))) | ((with_reducible refine And.intro True.intro ?_); conv => whnf) | ((with_reducible refine CallX.all ?_); refine CallW.of_ok (k1 _) ?_; conv => whnf) | ((with_reducible refine CallX.all ?_); refine CallW.of_ok (k2 _) ?_; conv => whnf) | ((with_reducible refine grd_ex ?_); refine ex_ok (k1 _) ?_; conv => whnf) | ((with_reducible refine grd_ex ?_); refine ex_ok (k2 _) ?_; conv => whnf) | ((with_reducible refine And.intro ?hh ?_); (case hh => exact condA); conv => whnf) | fail))
    all_goals first | (refine ⟨[], ?_, rfl, rfl, trivial, trivs⟩; simp only [renV, renL]; (first | done | rfl | (simp; done) | (simp; omega) | grind)) | (exfalso; omega) | (refine ⟨[], ?_, rfl, rfl, trivial, trivs⟩; simp only [renV]; rw [decide_eq_false hc])
/-- A law asks something of valid plates only. -/
theorem fine_split (W H : Int) (k : Nat) (d : Nat → Int) (hk : k ≤ 9223372036854775807) : (∃ w h : Nat, W = w ∧ H = h ∧ Pv w h k d) ∨ ∀ h', CallOk Try.prog 42 [plV W H false k d] h' (.bool false) h' := by
  by_cases hc : 50 < k ∨ ckP W H k d ≠ 0
  · exact .inr fun h' => fine_not h' W H k d hk hc
  · exact .inl (Pv.of (Classical.byContradiction fun h => hc (.inr h)))
set_option maxHeartbeats 8000000 in
theorem flatV {W H n : Nat} {d : Nat → Int} (p : Pv W H n d) (h : As.H) : CallOk Try.prog 43 [plV W H false n d] h (.tup [plV W H false n (xF W H d), .rsl false 1 n (iG (uF W H d)), .bool true]) h := by
  have hle := p.le
  have k1 := fun h' => flattenV p h'
  have k2 := fun h' => ckV p.x h'
  have k3 := fun h' => isFlatR_ok h' n (xF W H d) false (by omega)
  rw [allF_t (p := fun j => decide (xF W H d j ≤ 3)) fun j hj => decide_eq_true (p.flat j hj)] at k3
  have k4 := fun h' => cbV p h'
  have hbl : ∀ k, k < W * H → 0 ≤ uF W H d k ∧ uF W H d k ≤ 1000000 := fun k hk => by have := p.u k (by rw [p.hn]; exact hk); omega
  have hd0 : ∀ i, i < W * H → 0 ≤ d i ∧ d i ≤ 30 := fun i hi => p.hd i (by rw [p.hn]; exact hi)
  have hrng := fun j hj => hitsQ_rng (W := W) (H := H) (a := d) (E := []) (c := 0) (bl := uF W H d) hbl hd0 j hj
  have hqa := fun j => hitsQ_a (W := W) (H := H) (a := d) (E := []) (c := 0) (bl := uF W H d) (W * H) (Nat.le_refl _) j
  obtain ⟨Q, hQ⟩ : ∃ Q : Nat → Nat → Int, ∀ j, Q j = (hitsQ W H d [] 0 (uF W H d) j).1.1 := ⟨fun j => _, fun j => rfl⟩
  have hQ0 : Q 0 = d := by rw [hQ]; rfl
  have hQS : ∀ j, Q (j + 1) = hitA (adI W H) (Q j) j (uF W H d j) := fun j => by rw [hQ, hQ]; rfl
  have hQn : ∀ j, j < n → Q n j = xF W H d j := fun j hj => by
    have h1 := p.mid.eq j hj
    dsimp only at h1
    rw [h1, p.hn, hQ, hqa j]
    congr 1
    exact dl_congr (by rw [← p.hn]; exact hj) fun i hi => if_pos hi
  have k5 := fun h' => longs_ok h' false false n n (Q n) (xF W H d) (by omega) (by omega)
  rw [eqB_t rfl hQn] at k5
  have kH : ∀ (h' : As.H) j, j < n → CallOk Try.prog 44 [.int .i64 W, .int .i64 H, .rsl false 1 n (iG (Q j)), .int .i64 j, .int .i64 (uF W H d j)] h' (.rsl false 1 n (iG (Q (j + 1)))) h' := fun h' j hj => by
    rw [hQS]
    exact hitR_ok h' W H j p.hw p.hh (by rw [← p.hn]; exact hj) n p.hn false (Q j) (uF W H d j) (fun i hi => by have := hrng j (by rw [← p.hn]; omega) i (by rw [← p.hn]; omega); have := p.le; have := p.hn; rw [hQ]; omega) (by have := p.u j hj; omega)
  clear hrng hqa hQ hQS hQn hbl hd0
  generalize xF W H d = x at *
  generalize uF W H d = u at *
  rw [← hQ0] at k1 k4 ⊢
  refine CallOk.run0 Try.func43 rfl rfl rfl rfl rfl (WpR.of_vc ?_)
  (conv => whnf); (repeat' (first | ((with_reducible refine ifb_mk (fun hc => ?_) (fun hc => ?_)) <;> ((try simp only [decide_eq_true_eq, decide_eq_false_iff_not, Bool.not_eq_true', Bool.not_eq_false', Int.not_lt, Int.not_le, ne_eq, Decidable.not_not, beq_iff_eq, List.cons.injEq, and_true] at hc); (first | (exfalso; omega) | exact absurd True.intro hc | conv => whnf))) | ((with_reducible refine And.intro True.intro ?_); conv => whnf) | ((with_reducible refine CallX.all ?_); refine CallW.of_ok (k1 _) ?_; conv => whnf) | ((with_reducible refine CallX.all ?_); refine CallW.of_ok (k2 _) ?_; conv => whnf) | ((with_reducible refine CallX.all ?_); refine CallW.of_ok (k3 _) ?_; conv => whnf) | ((with_reducible refine CallX.all ?_); refine CallW.of_ok (k4 _) ?_; conv => whnf) | ((with_reducible refine WpR.draw (id := 9) mixed [0, 1, 2, 3, 4, 5, 6, 7, 8, 9, 10, 11] [0, 1, 0, 4, 0, 0, 0, 0, 192, 448, 1023, 2047] ?hh ?_); (case hh => kernel_rfl); conv => whnf) | ((with_reducible refine WpR.draw (id := 10) mixed [0, 1, 2, 3, 4, 5, 6, 7] [0, 0, 0, 0, 12, 29, 63, 127] ?hh ?_); (case hh => kernel_rfl); conv => whnf) | ((with_reducible refine grd_ex ?_); refine ex_ok (k2 _) ?_; conv => whnf) | ((with_reducible refine grd_ex ?_); refine ex_ok (k3 _) ?_; conv => whnf) | ((with_reducible refine grd_ex ?_); refine ex_ok (k4 _) ?_; conv => whnf) | ((with_reducible refine And.intro ?hh ?_); (case hh => exact condA); conv => whnf) | fail))
  refine WpR.loopA (ι := Nat) [] [1, 2, 5, 6, 8] [] [] 3 (fun j => [(10, .int .i64 j), (9, .rsl false 1 n (iG (Q j)))]) (fun _ => []) (fun j => n - j) (fun j => j ≤ n) ?_ (0) (Nat.zero_le _) [] Back.auto
  intro j hj
  refine WpR.of_vc ?_
  by_cases hjl : j < n
  · have kHj := fun h' => kH h' j hjl
    (conv => whnf); (repeat' (first | ((with_reducible refine ifb_mk (fun hc => ?_) (fun hc => ?_)) <;> ((try simp only [decide_eq_true_eq, decide_eq_false_iff_not, Bool.not_eq_true', Bool.not_eq_false', Int.not_lt, Int.not_le, ne_eq, Decidable.not_not, beq_iff_eq, List.cons.injEq, and_true] at hc); (first | (exfalso; omega) | exact absurd True.intro hc | conv => whnf))) | ((with_reducible refine And.intro True.intro ?_); conv => whnf) | ((with_reducible refine grd_and ?_); refine And.intro (hjl) ?_; conv => whnf) | ((with_reducible refine CallX.all ?_); refine CallW.of_ok (kHj _) ?_; conv => whnf) | ((with_reducible refine WpR.draw (id := 9) mixed [0, 1, 2, 3, 4, 5, 6, 7, 8, 9, 10, 11] [0, 1, 0, 4, 0, 0, 0, 0, 192, 448, 1023, 2047] ?hh ?_); (case hh => kernel_rfl); conv => whnf) | ((with_reducible refine WpR.draw (id := 10) mixed [0, 1, 2, 3, 4, 5, 6, 7] [0, 0, 0, 0, 12, 29, 63, 127] ?hh ?_); (case hh => kernel_rfl); conv => whnf) | ((with_reducible refine grd_ex ?_); refine ex_ok (kHj _) ?_; conv => whnf) | ((with_reducible refine And.intro ?hh ?_); (case hh => exact condA); conv => whnf) | fail))
    exact ⟨j + 1, [], by omega, by omega, Back.auto⟩
  · have e : j = n := by omega
    subst e
    (conv => whnf); (repeat' (first | ((with_reducible refine ifb_mk (fun hc => ?_) (fun hc => ?_)) <;> ((try simp only [decide_eq_true_eq, decide_eq_false_iff_not, Bool.not_eq_true', Bool.not_eq_false', Int.not_lt, Int.not_le, ne_eq, Decidable.not_not, beq_iff_eq, List.cons.injEq, and_true] at hc); (first | (exfalso; omega) | exact absurd True.intro hc | conv => whnf))) | ((with_reducible refine And.intro True.intro ?_); conv => whnf) | ((with_reducible refine grd_and ?_); refine And.intro (hjl) ?_; conv => whnf) | ((with_reducible refine WpR.draw (id := 9) mixed [0, 1, 2, 3, 4, 5, 6, 7, 8, 9, 10, 11] [0, 1, 0, 4, 0, 0, 0, 0, 192, 448, 1023, 2047] ?hh ?_); (case hh => kernel_rfl); conv => whnf) | ((with_reducible refine WpR.draw (id := 10) mixed [0, 1, 2, 3, 4, 5, 6, 7] [0, 0, 0, 0, 12, 29, 63, 127] ?hh ?_); (case hh => kernel_rfl); conv => whnf) | ((with_reducible refine grd_ex ?_); refine ex_ok (k5 _) ?_; conv => whnf) | ((with_reducible refine And.intro ?hh ?_); (case hh => exact condA); conv => whnf) | fail))
    (refine ⟨[], ?_, rfl, rfl, trivial, trivs⟩; simp only [renV, renL]; (first | done | rfl | (simp; done) | (simp; omega) | grind))
end Go.Proofs.H

namespace Go.Proofs.H
open Go.As
set_option maxRecDepth 20000
set_option linter.unusedVariables false
set_option linter.unusedSimpArgs false

/-! ### MendLost -/

def dgB (W H : Nat) : Bool := allN (W * H) fun i => decide (((bsL W H i).length : Int) = sm (W * H) (adI W H i))
theorem dg_all : sizes dgB = true := by kernel_rfl
theorem bsL_deg {W H i : Nat} (hW : 1 ≤ W ∧ W ≤ 6) (hH : 1 ≤ H ∧ H ≤ 6) (hi : i < W * H) : ((bsL W H i).length : Int) = sm (W * H) (adI W H i) := of_decide_eq_true (allN_at (sizes_at dg_all hW hH) i hi)
theorem lost_eq {W H n : Nat} {d : Nat → Int} (p : Pv W H n d) : sm n d - sm n (xF W H d) = sm n fun i => uF W H d i * (4 - ((bsL W H i).length : Int)) := by
  have h1 : sm n (xF W H d) = sm n fun i => d i - dl n (adI W H) (uF W H d) i := sm_congr fun k hk => p.mid.eq k hk
  have h2 := dl_sym p.g (fun _ => 1) (uF W H d)
  rw [h1, sm_sub]
  have h3 : sm n (dl n (adI W H) (uF W H d)) = sm n fun k => 1 * dl n (adI W H) (uF W H d) k := sm_congr fun k _ => (Int.one_mul _).symm
  have h4 : (sm n fun i => uF W H d i * (4 - ((bsL W H i).length : Int))) = sm n fun k => uF W H d k * dl n (adI W H) (fun _ => 1) k := sm_congr fun k hk => by
    rw [bsL_deg p.hw p.hh (by rw [← p.hn]; exact hk), ← p.hn]
    congr 1
    unfold dl
    dsimp only
    rw [sm_congr (g := adI W H k) fun j _ => Int.mul_one _]
    omega
  rw [h4, ← h2, ← h3]
  omega
theorem ls_rng {W H n : Nat} {d : Nat → Int} (p : Pv W H n d) : ∀ j, j ≤ n → 0 ≤ sm j (fun i => uF W H d i * (4 - ((bsL W H i).length : Int))) ∧ sm j (fun i => uF W H d i * (4 - ((bsL W H i).length : Int))) ≤ 25920 * j
  | 0, _ => by simp [sm]
  | j + 1, hj => by
    have ih := ls_rng p j (by omega)
    have h1 := p.u j (by omega)
    have h2 := bsL_len W H j
    rw [sm]
    have h3 : 0 ≤ uF W H d j * (4 - ((bsL W H j).length : Int)) := Int.mul_nonneg h1.1 (by omega)
    have h4 : uF W H d j * (4 - ((bsL W H j).length : Int)) ≤ 6480 * 4 := Int.mul_le_mul h1.2 (by omega) (by omega) (by omega)
    omega
set_option maxHeartbeats 8000000 in
theorem mendLostV {W H n : Nat} {d : Nat → Int} (p : Pv W H n d) (h : As.H) : CallOk Try.prog 9 [plV W H false n d] h (.bool true) h := by
  have hle := p.le
  have hwh := p.hn
  have k0 := fun h' => fineV p h'
  have k1 := fun h' => flatV p h'
  have k2 := fun h' => lostV p h'
  have k3 := fun h' => flatV p.x h'
  have k4 := fun h' => lostV p.x h'
  have hxx := xF_flat p.hw p.hh (a := xF W H d) (fun k hk => p.x.d0 k (by rw [p.hn]; exact hk)) (fun k hk => p.flat k (by rw [p.hn]; exact hk))
  have k5 := fun h' => longs_ok h' false false n n (xF W H (xF W H d)) (xF W H d) (by omega) (by omega)
  rw [eqB_t rfl fun i hi => (hxx i (by rw [← p.hn]; exact hi)).1] at k5
  have e1 : sm n (xF W H d) - sm n (xF W H (xF W H d)) = 0 := by
    rw [sm_congr (f := xF W H (xF W H d)) (g := xF W H d) fun i hi => (hxx i (by rw [← p.hn]; exact hi)).1]; omega
  rw [e1] at k4
  have e2 : sm n (uF W H (xF W H d)) = 0 := by
    rw [sm_congr (g := fun _ => 0) fun i hi => (hxx i (by rw [← p.hn]; exact hi)).2, sm_0]
  have k6 := fun h' => sumRR_ok h' n (uF W H (xF W H d)) false (by omega) (fun i hi => by have := p.x.u i hi; omega)
  rw [e2] at k6
  have k7 := fun h' => sumRR_ok h' n d false (by omega) (fun i hi => by have := p.hd i hi; omega)
  have k8 := fun h' => sumRR_ok h' n (xF W H d) false (by omega) (fun i hi => by have := p.x.hd i hi; omega)
  have kB := fun h' i hi => beside_ok h' W H i p.hw p.hh hi
  rw [← p.hn] at kB
  have hL := lost_eq p
  have hS0 : sm 0 (fun i => uF W H d i * (4 - ((bsL W H i).length : Int))) = 0 := rfl
  have hSS : ∀ j, sm (j + 1) (fun i => uF W H d i * (4 - ((bsL W H i).length : Int))) = sm j (fun i => uF W H d i * (4 - ((bsL W H i).length : Int))) + uF W H d j * (4 - ((bsL W H j).length : Int)) := fun j => rfl
  have hrng := ls_rng p
  have hbl := fun i => bsL_len W H i
  have hu := p.u
  have r1 := sm_sml (a := d) (n := n) (fun i hi => by have := p.hd i hi; omega) n (Nat.le_refl _)
  have r2 := sm_sml (a := xF W H d) (n := n) (fun i hi => by have := p.x.hd i hi; omega) n (Nat.le_refl _)
  obtain ⟨S, hS⟩ : ∃ S : Nat → Int, ∀ j, sm j (fun i => uF W H d i * (4 - ((bsL W H i).length : Int))) = S j := ⟨fun j => _, fun j => rfl⟩
  simp only [hS] at hL hS0 hSS hrng
  have kWk := fun h : As.H => wwhole.everywhere rfl h
  clear hS e1 e2 hxx
  generalize xF W H (xF W H d) = y at *
  generalize uF W H (xF W H d) = c at *
  generalize hxd : xF W H d = x at *
  generalize hud : uF W H d = u at *
  rw [hL] at k2
  have hn0 : S n = sm n d - sm n x := hL.symm
  generalize bsL W H = BL at *
  refine CallOk.run0 Try.func9 rfl rfl rfl rfl rfl (WpR.of_vc ?_)
  (conv => whnf); (repeat' (first | ((with_reducible refine ifb_mk (fun hc => ?_) (fun hc => ?_)) <;> ((try simp only [decide_eq_true_eq, decide_eq_false_iff_not, Bool.not_eq_true', Bool.not_eq_false', Int.not_lt, Int.not_le, ne_eq, Decidable.not_not, beq_iff_eq, List.cons.injEq, and_true] at hc); (first | (exfalso; omega) | exact absurd True.intro hc | conv => whnf))) | ((with_reducible refine And.intro True.intro ?_); conv => whnf) | ((with_reducible refine CallX.all ?_); refine CallW.of_ok (k0 _) ?_; conv => whnf) | ((with_reducible refine CallX.all ?_); refine CallW.of_ok (k1 _) ?_; conv => whnf) | ((with_reducible refine CallX.all ?_); refine CallW.of_ok (k2 _) ?_; conv => whnf) | ((with_reducible refine CallX.all ?_); refine CallW.of_ok (k3 _) ?_; conv => whnf) | ((with_reducible refine CallX.all ?_); refine CallW.of_ok (k4 _) ?_; conv => whnf) | ((with_reducible refine WpR.draw (id := 13) mixed [0, 1, 2, 3, 4, 5, 6, 7, 8, 9, 10, 11, 12, 13, 14, 15] [0, 0, 0, 6, 14, 0, 32, 0, 128, 0, 992, 2016, 4064, 8190, 16383, 32767] ?hh ?_); (case hh => kernel_rfl); conv => whnf) | ((with_reducible refine WpR.draw (id := 14) mixed [0, 1, 2, 3, 4, 5, 6, 8, 9, 7, 10, 11, 12, 13, 14, 15, 16, 17] [0, 0, 3, 7, 15, 15, 47, 111, 15, 271, 1007, 2031, 4095, 8191, 16383, 32767, 65535, 131071] ?hh ?_); (case hh => kernel_rfl); conv => whnf) | ((with_reducible refine CallX.all ?_); refine CallW.of_ok (k5 _) ?_; conv => whnf) | ((with_reducible refine CallX.all ?_); refine CallW.of_ok (k6 _) ?_; conv => whnf) | ((with_reducible refine And.intro ?hh ?_); (case hh => exact condA); conv => whnf) | fail))
  refine WpR.loopA (ι := Nat × Int) [] [1, 3, 4, 6] [] [] 3 (fun p => [(14, .int .i64 p.1), (13, .int .i64 p.2)]) (fun _ => []) (fun p => n - p.1) (fun p => p.1 ≤ n ∧ p.2 = S p.1) ?_ ((0, 0)) (⟨Nat.zero_le _, hS0.symm⟩) [] Back.auto
  rintro ⟨j, s⟩ ⟨hj, hs⟩
  dsimp only at hj hs
  refine WpR.of_vc ?_
  by_cases hjl : j < n
  · have kBj := fun h' => kB h' j hjl
    have q1 := hrng j hj
    have q2 := hrng (j + 1) hjl
    have q3 := hSS j
    have q4 := hbl j
    have q5 := hu j hjl
    rw [← hs] at q1 q3
    generalize (BL j).length = L at *
    have q6 : InR (u j * (4 - (L : Int))) := by
      have h3 : 0 ≤ u j * (4 - (L : Int)) := Int.mul_nonneg q5.1 (by omega)
      have h4 : u j * (4 - (L : Int)) ≤ 6480 * 4 := Int.mul_le_mul q5.2 (by omega) (by omega) (by omega)
      unfold InR; omega
    have q7 : InR (s + u j * (4 - (L : Int))) := by rw [← q3]; unfold InR; omega
    (conv => whnf); (repeat' (first | ((with_reducible refine ifb_mk (fun hc => ?_) (fun hc => ?_)) <;> ((try simp only [decide_eq_true_eq, decide_eq_false_iff_not, Bool.not_eq_true', Bool.not_eq_false', Int.not_lt, Int.not_le, ne_eq, Decidable.not_not, beq_iff_eq, List.cons.injEq, and_true] at hc); (first | (exfalso; omega) | exact absurd True.intro hc | conv => whnf))) | ((with_reducible refine And.intro True.intro ?_); conv => whnf) | ((with_reducible refine grd_and ?_); refine And.intro (hjl) ?_; conv => whnf) | ((with_reducible refine WpR.draw (id := 13) mixed [0, 1, 2, 3, 4, 5, 6, 7, 8, 9, 10, 11, 12, 13, 14, 15] [0, 0, 0, 6, 14, 0, 32, 0, 128, 0, 992, 2016, 4064, 8190, 16383, 32767] ?hh ?_); (case hh => kernel_rfl); conv => whnf) | ((with_reducible refine WpR.draw (id := 14) mixed [0, 1, 2, 3, 4, 5, 6, 8, 9, 7, 10, 11, 12, 13, 14, 15, 16, 17] [0, 0, 3, 7, 15, 15, 47, 111, 15, 271, 1007, 2031, 4095, 8191, 16383, 32767, 65535, 131071] ?hh ?_); (case hh => kernel_rfl); conv => whnf) | ((with_reducible refine grd_ex ?_); refine ex_ok (kBj _) ?_; conv => whnf) | ((with_reducible refine grd_and ?_); refine And.intro (q6) ?_; conv => whnf) | ((with_reducible refine grd_and ?_); refine And.intro (q7) ?_; conv => whnf) | ((with_reducible refine And.intro ?hh ?_); (case hh => exact condA); conv => whnf) | fail))
    exact ⟨(j + 1, s + u j * (4 - (L : Int))), [], by dsimp only; omega, ⟨hjl, q3.symm⟩, Back.auto⟩
  · have e : j = n := by omega
    subst e
    (conv => whnf); (repeat' (first | ((with_reducible refine ifb_mk (fun hc => ?_) (fun hc => ?_)) <;> ((try simp only [decide_eq_true_eq, decide_eq_false_iff_not, Bool.not_eq_true', Bool.not_eq_false', Int.not_lt, Int.not_le, ne_eq, Decidable.not_not, beq_iff_eq, List.cons.injEq, and_true] at hc); (first | (exfalso; omega) | exact absurd True.intro hc | conv => whnf))) | ((with_reducible refine And.intro True.intro ?_); conv => whnf) | ((with_reducible refine grd_and ?_); refine And.intro (hjl) ?_; conv => whnf) | ((with_reducible refine WpR.draw (id := 13) mixed [0, 1, 2, 3, 4, 5, 6, 7, 8, 9, 10, 11, 12, 13, 14, 15] [0, 0, 0, 6, 14, 0, 32, 0, 128, 0, 992, 2016, 4064, 8190, 16383, 32767] ?hh ?_); (case hh => kernel_rfl); conv => whnf) | ((with_reducible refine WpR.draw (id := 14) mixed [0, 1, 2, 3, 4, 5, 6, 8, 9, 7, 10, 11, 12, 13, 14, 15, 16, 17] [0, 0, 3, 7, 15, 15, 47, 111, 15, 271, 1007, 2031, 4095, 8191, 16383, 32767, 65535, 131071] ?hh ?_); (case hh => kernel_rfl); conv => whnf) | ((with_reducible refine grd_ex ?_); refine ex_ok (k7 _) ?_; conv => whnf) | ((with_reducible refine grd_ex ?_); refine ex_ok (k8 _) ?_; conv => whnf) | ((with_reducible refine grd_ex ?_); refine ex_ok (kWk _) ?_; conv => whnf) | ((with_reducible refine And.intro ?hh ?_); (case hh => exact condA); conv => whnf) | fail))
    all_goals first | (refine ⟨[], ?_, rfl, rfl, trivial, trivs⟩; simp only [renV, renL]; (first | done | rfl | (simp; done) | (simp; omega) | grind)) | (exfalso; omega) | trace_state
theorem lawLost (h : As.H) (W H : Int) (k : Nat) (d : Nat → Int) (hk : k ≤ 9223372036854775807) : CallOk Try.prog 9 [plV W H false k d] h (.bool true) h := by
  rcases fine_split W H k d hk with ⟨w, h', rfl, rfl, p⟩ | kF
  · exact mendLostV p h
  · have kWk := fun h : As.H => wwhole.everywhere rfl h
    refine CallOk.run0 Try.func9 rfl rfl rfl rfl rfl (WpR.of_vc ?_)
    (conv => whnf); (repeat' (first | ((with_reducible refine ifb_mk (fun hc => ?_) (fun hc => ?_)) <;> ((try simp only [decide_eq_true_eq, decide_eq_false_iff_not, Bool.not_eq_true', Bool.not_eq_false', Int.not_lt, Int.not_le, ne_eq, Decidable.not_not, beq_iff_eq, List.cons.injEq, and_true] at hc); (first | (exfalso; omega) | exact absurd True.intro hc | conv => whnf))) | ((with_reducible refine And.intro True.intro ?_); conv => whnf) | ((with_reducible refine CallX.all ?_); refine CallW.of_ok (kF _) ?_; conv => whnf) | ((with_reducible refine CallX.all ?_); refine CallW.of_ok (kWk _) ?_; conv => whnf) | ((with_reducible refine And.intro ?hh ?_); (case hh => exact condA); conv => whnf) | fail))
    all_goals (refine ⟨[], ?_, rfl, rfl, trivial, trivs⟩; simp only [renV, renL]; (first | done | rfl | (simp; done) | (simp; omega) | grind))
end Go.Proofs.H
