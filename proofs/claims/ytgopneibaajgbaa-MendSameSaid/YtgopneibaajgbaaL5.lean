/- What the functions answer that the laws call, one after another (L5). -/
import Derived.Test.YtgopneibaajgbaaAs6
import Derived.Test.YtgopneibaajgbaaL3

set_option linter.unusedVariables false
namespace Go.Proofs.H
open Go.As
set_option maxRecDepth 20000
set_option linter.unusedVariables false
set_option linter.unusedSimpArgs false

theorem wrap8 {v : Int} (h : 0 ≤ v ∧ v ≤ 255) : IntKind.i64.wrap v = v := by
  obtain ⟨n, rfl⟩ : ∃ n : Nat, v = n := ⟨v.toNat, by omega⟩
  exact wrap_in (by show Nat.ble n 9223372036854775807 = true; rw [Nat.ble_eq]; omega)

/-! ### Blows one after another -/

section
variable {n : Nat} {A : Nat → Nat → Int} {w : Nat → Int}
theorem Mid.trans {a : Nat → Int} {s t : F2} (m : Mid n A w a s) (m2 : Mid n A w s.1 t) : Mid n A w a (t.1, fun k => s.2 k + t.2 k) where
  nn := m2.nn
  eq := fun k hk => by
    dsimp only
    rw [m2.eq k hk, m.eq k hk, dl_add]; omega
  vn := fun k hk => by have := m.vn k hk; have := m2.vn k hk; dsimp only; omega
  pv := fun k hk => by have := m.pv k hk; have := m2.pv k hk; dsimp only; omega
  least := fun v hv hf k hk => by
    have h1 := m.least v hv hf
    have h2 := m2.least (fun k => v k - s.2 k) (fun k hk => by have := h1 k hk; (try dsimp only); omega) (fun k hk => by
      rw [dl_sub, m.eq k hk]
      have := hf k hk
      omega) k hk
    dsimp only at h2 ⊢
    omega
/-- With dents laid upon it. -/
theorem Mid.add {a b : Nat → Int} (hb : ∀ k, k < n → 0 ≤ b k) {s : F2} (m : Mid n A w a s) : Mid n A w (fun k => a k + b k) (fun k => s.1 k + b k, s.2) where
  nn := fun k hk => by have := m.nn k hk; have := hb k hk; dsimp only; omega
  eq := fun k hk => by have := m.eq k hk; dsimp only; omega
  vn := m.vn
  pv := fun k hk => by
    have := m.pv k hk
    have e : ∀ f g : Nat → Int, pt n w (fun k => f k + g k) = pt n w f + pt n w g := fun f g => by
      unfold pt
      rw [← sm_add]
      exact sm_congr fun k _ => Int.mul_add _ _ _
    dsimp only
    rw [e, e]; omega
  least := fun v hv hf => m.least v hv fun k hk => by have := hf k hk; have := hb k hk; (try dsimp only at this); omega
end
theorem blow_math {W H n : Nat} {d : Nat → Int} (p : Pv W H n d) {i : Nat} (hi : i < n) (h3 : 3 < d i) (q : Pv W H n (hitA (adI W H) d i 1)) : ∀ k, k < n → xF W H d k = xF W H (hitA (adI W H) d i 1) k ∧ uF W H d k = uF W H (hitA (adI W H) d i 1) k + (if k = i then 1 else 0) := fun k hk => by
  have m1 := (Mid.start (n := n) (A := adI W H) (w := wgt W) p.d0).hit p.g hi (N := 1) (by omega) (by (try dsimp only); omega)
  have m2 := m1.trans q.mid
  have hf := q.flat
  have g := p.g
  have h0 := p.d0
  rw [p.hn] at m2 hk hf g h0
  have := Mid.uniq g h0 m2 hf k hk
  dsimp only [ee] at this
  refine ⟨this.1.symm, ?_⟩
  have e := this.2
  unfold uF
  unfold uF at e
  rw [← e]
  omega
set_option maxHeartbeats 8000000 in
theorem lawBlow (h : As.H) (W H : Int) (k : Nat) (d : Nat → Int) (hk : k ≤ 9223372036854775807) (c : Int) (hc : 0 ≤ c ∧ c ≤ 255) : CallOk Try.prog 15 [plV W H false k d, .int .u8 c] h (.bool true) h := by
  have kWk := fun h : As.H => wwhole.everywhere rfl h
  rcases fine_split W H k d hk with ⟨w, hh, rfl, rfl, p⟩ | kF
  rotate_left
  · refine CallOk.run0 Try.func15 rfl rfl rfl rfl rfl (WpR.of_vc ?_)
    (conv => whnf); (repeat' (first | ((with_reducible refine ifb_mk (fun hc => ?_) (fun hc => ?_)) <;> ((try simp only [decide_eq_true_eq, decide_eq_false_iff_not, Bool.not_eq_true', Bool.not_eq_false', Int.not_lt, Int.not_le, ne_eq, Decidable.not_not, beq_iff_eq, List.cons.injEq, and_true] at hc); (first | (exfalso; omega) | exact absurd True.intro hc | conv => whnf))) | ((with_reducible refine And.intro True.intro ?_); conv => whnf) | ((with_reducible refine CallX.all ?_); refine CallW.of_ok (kF _) ?_; conv => whnf) | ((with_reducible refine CallX.all ?_); refine CallW.of_ok (kWk _) ?_; conv => whnf) | ((with_reducible refine And.intro ?hh ?_); (case hh => exact condA); conv => whnf) | fail))
    all_goals (refine ⟨[], ?_, rfl, rfl, trivial, trivs⟩; simp only [renV, renL]; (first | done | rfl | (simp; done) | (simp; omega) | grind))
  have hle := p.le
  have k0 := fun h' => fineV p h'
  obtain ⟨i, hi, ei⟩ : ∃ i : Nat, i < k ∧ (IntKind.i64.wrap c).tmod k = i := by
    rw [wrap8 hc]
    have h1 : c.tmod k = c % k := Int.tmod_eq_emod_of_nonneg hc.1
    have h2 : 0 ≤ c % k := Int.emod_nonneg _ (by omega)
    have h3 : c % k < k := Int.emod_lt_of_pos _ (by omega)
    exact ⟨(c % k).toNat, by omega, by omega⟩
  have y0 : (k : Int) ≠ 0 := by omega
  have y1 : InR ((IntKind.i64.wrap c).tmod k) := by rw [ei]; unfold InR; omega
  have hwh := p.hn
  have hii := hi
  by_cases h3 : 3 < d i
  · have k1 : ∀ h', CallOk Try.prog 20 [plV w hh false k d, .int .i64 ((IntKind.i64.wrap c).tmod k)] h' (.tup [.rsl false 1 k (iG (hitA (adI w hh) d i 1)), .int .i64 0]) h' := fun h' => by
      have := CallOk.weak (blow_ok h' w hh p.hw p.hh false k d p.hn p.hd i (by rw [← p.hn]; exact hi) h3) (WkL.tup (.cons .rsl (.cons (.same _) .nil)))
      rw [← p.hn] at this
      rw [ei]; exact this
    rcases fine_split w hh k (hitA (adI w hh) d i 1) hk with ⟨w2, hh2, e1, e2, q⟩ | kN
    · have e1 : w = w2 := Int.ofNat.inj e1
      have e2 : hh = hh2 := Int.ofNat.inj e2
      subst e1
      subst e2
      have k2 := fun h' => fineV q h'
      have k3 := fun h' => flatV p h'
      have k4 := fun h' => flatV q h'
      have hm := blow_math p hi h3 q
      have k5 := fun h' => longs_ok h' false false k k (xF w hh d) (xF w hh (hitA (adI w hh) d i 1)) (by omega) (by omega)
      rw [eqB_t rfl fun j hj => (hm j hj).1] at k5
      have hm2 := fun j hj => (hm j hj).2
      have hu1 := p.u
      have hu2 := q.u
      clear hm
      generalize xF w hh d = x at *
      generalize uF w hh d = u at *
      generalize xF w hh (hitA (adI w hh) d i 1) = x' at *
      generalize uF w hh (hitA (adI w hh) d i 1) = u' at *
      generalize hitA (adI w hh) d i 1 = d' at *
      refine CallOk.run0 Try.func15 rfl rfl rfl rfl rfl (WpR.of_vc ?_)
      (conv => whnf); (repeat' (first | ((with_reducible refine ifb_mk (fun hc => ?_) (fun hc => ?_)) <;> ((try simp only [decide_eq_true_eq, decide_eq_false_iff_not, Bool.not_eq_true', Bool.not_eq_false', Int.not_lt, Int.not_le, ne_eq, Decidable.not_not, beq_iff_eq, List.cons.injEq, and_true] at hc); (first | (exfalso; omega) | exact absurd True.intro hc | conv => whnf))) | ((with_reducible refine And.intro True.intro ?_); conv => whnf) | ((with_reducible refine CallX.all ?_); refine CallW.of_ok (k0 _) ?_; conv => whnf) | ((with_reducible refine CallX.all ?_); refine CallW.of_ok (k1 _) ?_; conv => whnf) | ((with_reducible refine grd_and ?_); refine And.intro (y0) ?_; conv => whnf) | ((with_reducible refine grd_and ?_); refine And.intro (y1) ?_; conv => whnf) | ((with_reducible refine grd_and ?_); refine And.intro (hi) ?_; conv => whnf) | ((with_reducible refine WpR.draw (id := 22) mixed [0, 1, 2, 3, 4, 5, 6, 7, 8, 9, 10] [0, 0, 3, 7, 0, 0, 48, 112, 0, 496, 1023] ?hh ?_); (case hh => kernel_rfl); conv => whnf) | ((with_reducible refine CallX.all ?_); refine CallW.of_ok (k2 _) ?_; conv => whnf) | ((with_reducible refine CallX.all ?_); refine CallW.of_ok (k3 _) ?_; conv => whnf) | ((with_reducible refine CallX.all ?_); refine CallW.of_ok (k4 _) ?_; conv => whnf) | ((with_reducible refine CallX.all ?_); refine CallW.of_ok (k5 _) ?_; conv => whnf) | ((with_reducible refine grd_ex ?_); refine ex_ok (k5 _) ?_; conv => whnf) | (((with_reducible refine idxP_mk (k := i) ?hh ?_); (case hh => exact ei)); conv => whnf) | ((with_reducible refine And.intro ?hh ?_); (case hh => exact condA); conv => whnf) | fail))
      generalize (IntKind.i64.wrap c).tmod k = I at *
      refine WpR.loopA (ι := Nat) [] [2, 5, 10, 13] [] [] 4 (fun j => [(15, .int .i64 j)]) (fun _ => []) (fun j => k - j) (fun j => j ≤ k) ?_ (0) (Nat.zero_le _) [] Back.auto
      intro j hj
      refine WpR.of_vc ?_
      by_cases hjl : j < k
      · have e := hm2 j hjl
        have b1 := hu1 j hjl
        have b2 := hu2 j hjl
        by_cases he : j = i
        · rw [if_pos he] at e
          (conv => whnf); (repeat' (first | ((with_reducible refine ifb_mk (fun hc => ?_) (fun hc => ?_)) <;> ((try simp only [decide_eq_true_eq, decide_eq_false_iff_not, Bool.not_eq_true', Bool.not_eq_false', Int.not_lt, Int.not_le, ne_eq, Decidable.not_not, beq_iff_eq, List.cons.injEq, and_true] at hc); (first | (exfalso; omega) | exact absurd True.intro hc | conv => whnf))) | ((with_reducible refine And.intro True.intro ?_); conv => whnf) | ((with_reducible refine grd_and ?_); refine And.intro (hjl) ?_; conv => whnf) | ((with_reducible refine WpR.draw (id := 22) mixed [0, 1, 2, 3, 4, 5, 6, 7, 8, 9, 10] [0, 0, 3, 7, 0, 0, 48, 112, 0, 496, 1023] ?hh ?_); (case hh => kernel_rfl); conv => whnf) | ((with_reducible refine And.intro ?hh ?_); (case hh => exact condA); conv => whnf) | fail))
          all_goals first | (exfalso; omega) | exact ⟨j + 1, [], by omega, by omega, Back.auto⟩
        · rw [if_neg he] at e
          (conv => whnf); (repeat' (first | ((with_reducible refine ifb_mk (fun hc => ?_) (fun hc => ?_)) <;> ((try simp only [decide_eq_true_eq, decide_eq_false_iff_not, Bool.not_eq_true', Bool.not_eq_false', Int.not_lt, Int.not_le, ne_eq, Decidable.not_not, beq_iff_eq, List.cons.injEq, and_true] at hc); (first | (exfalso; omega) | exact absurd True.intro hc | conv => whnf))) | ((with_reducible refine And.intro True.intro ?_); conv => whnf) | ((with_reducible refine grd_and ?_); refine And.intro (hjl) ?_; conv => whnf) | ((with_reducible refine WpR.draw (id := 22) mixed [0, 1, 2, 3, 4, 5, 6, 7, 8, 9, 10] [0, 0, 3, 7, 0, 0, 48, 112, 0, 496, 1023] ?hh ?_); (case hh => kernel_rfl); conv => whnf) | ((with_reducible refine And.intro ?hh ?_); (case hh => exact condA); conv => whnf) | fail))
          all_goals first | (exfalso; omega) | exact ⟨j + 1, [], by omega, by omega, Back.auto⟩
      · (conv => whnf); (repeat' (first | ((with_reducible refine ifb_mk (fun hc => ?_) (fun hc => ?_)) <;> ((try simp only [decide_eq_true_eq, decide_eq_false_iff_not, Bool.not_eq_true', Bool.not_eq_false', Int.not_lt, Int.not_le, ne_eq, Decidable.not_not, beq_iff_eq, List.cons.injEq, and_true] at hc); (first | (exfalso; omega) | exact absurd True.intro hc | conv => whnf))) | ((with_reducible refine And.intro True.intro ?_); conv => whnf) | ((with_reducible refine grd_and ?_); refine And.intro (hjl) ?_; conv => whnf) | ((with_reducible refine CallX.all ?_); refine CallW.of_ok (kWk _) ?_; conv => whnf) | ((with_reducible refine And.intro ?hh ?_); (case hh => exact condA); conv => whnf) | fail))
        (refine ⟨[], ?_, rfl, rfl, trivial, trivs⟩; simp only [renV, renL]; (first | done | rfl | (simp; done) | (simp; omega) | grind))
    · refine CallOk.run0 Try.func15 rfl rfl rfl rfl rfl (WpR.of_vc ?_)
      (conv => whnf); (repeat' (first | ((with_reducible refine ifb_mk (fun hc => ?_) (fun hc => ?_)) <;> ((try simp only [decide_eq_true_eq, decide_eq_false_iff_not, Bool.not_eq_true', Bool.not_eq_false', Int.not_lt, Int.not_le, ne_eq, Decidable.not_not, beq_iff_eq, List.cons.injEq, and_true] at hc); (first | (exfalso; omega) | exact absurd True.intro hc | conv => whnf))) | ((with_reducible refine And.intro True.intro ?_); conv => whnf) | ((with_reducible refine CallX.all ?_); refine CallW.of_ok (k0 _) ?_; conv => whnf) | ((with_reducible refine CallX.all ?_); refine CallW.of_ok (k1 _) ?_; conv => whnf) | ((with_reducible refine grd_and ?_); refine And.intro (y0) ?_; conv => whnf) | ((with_reducible refine grd_and ?_); refine And.intro (y1) ?_; conv => whnf) | ((with_reducible refine grd_and ?_); refine And.intro (hi) ?_; conv => whnf) | ((with_reducible refine WpR.draw (id := 22) mixed [0, 1, 2, 3, 4, 5, 6, 7, 8, 9, 10] [0, 0, 3, 7, 0, 0, 48, 112, 0, 496, 1023] ?hh ?_); (case hh => kernel_rfl); conv => whnf) | ((with_reducible refine CallX.all ?_); refine CallW.of_ok (kN _) ?_; conv => whnf) | ((with_reducible refine CallX.all ?_); refine CallW.of_ok (kWk _) ?_; conv => whnf) | (((with_reducible refine idxP_mk (k := i) ?hh ?_); (case hh => exact ei)); conv => whnf) | ((with_reducible refine And.intro ?hh ?_); (case hh => exact condA); conv => whnf) | fail))
      all_goals first | (refine ⟨[], ?_, rfl, rfl, trivial, trivs⟩; simp only [renV, renL]; (first | done | rfl | (simp; done) | (simp; omega) | grind)) | (exfalso; omega)
  · have k1 : ∀ h', CallOk Try.prog 20 [plV w hh false k d, .int .i64 ((IntKind.i64.wrap c).tmod k)] h' (.tup [.nils, .int .i64 9]) h' := fun h' => by
      rw [ei]
      exact blow_flat h' w hh p.hw p.hh false k d p.hn p.hd i (by rw [← p.hn]; exact hi) h3
    refine CallOk.run0 Try.func15 rfl rfl rfl rfl rfl (WpR.of_vc ?_)
    (conv => whnf); (repeat' (first | ((with_reducible refine ifb_mk (fun hc => ?_) (fun hc => ?_)) <;> ((try simp only [decide_eq_true_eq, decide_eq_false_iff_not, Bool.not_eq_true', Bool.not_eq_false', Int.not_lt, Int.not_le, ne_eq, Decidable.not_not, beq_iff_eq, List.cons.injEq, and_true] at hc); (first | (exfalso; omega) | exact absurd True.intro hc | conv => whnf))) | ((with_reducible refine And.intro True.intro ?_); conv => whnf) | ((with_reducible refine CallX.all ?_); refine CallW.of_ok (k0 _) ?_; conv => whnf) | ((with_reducible refine CallX.all ?_); refine CallW.of_ok (k1 _) ?_; conv => whnf) | ((with_reducible refine grd_and ?_); refine And.intro (y0) ?_; conv => whnf) | ((with_reducible refine grd_and ?_); refine And.intro (y1) ?_; conv => whnf) | ((with_reducible refine grd_and ?_); refine And.intro (hi) ?_; conv => whnf) | ((with_reducible refine WpR.draw (id := 22) mixed [0, 1, 2, 3, 4, 5, 6, 7, 8, 9, 10] [0, 0, 3, 7, 0, 0, 48, 112, 0, 496, 1023] ?hh ?_); (case hh => kernel_rfl); conv => whnf) | ((with_reducible refine CallX.all ?_); refine CallW.of_ok (kWk _) ?_; conv => whnf) | ((with_reducible refine grd_ex ?_); refine ex_ok (kWk _) ?_; conv => whnf) | (((with_reducible refine idxP_mk (k := i) ?hh ?_); (case hh => exact ei)); conv => whnf) | ((with_reducible refine And.intro ?hh ?_); (case hh => exact condA); conv => whnf) | fail))
    all_goals first | (refine ⟨[], ?_, rfl, rfl, trivial, trivs⟩; simp only [renV, renL]; (first | done | rfl | (simp; done) | (simp; omega) | grind)) | (exfalso; omega)
end Go.Proofs.H
