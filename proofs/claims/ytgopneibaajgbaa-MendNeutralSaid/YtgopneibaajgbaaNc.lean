/- What the functions answer that the laws call, one after another (Nc). -/
import Derived.Test.YtgopneibaajgbaaAs6
import Derived.Test.YtgopneibaajgbaaNb
import Derived.Test.YtgopneibaajgbaaKb

set_option linter.unusedVariables false
namespace Go.Proofs.H
open Go.As
set_option maxRecDepth 20000
set_option linter.unusedVariables false
set_option linter.unusedSimpArgs false

/-! ### MendNeutral -/

section
variable {W H n : Nat} {d e nu : Nat → Int}
theorem flat_id (p : Pv W H n d) (hf : ∀ k, k < n → d k ≤ 3) : ∀ k, k < n → xF W H d k = d k := fun k hk => by
  have m := p.mid
  have h0 := m.least (fun _ => 0) (fun _ _ => Int.le_refl _) (fun j hj => by rw [dl_0]; have := hf j hj; omega)
  have h1 : dl n (adI W H) (uF W H d) k = dl n (adI W H) (fun _ => 0) k := dl_congr hk fun j hj => by have a1 := h0 j hj; have a2 := m.vn j hj; (try dsimp only at a1 a2); omega
  have h2 := m.eq k hk
  (try dsimp only at h2)
  rw [h2, h1, dl_0]; omega
theorem neu_pv (hW : 1 ≤ W ∧ W ≤ 6) (hH : 1 ≤ H ∧ H ≤ 6) (hn : n = W * H) (q : Neu W H n nu) : Pv W H n nu := ⟨hW, hH, hn, fun k hk => by have := q.fl k hk; omega⟩
theorem neu_brn (hW : 1 ≤ W ∧ W ≤ 6) (hH : 1 ≤ H ∧ H ≤ 6) (hn : n = W * H) (q : Neu W H n nu) : (brn W H n nu).length = n := (brn_iff hW hH hn).2 q.bk
/-- Laid upon the neutral plate all comes back. -/
theorem neu_back (p : Pv W H n d) (q : Neu W H n nu) : (brn W H n (xF W H fun i => d i + nu i)).length = n := by
  have hq := neu_pv p.hw p.hh p.hn q
  have hb : (brn W H n (xF W H nu)).length = n := by
    rw [brn_cong (flat_id hq fun k hk => (q.fl k hk).2)]; exact neu_brn p.hw p.hh p.hn q
  refine back_add hq hb p fun k hk => ?_
  rw [show (fun i => nu i + d i) = fun i => d i + nu i from funext fun i => Int.add_comm _ _]
/-- What comes back stays. -/
theorem neu_same (p : Pv W H n d) (hf : ∀ k, k < n → d k ≤ 3) (hb : (brn W H n d).length = n) (q : Neu W H n nu) : ∀ k, k < n → xF W H (fun i => d i + nu i) k = d k := by
  have hq := neu_pv p.hw p.hh p.hn q
  obtain ⟨v, hv⟩ := q.im
  have m := sum_mid p hq
  refine same_of (g := fun k => v k - uF W H (fun i => d i + nu i) k) p.hw p.hh p.hn ((brn_iff p.hw p.hh p.hn).1 hb) ((brn_iff p.hw p.hh p.hn).1 (neu_back p q)) hf (sum_flat p hq) fun k hk => ?_
  have h2 := m.eq k hk
  (try dsimp only at h2)
  rw [dl_sub, h2, hv k hk]; omega
end
set_option maxHeartbeats 16000000 in
theorem lawNeutral (h : As.H) (W H : Int) (k : Nat) (d : Nat → Int) (hk : k ≤ 9223372036854775807) :
    CallOk Try.prog 12 [plV W H false k d] h (.bool true) h := by
  have kWk := fun h : As.H => wwhole.everywhere rfl h
  rcases fine_split W H k d hk with ⟨w, hh, rfl, rfl, p⟩ | kF
  rotate_left
  · refine CallOk.run0 Try.func12 rfl rfl rfl rfl rfl (WpR.of_vc ?_)
    (conv => whnf); (repeat' (first | ((with_reducible refine ifb_mk (fun hc => ?_) (fun hc => ?_)) <;> ((try simp only [decide_eq_true_eq, decide_eq_false_iff_not, Bool.not_eq_true', Bool.not_eq_false', Int.not_lt, Int.not_le, ne_eq, Decidable.not_not, beq_iff_eq, List.cons.injEq, and_true] at hc); (first | (exfalso; omega) | exact absurd True.intro hc | conv => whnf))) | ((with_reducible refine And.intro True.intro ?_); conv => whnf) | ((with_reducible refine CallX.all ?_); refine CallW.of_ok (kF _) ?_; conv => whnf) | ((with_reducible refine CallX.all ?_); refine CallW.of_ok (kWk _) ?_; conv => whnf) | ((with_reducible refine And.intro ?hh ?_); (case hh => exact condA); conv => whnf) | fail))
    all_goals (refine ⟨[], ?_, rfl, rfl, trivial, trivs⟩; simp only [renV, renL]; (first | done | rfl | (simp; done) | (simp; omega) | grind))
  have hle := p.le
  have k0 := fun h' => fineV p h'
  have nq := neF_ok p.hw p.hh p.hn
  have q := neu_pv p.hw p.hh p.hn nq
  have kN : ∀ h', CallOk Try.prog 38 [.int .i64 w, .int .i64 hh] h' (.tup [.rsl false 1 k (iG (neF w hh)), .int .i64 0]) h' := fun h' => by
    have := CallOk.weak (v' := .tup [.rsl false 1 (w * hh) (iG (neF w hh)), .int .i64 0]) (neutral_ok h' w hh p.hw p.hh) (WkL.tup (.cons .rsl (.cons (.same _) .nil)))
    rwa [← p.hn] at this
  have kC := fun h' => ckV q h'
  have u1 := fun h' => flatV p h'
  have u2 := fun h' => uponH p.x q h'
  have u3 := fun h' => uponH (p.x.sum q) q h'
  have v1 := fun h' => back_ok q (fun j hj => (nq.fl j hj).2) false h'
  have v2 := fun h' => back_ok p.x p.flat false h'
  have v3 := fun h' => back_ok (p.x.sum q) (sum_flat p.x q) false h'
  rw [decide_eq_true (neu_brn p.hw p.hh p.hn nq)] at v1
  rw [decide_eq_true (neu_back p.x nq)] at v3
  have s1 := neu_same p.x p.flat (nu := neF w hh)
  have s2 := neu_same (p.x.sum q) (sum_flat p.x q) (neu_back p.x nq) nq
  have l2 := fun h' => longs_ok h' false false k k (xF w hh fun i => xF w hh d i + neF w hh i) (xF w hh fun i => xF w hh (fun i => xF w hh d i + neF w hh i) i + neF w hh i) (by omega) (by omega)
  rw [eqB_t rfl fun j hj => (s2 j hj).symm] at l2
  have l1 := fun h' => longs_ok h' false false k k (xF w hh d) (xF w hh fun i => xF w hh d i + neF w hh i) (by omega) (by omega)
  by_cases hb : (brn w hh k (xF w hh d)).length = k
  · rw [decide_eq_true hb] at v2
    rw [eqB_t rfl fun j hj => (s1 hb nq j hj).symm] at l1
    clear p q nq s1 s2
    generalize (xF w hh fun i => xF w hh (fun i => xF w hh d i + neF w hh i) i + neF w hh i) = z at *
    generalize (xF w hh fun i => xF w hh d i + neF w hh i) = y at *
    generalize xF w hh d = x at *
    generalize uF w hh d = u at *
    generalize neF w hh = nu at *
    refine CallOk.run0 Try.func12 rfl rfl rfl rfl rfl (WpR.of_vc ?_)
    (conv => whnf); (repeat' (first | ((with_reducible refine ifb_mk (fun hc => ?_) (fun hc => ?_)) <;> ((try simp only [decide_eq_true_eq, decide_eq_false_iff_not, Bool.not_eq_true', Bool.not_eq_false', Int.not_lt, Int.not_le, ne_eq, Decidable.not_not, beq_iff_eq, List.cons.injEq, and_true] at hc); (first | (exfalso; omega) | exact absurd True.intro hc | conv => whnf))) | ((with_reducible refine And.intro True.intro ?_); conv => whnf) | ((with_reducible refine CallX.all ?_); refine CallW.of_ok (k0 _) ?_; conv => whnf) | ((with_reducible refine CallX.all ?_); refine CallW.of_ok (kN _) ?_; conv => whnf) | ((with_reducible refine CallX.all ?_); refine CallW.of_ok (kC _) ?_; conv => whnf) | ((with_reducible refine grd_ex ?_); refine ex_ok (kC _) ?_; conv => whnf) | ((with_reducible refine CallX.all ?_); refine CallW.of_ok (u1 _) ?_; conv => whnf) | ((with_reducible refine CallX.all ?_); refine CallW.of_ok (u2 _) ?_; conv => whnf) | ((with_reducible refine CallX.all ?_); refine CallW.of_ok (u3 _) ?_; conv => whnf) | ((with_reducible refine CallX.all ?_); refine CallW.of_ok (v1 _) ?_; conv => whnf) | ((with_reducible refine CallX.all ?_); refine CallW.of_ok (v2 _) ?_; conv => whnf) | ((with_reducible refine CallX.all ?_); refine CallW.of_ok (v3 _) ?_; conv => whnf) | ((with_reducible refine CallX.all ?_); refine CallW.of_ok (l1 _) ?_; conv => whnf) | ((with_reducible refine CallX.all ?_); refine CallW.of_ok (l2 _) ?_; conv => whnf) | ((with_reducible refine grd_ex ?_); refine ex_ok (l1 _) ?_; conv => whnf) | ((with_reducible refine grd_ex ?_); refine ex_ok (l2 _) ?_; conv => whnf) | ((with_reducible refine CallX.all ?_); refine CallW.of_ok (kWk _) ?_; conv => whnf) | ((with_reducible refine grd_ex ?_); refine ex_ok (kWk _) ?_; conv => whnf) | ((with_reducible refine And.intro ?hh ?_); (case hh => exact condA); conv => whnf) | fail))
    all_goals first | (refine ⟨[], ?_, rfl, rfl, trivial, trivs⟩; simp only [renV, renL]; (first | done | rfl | (simp; done) | (simp; omega) | grind)) | (exfalso; omega)
  · rw [decide_eq_false hb] at v2
    clear p q nq s1 s2 l1
    generalize (xF w hh fun i => xF w hh (fun i => xF w hh d i + neF w hh i) i + neF w hh i) = z at *
    generalize (xF w hh fun i => xF w hh d i + neF w hh i) = y at *
    generalize xF w hh d = x at *
    generalize uF w hh d = u at *
    generalize neF w hh = nu at *
    refine CallOk.run0 Try.func12 rfl rfl rfl rfl rfl (WpR.of_vc ?_)
    (conv => whnf); (repeat' (first | ((with_reducible refine ifb_mk (fun hc => ?_) (fun hc => ?_)) <;> ((try simp only [decide_eq_true_eq, decide_eq_false_iff_not, Bool.not_eq_true', Bool.not_eq_false', Int.not_lt, Int.not_le, ne_eq, Decidable.not_not, beq_iff_eq, List.cons.injEq, and_true] at hc); (first | (exfalso; omega) | exact absurd True.intro hc | conv => whnf))) | ((with_reducible refine And.intro True.intro ?_); conv => whnf) | ((with_reducible refine CallX.all ?_); refine CallW.of_ok (k0 _) ?_; conv => whnf) | ((with_reducible refine CallX.all ?_); refine CallW.of_ok (kN _) ?_; conv => whnf) | ((with_reducible refine CallX.all ?_); refine CallW.of_ok (kC _) ?_; conv => whnf) | ((with_reducible refine grd_ex ?_); refine ex_ok (kC _) ?_; conv => whnf) | ((with_reducible refine CallX.all ?_); refine CallW.of_ok (u1 _) ?_; conv => whnf) | ((with_reducible refine CallX.all ?_); refine CallW.of_ok (u2 _) ?_; conv => whnf) | ((with_reducible refine CallX.all ?_); refine CallW.of_ok (u3 _) ?_; conv => whnf) | ((with_reducible refine CallX.all ?_); refine CallW.of_ok (v1 _) ?_; conv => whnf) | ((with_reducible refine CallX.all ?_); refine CallW.of_ok (v2 _) ?_; conv => whnf) | ((with_reducible refine CallX.all ?_); refine CallW.of_ok (v3 _) ?_; conv => whnf) | ((with_reducible refine CallX.all ?_); refine CallW.of_ok (l2 _) ?_; conv => whnf) | ((with_reducible refine grd_ex ?_); refine ex_ok (l2 _) ?_; conv => whnf) | ((with_reducible refine CallX.all ?_); refine CallW.of_ok (kWk _) ?_; conv => whnf) | ((with_reducible refine grd_ex ?_); refine ex_ok (kWk _) ?_; conv => whnf) | ((with_reducible refine And.intro ?hh ?_); (case hh => exact condA); conv => whnf) | fail))
    all_goals first | (refine ⟨[], ?_, rfl, rfl, trivial, trivs⟩; simp only [renV, renL]; (first | done | rfl | (simp; done) | (simp; omega) | grind)) | (exfalso; omega)
end Go.Proofs.H

