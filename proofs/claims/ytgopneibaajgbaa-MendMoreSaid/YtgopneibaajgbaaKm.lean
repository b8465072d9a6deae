/- What the functions answer that the laws call, one after another (Km). -/
import Derived.Test.YtgopneibaajgbaaAs6
import Derived.Test.YtgopneibaajgbaaL5
import Derived.Test.YtgopneibaajgbaaTh
import Derived.Test.YtgopneibaajgbaaR2
import Derived.Test.YtgopneibaajgbaaWk

set_option linter.unusedVariables false
namespace Go.Proofs.H
open Go.As
set_option maxRecDepth 20000
set_option linter.unusedVariables false
set_option linter.unusedSimpArgs false

/-! ### MendMore -/

section
variable {W H n : Nat} {d f : Nat → Int}
theorem flat_own (p : Pv W H n f) (h : As.H) (b n' : Nat) (hn : n' = n) (c : Tr V) (gg : Option (Nat × Nat)) (hb : h.get b = some (.cells c true gg)) (hc : ∀ j, j < n → c.get j = some (.int .i64 (f j))) :
    CallOk Try.prog 43 [.agg [.int .i64 W, .int .i64 H, .sl b 0 n' n' false]] h (.tup [plV W H false n (xF W H f), .rsl false 1 n (iG (uF W H f)), .bool true]) (h.put b .dead) := by
  subst hn
  have t : ThL h (fun x => x = b) [plV W H false n' f] [.agg [.int .i64 W, .int .i64 H, .sl b 0 n' n' false]] := by
    refine .cons (ThL.agg (.cons (.same rfl) (.cons (.same rfl) (.cons (.sl rfl hb (fun h => by cases h) (Nat.le_refl _) (fun j hj => rfl) fun j hj k v hk => ?_) .nil)))) .nil
    match k with
    | 0 =>
      have hv : V.int .i64 (f j) = v := by simpa [iG] using hk
      subst hv
      exact ⟨by rw [show 0 + j * 1 + 0 = j from by omega]; exact hc j hj, rfl⟩
    | k + 1 => simp [iG] at hk
  refine CallOk.thawF (flatV p As.H.empty) rfl h b hb t (fun m xs hv => ?_)
  obtain ⟨x, a', rfl, h1, _⟩ := hv.uncons
  cases h1 with
  | agg l hcs =>
    rename_i arr
    have hlt : 2 < arr.size := by rw [← l]; exact Nat.lt_succ_self 2
    have h2 := hcs 2 _ _ rfl (Array.getElem?_eq_getElem hlt)
    generalize arr[2] = y at h2
    cases h2 with
    | sl hm _ => exact fun hc => by rw [hm] at hc; cases hc
    | sl0 hm => exact fun hc => by rw [hm] at hc; cases hc
theorem more_le (p : Pv W H n d) (q : Pv W H n f) (hf : ∀ j, j < n → d j ≤ f j) : ∀ j, j < n → uF W H d j ≤ uF W H f j := by
  have hml := p.mid.least
  dsimp only at hml
  refine hml (uF W H f) (fun j hj => (q.u j hj).1) fun j hj => ?_
  have h1 := q.mid.eq j hj
  have h2 := q.flat j hj
  have h3 := hf j hj
  dsimp only at h1
  omega
end
def moY (x e : Int) : Int := match ilt (x + IntKind.i64.wrap e) 30 with
  | true => x + IntKind.i64.wrap e
  | false => 30
theorem moY_rng {x e : Int} (hx : 0 ≤ x ∧ x ≤ 30) (he : 0 ≤ e ∧ e ≤ 255) : x ≤ moY x e ∧ moY x e ≤ 30 := by
  unfold moY
  rw [wrap8 he, ilt_eq]
  by_cases hc : x + e < 30
  · rw [decide_eq_true hc]; dsimp only; omega
  · rw [decide_eq_false hc]; dsimp only; omega
set_option maxHeartbeats 16000000 in
theorem lawMore (h : As.H) (W H : Int) (k : Nat) (d : Nat → Int) (hk : k ≤ 9223372036854775807) (c : Int) (hc : 0 ≤ c ∧ c ≤ 255) (e : Int) (he : 0 ≤ e ∧ e ≤ 255) :
    CallOk Try.prog 14 [plV W H false k d, .int .u8 c, .int .u8 e] h (.bool true) h := by
  have kWk := fun h : As.H => wwhole.everywhere rfl h
  rcases fine_split W H k d hk with ⟨w, hh, rfl, rfl, p⟩ | kF
  rotate_left
  · refine CallOk.run0 Try.func14 rfl rfl rfl rfl rfl (WpR.of_vc ?_)
    (conv => whnf); (repeat' (first | ((with_reducible refine ifb_mk (fun hc => ?_) (fun hc => ?_)) <;> ((try simp only [decide_eq_true_eq, decide_eq_false_iff_not, Bool.not_eq_true', Bool.not_eq_false', Int.not_lt, Int.not_le, ne_eq, Decidable.not_not, beq_iff_eq, List.cons.injEq, and_true] at hc); (first | (exfalso; omega) | exact absurd True.intro hc | conv => whnf))) | ((with_reducible refine And.intro True.intro ?_); conv => whnf) | ((with_reducible refine CallX.all ?_); refine CallW.of_ok (kF _) ?_; conv => whnf) | ((with_reducible refine CallX.all ?_); refine CallW.of_ok (kWk _) ?_; conv => whnf) | ((with_reducible refine WpR.draw (id := 3) mixed [0, 1, 2, 3, 4, 5, 6, 9, 7, 8, 10] [0, 1, 0, 4, 0, 0, 32, 112, 255, 0, 1023] ?hh ?_); (case hh => kernel_rfl); conv => whnf) | ((with_reducible refine WpR.draw (id := 5) mixed [0, 1, 2, 3, 4, 5, 6, 7, 8, 9, 10, 11, 12, 13] [0, 1, 0, 0, 8, 0, 56, 120, 0, 256, 1016, 2040, 4095, 8191] ?hh ?_); (case hh => kernel_rfl); conv => whnf) | ((with_reducible refine WpR.draw (id := 13) mixed [0, 1, 2, 3, 4, 5, 6, 7, 8] [0, 0, 3, 7, 0, 0, 48, 112, 255] ?hh ?_); (case hh => kernel_rfl); conv => whnf) | ((with_reducible refine And.intro ?hh ?_); (case hh => exact condA); conv => whnf) | fail))
    all_goals (refine ⟨[], ?_, rfl, rfl, trivial, trivs⟩; simp only [renV, renL]; (first | done | rfl | (simp; done) | (simp; omega) | grind))
  have hle := p.le
  have k0 := fun h' => fineV p h'
  obtain ⟨i, hi, ei⟩ : ∃ i : Nat, i < k ∧ (IntKind.i64.wrap c).tmod ((0 + k : Nat) : Int) = i := by
    rw [wrap8 hc, Nat.zero_add]
    have h1 : c.tmod k = c % k := Int.tmod_eq_emod_of_nonneg hc.1
    have h2 : 0 ≤ c % k := Int.emod_nonneg _ (by omega)
    have h3 : c % k < k := Int.emod_lt_of_pos _ (by omega)
    exact ⟨(c % k).toNat, by omega, by omega⟩
  have y0 : ((0 + k : Nat) : Int) ≠ 0 := by omega
  have y1 : InR ((IntKind.i64.wrap c).tmod ((0 + k : Nat) : Int)) := by rw [ei]; unfold InR; omega
  have y2 : 0 ≤ (IntKind.i64.wrap c).tmod ((0 + k : Nat) : Int) := by rw [ei]; omega
  have y3 : (IntKind.i64.wrap c).tmod ((0 + k : Nat) : Int) < ((0 + k : Nat) : Int) := by rw [ei]; omega
  have hdi := p.hd i hi
  have hy := moY_rng hdi he
  have y4 : InR (d i + IntKind.i64.wrap e) := by rw [wrap8 he]; unfold InR; omega
  have hmo : moY (d i) e = (match ilt (d i + IntKind.i64.wrap e) 30 with
    | true => d i + IntKind.i64.wrap e
    | false => 30) := rfl
  have q : Pv w hh k (fun j => if j = i then moY (d i) e else d j) := ⟨p.hw, p.hh, p.hn, fun j hj => by
    have := p.hd j hj
    (try dsimp only)
    split <;> omega⟩
  have hmle := more_le p q (fun j hj => by (try dsimp only); split <;> (try subst_vars) <;> omega)
  have kf := fun h' => flatV p h'
  have hgd : ∀ o, o = i → (ofL (arrV k fun j => V.int .i64 (d j)) 0).get o = some (.int .i64 (d i)) := fun o ho => arrV_get ho hi
  have hpd : ∀ (x : Int) o, o = i → putN [V.int .i64 x] (ofL (arrV k fun j => V.int .i64 (d j)) 0) o = some ((ofL (arrV k fun j => V.int .i64 (d j)) 0).set o (.int .i64 x)) := fun x o ho => by rw [putN_cons, hgd o ho]; rfl
  have kq : ∀ (h' : As.H) (o : Nat), o = i → h'.get 3 = some (.cells ((ofL (arrV k fun j => V.int .i64 (d j)) 0).set o (.int .i64 (moY (d i) e))) true (some (1, (0 + k) * 1))) → _ := fun h' o ho hs => flat_own q h' 3 (0 + k) (Nat.zero_add k) _ _ hs (fun j hj => by
    rw [Tr.get_set]
    by_cases hji : j = i
    · rw [if_pos (hji.trans ho.symm), if_pos hji]
    · rw [if_neg (fun h => hji (h.trans ho)), if_neg hji]; exact arrV_get rfl hj)
  have hadd := fun h' : As.H => added_rsl (h := h') (ex := false) (n := k) (a := d)
  clear p q
  generalize (fun j => if j = i then moY (d i) e else d j) = f at *
  rw [hmo] at kq
  clear hmo
  generalize xF w hh f = x2 at *
  generalize uF w hh f = u2 at *
  generalize xF w hh d = x1 at *
  generalize uF w hh d = u1 at *
  refine CallOk.run0 Try.func14 rfl rfl rfl rfl rfl (WpR.of_vc ?_)
  (conv => whnf); (repeat' (first | ((with_reducible refine ifb_mk (fun hc => ?_) (fun hc => ?_)) <;> ((try simp only [decide_eq_true_eq, decide_eq_false_iff_not, Bool.not_eq_true', Bool.not_eq_false', Int.not_lt, Int.not_le, ne_eq, Decidable.not_not, beq_iff_eq, List.cons.injEq, and_true] at hc); (first | (exfalso; omega) | exact absurd True.intro hc | conv => whnf))) | ((with_reducible refine And.intro True.intro ?_); conv => whnf) | ((with_reducible refine CallX.all ?_); refine CallW.of_ok (k0 _) ?_; conv => whnf) | (refine som_mk (hadd _) ?_; conv => whnf) | (refine AppX.copy (n := k) (L := []) rfl rfl rfl (by omega) (by omega) ?_; conv => whnf) | ((with_reducible refine CallX.all ?_); refine CallW.of_ok (kf _) ?_; conv => whnf) | ((with_reducible refine grd_and ?_); refine And.intro (y0) ?_; conv => whnf) | ((with_reducible refine grd_and ?_); refine And.intro (y1) ?_; conv => whnf) | ((with_reducible refine grd_and ?_); refine And.intro (y2) ?_; conv => whnf) | ((with_reducible refine grd_and ?_); refine And.intro (y3) ?_; conv => whnf) | ((with_reducible refine grd_and ?_); refine And.intro (y4) ?_; conv => whnf) | ((with_reducible refine WpR.draw (id := 3) mixed [0, 1, 2, 3, 4, 5, 6, 9, 7, 8, 10] [0, 1, 0, 4, 0, 0, 32, 112, 255, 0, 1023] ?hh ?_); (case hh => kernel_rfl); conv => whnf) | ((with_reducible refine WpR.draw (id := 5) mixed [0, 1, 2, 3, 4, 5, 6, 7, 8, 9, 10, 11, 12, 13] [0, 1, 0, 0, 8, 0, 56, 120, 0, 256, 1016, 2040, 4095, 8191] ?hh ?_); (case hh => kernel_rfl); conv => whnf) | ((with_reducible refine WpR.draw (id := 13) mixed [0, 1, 2, 3, 4, 5, 6, 7, 8] [0, 0, 3, 7, 0, 0, 48, 112, 255] ?hh ?_); (case hh => kernel_rfl); conv => whnf) | (refine som_mk (hgd _ (by show 0 + Int.toNat ((IntKind.i64.wrap c).tmod ((0 + k : Nat) : Int)) * 1 = i; rw [ei]; omega)) ?_; conv => whnf) | ((with_reducible refine grd_putN ?_); refine som_mk (a := ?_) ?hh ?_; (case hh => exact hpd _ _ (by show 0 + Int.toNat ((IntKind.i64.wrap c).tmod ((0 + k : Nat) : Int)) * 1 = i; rw [ei]; omega)); conv => whnf) | ((with_reducible refine CallX.all ?_); refine CallW.of_ok (kq _ _ (by show 0 + Int.toNat ((IntKind.i64.wrap c).tmod ((0 + k : Nat) : Int)) * 1 = i; rw [ei]; omega) rfl) ?_; conv => whnf) | ((with_reducible refine And.intro ?hh ?_); (case hh => exact condA); conv => whnf) | fail))
  refine WpR.loopA (ι := Nat) [] [10, 13] [] [] 6 (fun j => [(15, .int .i64 j)]) (fun _ => []) (fun j => k - j) (fun j => j ≤ k) ?_ (0) (Nat.zero_le _) [] Back.auto
  intro j hj
  refine WpR.of_vc ?_
  by_cases hjk : j < k
  · have hlj := hmle j hjk
    (conv => whnf); (repeat' (first | ((with_reducible refine ifb_mk (fun hc => ?_) (fun hc => ?_)) <;> ((try simp only [decide_eq_true_eq, decide_eq_false_iff_not, Bool.not_eq_true', Bool.not_eq_false', Int.not_lt, Int.not_le, ne_eq, Decidable.not_not, beq_iff_eq, List.cons.injEq, and_true] at hc); (first | (exfalso; omega) | exact absurd True.intro hc | conv => whnf))) | ((with_reducible refine And.intro True.intro ?_); conv => whnf) | ((with_reducible refine grd_and ?_); refine And.intro (hjk) ?_; conv => whnf) | ((with_reducible refine WpR.draw (id := 3) mixed [0, 1, 2, 3, 4, 5, 6, 9, 7, 8, 10] [0, 1, 0, 4, 0, 0, 32, 112, 255, 0, 1023] ?hh ?_); (case hh => kernel_rfl); conv => whnf) | ((with_reducible refine WpR.draw (id := 5) mixed [0, 1, 2, 3, 4, 5, 6, 7, 8, 9, 10, 11, 12, 13] [0, 1, 0, 0, 8, 0, 56, 120, 0, 256, 1016, 2040, 4095, 8191] ?hh ?_); (case hh => kernel_rfl); conv => whnf) | ((with_reducible refine WpR.draw (id := 13) mixed [0, 1, 2, 3, 4, 5, 6, 7, 8] [0, 0, 3, 7, 0, 0, 48, 112, 255] ?hh ?_); (case hh => kernel_rfl); conv => whnf) | ((with_reducible refine And.intro ?hh ?_); (case hh => exact condA); conv => whnf) | fail))
    all_goals first | (exfalso; omega) | exact ⟨j + 1, [], by omega, by omega, Back.auto⟩
  · (conv => whnf); (repeat' (first | ((with_reducible refine ifb_mk (fun hc => ?_) (fun hc => ?_)) <;> ((try simp only [decide_eq_true_eq, decide_eq_false_iff_not, Bool.not_eq_true', Bool.not_eq_false', Int.not_lt, Int.not_le, ne_eq, Decidable.not_not, beq_iff_eq, List.cons.injEq, and_true] at hc); (first | (exfalso; omega) | exact absurd True.intro hc | conv => whnf))) | ((with_reducible refine And.intro True.intro ?_); conv => whnf) | ((with_reducible refine grd_and ?_); refine And.intro (hjk) ?_; conv => whnf) | ((with_reducible refine CallX.all ?_); refine CallW.of_ok (kWk _) ?_; conv => whnf) | ((with_reducible refine WpR.draw (id := 3) mixed [0, 1, 2, 3, 4, 5, 6, 9, 7, 8, 10] [0, 1, 0, 4, 0, 0, 32, 112, 255, 0, 1023] ?hh ?_); (case hh => kernel_rfl); conv => whnf) | ((with_reducible refine WpR.draw (id := 5) mixed [0, 1, 2, 3, 4, 5, 6, 7, 8, 9, 10, 11, 12, 13] [0, 1, 0, 0, 8, 0, 56, 120, 0, 256, 1016, 2040, 4095, 8191] ?hh ?_); (case hh => kernel_rfl); conv => whnf) | ((with_reducible refine WpR.draw (id := 13) mixed [0, 1, 2, 3, 4, 5, 6, 7, 8] [0, 0, 3, 7, 0, 0, 48, 112, 255] ?hh ?_); (case hh => kernel_rfl); conv => whnf) | ((with_reducible refine And.intro ?hh ?_); (case hh => exact condA); conv => whnf) | fail))
    all_goals first | (refine ⟨[], ?_, rfl, rfl, trivial, trivs⟩; simp only [renV, renL]; (first | done | rfl | (simp; done) | (simp; omega) | grind)) | (exfalso; omega)
end Go.Proofs.H

