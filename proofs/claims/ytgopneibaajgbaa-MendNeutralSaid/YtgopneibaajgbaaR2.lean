/- What the functions answer that the laws call, one after another (R2). -/
import Derived.Test.YtgopneibaajgbaaAs6
import Derived.Test.YtgopneibaajgbaaR1
import Derived.Test.YtgopneibaajgbaaB4

set_option linter.unusedVariables false
namespace Go.Proofs.H
open Go.As
set_option maxRecDepth 20000
set_option linter.unusedVariables false
set_option linter.unusedSimpArgs false

theorem added_rsl {h : As.H} {ex : Bool} {n : Nat} {a : Nat → Int} : added 1 h (.rsl ex 1 n (iG a)) = some (n, arrV n fun k => .int .i64 (a k)) := by
  have e : ∀ (m i : Nat), flat (iG a) m i = (List.range' i m).map fun k => V.int .i64 (a k) := fun m => by
    induction m with
    | zero => intro i; rfl
    | succ m ih => intro i; show iG a i ++ flat (iG a) m (i + 1) = _; rw [ih, List.range'_succ]; rfl
  have e2 : flat (iG a) n 0 = arrV n fun k => .int .i64 (a k) := by rw [e]; unfold arrV; rw [List.range_eq_range']
  unfold added
  show (if (flat (iG a) n 0).all one = true ∧ (flat (iG a) n 0).length = n * 1 then some (n, flat (iG a) n 0) else none) = _
  rw [e2, if_pos ⟨arrV_one fun _ => rfl, by rw [arrV_len, Nat.mul_one]⟩]
def J0 (a : Nat → Int) (i : Nat) (N : Int) (L : List Nat) (j : Nat) : Nat → Int := rsL (rs a i (-(4 * N))) N (L.take j)
set_option maxHeartbeats 8000000 in
theorem hitR_new (h : As.H) (W H i : Nat) (hW : 1 ≤ W ∧ W ≤ 6) (hH : 1 ≤ H ∧ H ≤ 6) (hi : i < W * H) (n : Nat) (hn : n = W * H) (ex : Bool) (a : Nat → Int) (N : Int) (ha : Sml n 1099511627776 a) (hN : -1099511627776 ≤ N ∧ N ≤ 1099511627776) :
    CallOk Try.prog 44 [.int .i64 W, .int .i64 H, .rsl ex 1 n (iG a), .int .i64 i, .int .i64 N] h (.sl (h.n + 0) 0 (0 + n) (0 + n) false) (addBs h [.cells (ofL (arrV n fun k => .int .i64 (hitA (adI W H) a i N k)) 0) true none]) := by
  have hwh := wh_le hW hH
  have kB := fun h' => beside_ok h' W H i hW hH hi
  have hend := rsL_bs W H i a N
  have hlen := bsL_len W H i
  have hmem : ∀ x ∈ bsL W H i, x < n := fun x hx => by rw [hn]; exact bsL_lt hW hH hi hx
  obtain ⟨L, hL⟩ : ∃ L, bsL W H i = L := ⟨_, rfl⟩
  rw [hL] at kB hend hlen hmem
  have hrng : ∀ j, Sml n 9895604649984 (J0 a i N L j) := fun j k hk => by
    have h1 := rsL_rng (n := n) (a := rs a i (-(4 * N))) (N := N) (B := 5497558138880) (C := 1099511627776) (fun k hk => by have := ha k hk; unfold rs; split <;> omega) hN (L.take j) k hk
    have h2 : (L.take j).length ≤ 4 := by rw [List.length_take]; omega
    unfold J0
    generalize (L.take j).length = q at h1 h2
    omega
  have hJ0 : J0 a i N L 0 = rs a i (-(4 * N)) := rfl
  have hJS : ∀ j, j < L.length → J0 a i N L (j + 1) = rs (J0 a i N L j) (L.getD j 0) N := fun j hj => by
    unfold J0
    rw [List.take_add_one, List.getElem?_eq_getElem hj]
    rw [List.getD_eq_getElem?_getD, List.getElem?_eq_getElem hj]
    exact rsL_snoc _ _ _ _
  have hJe : J0 a i N L L.length = hitA (adI W H) a i N := by unfold J0; rw [List.take_length, hend]
  have hx : ∀ j, j < L.length → L.getD j 0 < n := fun j hj => by rw [List.getD_eq_getElem?_getD, List.getElem?_eq_getElem hj]; exact hmem _ (List.getElem_mem hj)
  rw [← hJe]
  have hM : ∀ (m : Nat) (f : Nat → Int) gg, ltB m (.cells (ofL (arrV n fun k => .int .i64 (f k)) 0) true gg) := fun m f gg => ltB_ofLb (arrV_bare fun _ => rfl)
  have hA0 : (arrV n fun k => V.int .i64 (a k)).length = n := arrV_len _ _
  have hO : (arrV n fun k => V.int .i64 (a k)).all one = true := arrV_one fun _ => rfl
  have hadd := fun h' : As.H => added_rsl (h := h') (ex := ex) (n := n) (a := a)
  have hset : ∀ (ρ : Nat → Nat) (f : Nat → Int) (o p : Nat) (x : Int) gg, o = p → SubQ ρ (.cells (ofL (arrV n fun k => .int .i64 (rs f p x k)) 0) true gg) (.cells ((ofL (arrV n fun k => .int .i64 (f k)) 0).set o (.int .i64 (f p + x))) true gg) := fun ρ f o p x gg ho =>
    arrV_set (fun _ => rfl) rfl ho fun c hc => by unfold rs; by_cases h : c = p; (rw [if_pos h, if_pos h, h]); (rw [if_neg h, if_neg h])
  have hget : ∀ (f : Nat → Int) (o p : Nat), o = p → p < n → (ofL (arrV n fun k => .int .i64 (f k)) 0).get o = some (.int .i64 (f p)) := fun f o p ho hp => arrV_get ho hp
  have hsub : ∀ (ρ : Nat → Nat) (f : Nat → Int) gg, SubQ ρ (.cells (ofL (arrV n fun k => .int .i64 (f k)) 0) true none) (.cells (ofL (arrV n fun k => .int .i64 (f k)) 0) true gg) := fun ρ f gg => SubQ.ofL rfl (arrV_bare fun _ => rfl) (.inl rfl)
  have hai := ha i (by omega)
  refine CallOk.runN Try.func44 rfl rfl (argsC := [.int .i64 W, .int .i64 H, .rsl ex 1 n (iG a), .int .i64 i, .int .i64 N]) (fun N => .sl (N + 0) 0 (0 + n) (0 + n) false) (fun _ => [.cells (ofL (arrV n fun k => .int .i64 (J0 a i N L L.length k)) 0) true none]) (Nat.le_of_ble_eq_true rfl) [] (CaL.lt0 rfl) (viewM0 h) (.sl (i := 0) (Nat.le_of_ble_eq_true rfl) rfl rfl) rfl (fun i b hi => ?_) (WpR.of_vc ?_)
  · match i, hi with
    | 0, hi => cases hi; exact ⟨_, rfl, rfl, .bare (ofL_bare (arrV_bare fun _ => rfl))⟩
    | i + 1, hi => simp at hi
  · generalize hJ : J0 a i N L = J at *
    have g1 := hget a (0 + (i : Int).toNat * 1) i (by omega) (by omega)
    have p1 : putN [V.int .i64 (a i - 4 * N)] (ofL (arrV n fun k => .int .i64 (a k)) 0) (0 + (i : Int).toNat * 1) = some ((ofL (arrV n fun k => .int .i64 (a k)) 0).set (0 + (i : Int).toNat * 1) (.int .i64 (a i - 4 * N))) := by rw [putN_cons, g1]; rfl
    (conv => whnf); (repeat' (first | ((with_reducible refine ifb_mk (fun hc => ?_) (fun hc => ?_)) <;> ((try simp only [decide_eq_true_eq, decide_eq_false_iff_not, Bool.not_eq_true', Bool.not_eq_false', Int.not_lt, Int.not_le, ne_eq, Decidable.not_not, beq_iff_eq, List.cons.injEq, and_true] at hc); (first | (exfalso; omega) | exact absurd True.intro hc | conv => whnf))) | ((with_reducible refine And.intro True.intro ?_); conv => whnf) | (refine som_mk (hadd _) ?_; conv => whnf) | (refine AppX.copy (n := n) (L := []) rfl rfl rfl (by omega) (by omega) ?_; conv => whnf) | (refine som_mk (g1) ?_; conv => whnf) | ((with_reducible refine grd_putN ?_); refine som_mk (a := ?_) ?hh ?_; (case hh => exact p1); conv => whnf) | ((with_reducible refine CallX.all ?_); refine CallW.of_ok (kB _) ?_; conv => whnf) | ((with_reducible refine And.intro ?hh ?_); (case hh => exact condA); conv => whnf) | fail))
    have hMap : ∀ j, ltB 2 (.cells (ofL (arrV n fun k => .int .i64 (J j k)) 0) true (some (1, (0 + n) * 1))) := fun j => hM 2 _ _
    have hMapB : ∀ j, ltB 1000 (.cells (ofL (arrV n fun k => .int .i64 (J j k)) 0) true (some (1, (0 + n) * 1))) := fun j => hM 1000 _ _
    have hfirst : SubQ (rho []) (.cells (ofL (arrV n fun k => .int .i64 (J 0 k)) 0) true (some (1, (0 + n) * 1))) (.cells ((ofL (arrV n fun k => .int .i64 (a k)) 0).set (0 + (i : Int).toNat * 1) (.int .i64 (a i - 4 * N))) true (some (1, (0 + n) * 1))) := by rw [hJ0]; exact hset _ a _ i _ _ (by omega)
    refine WpR.loopA (ι := Nat) [] [4, 11, 12] [1] [] 2 (fun j => [(13, .int .i64 j)]) (fun j => [(1, .cells (ofL (arrV n fun k => .int .i64 (J j k)) 0) true (some (1, (0 + n) * 1)))]) (fun j => L.length - j) (fun j => j ≤ L.length) ?_ (0) (Nat.zero_le _) [] ⟨rfl, rfl, (by (repeat' (first | exact True.intro | rfl | exact gr_ren rfl | exact aV_ren rfl | exact aW_ren rfl rfl | refine And.intro ?_ ?_))), (by (repeat' (first | exact True.intro | rfl | exact gr_ren rfl | exact aV_ren rfl | exact aW_ren rfl rfl | refine And.intro ?_ ?_))), (by (repeat' (first | exact True.intro | rfl | exact gr_ren rfl | exact aV_ren rfl | exact aW_ren rfl rfl | refine And.intro ?_ ?_))), ⟨.inr ⟨_, rfl, hfirst⟩, trivial⟩, rfl, rfl⟩
    intro j hj
    refine WpR.of_vc ?_
    by_cases hjl : j < L.length
    · have hxj := hx j hjl
      have hJj := hJS j hjl
      have hr := hrng j _ hxj
      have hv : iL L j = (L.getD j 0 : Nat) := rfl
      generalize L.getD j 0 = x at *
      have g2 := hget (J j) (0 + (iL L j).toNat * 1) x (by omega) hxj
      have p2 : putN [V.int .i64 (J j x + N)] (ofL (arrV n fun k => .int .i64 (J j k)) 0) (0 + (iL L j).toNat * 1) = some ((ofL (arrV n fun k => .int .i64 (J j k)) 0).set (0 + (iL L j).toNat * 1) (.int .i64 (J j x + N))) := by rw [putN_cons, g2]; rfl
      have hb := hset (rho []) (J j) (0 + (iL L j).toNat * 1) x N (some (1, (0 + n) * 1)) (by omega)
      rw [← hJj] at hb
      (conv => whnf); (repeat' (first | ((with_reducible refine ifb_mk (fun hc => ?_) (fun hc => ?_)) <;> ((try simp only [decide_eq_true_eq, decide_eq_false_iff_not, Bool.not_eq_true', Bool.not_eq_false', Int.not_lt, Int.not_le, ne_eq, Decidable.not_not, beq_iff_eq, List.cons.injEq, and_true] at hc); (first | (exfalso; omega) | exact absurd True.intro hc | conv => whnf))) | ((with_reducible refine And.intro True.intro ?_); conv => whnf) | ((with_reducible refine grd_and ?_); refine And.intro (hjl) ?_; conv => whnf) | (refine som_mk (g2) ?_; conv => whnf) | ((with_reducible refine grd_putN ?_); refine som_mk (a := ?_) ?hh ?_; (case hh => exact p2); conv => whnf) | ((with_reducible refine And.intro ?hh ?_); (case hh => exact condA); conv => whnf) | fail))
      exact ⟨j + 1, [], by omega, by omega, ⟨rfl, rfl, (by (repeat' (first | exact True.intro | rfl | exact gr_ren rfl | exact aV_ren rfl | exact aW_ren rfl rfl | refine And.intro ?_ ?_))), (by (repeat' (first | exact True.intro | rfl | exact gr_ren rfl | exact aV_ren rfl | exact aW_ren rfl rfl | refine And.intro ?_ ?_))), (by (repeat' (first | exact True.intro | rfl | exact gr_ren rfl | exact aV_ren rfl | exact aW_ren rfl rfl | refine And.intro ?_ ?_))), ⟨.inr ⟨_, rfl, hb⟩, trivial⟩, rfl, rfl⟩⟩
    · have e : j = L.length := by omega
      subst e
      (conv => whnf); (repeat' (first | ((with_reducible refine ifb_mk (fun hc => ?_) (fun hc => ?_)) <;> ((try simp only [decide_eq_true_eq, decide_eq_false_iff_not, Bool.not_eq_true', Bool.not_eq_false', Int.not_lt, Int.not_le, ne_eq, Decidable.not_not, beq_iff_eq, List.cons.injEq, and_true] at hc); (first | (exfalso; omega) | exact absurd True.intro hc | conv => whnf))) | ((with_reducible refine And.intro True.intro ?_); conv => whnf) | ((with_reducible refine grd_and ?_); refine And.intro (hjl) ?_; conv => whnf) | ((with_reducible refine And.intro ?hh ?_); (case hh => exact condA); conv => whnf) | fail))
      exact ⟨[1], rfl, rfl, rfl, ⟨⟨_, rfl, rfl, hsub _ _ _⟩, hM _ _ _, rfl, trivial⟩, trivs⟩
theorem hitR_ok (h : As.H) (W H i : Nat) (hW : 1 ≤ W ∧ W ≤ 6) (hH : 1 ≤ H ∧ H ≤ 6) (hi : i < W * H) (n : Nat) (hn : n = W * H) (ex : Bool) (a : Nat → Int) (N : Int) (ha : Sml n 1099511627776 a) (hN : -1099511627776 ≤ N ∧ N ≤ 1099511627776) :
    CallOk Try.prog 44 [.int .i64 W, .int .i64 H, .rsl ex 1 n (iG a), .int .i64 i, .int .i64 N] h (.rsl false 1 n (iG (hitA (adI W H) a i N))) h := by
  have := CallOk.freeze (v := .rsl false 1 (0 + n) (iG (hitA (adI W H) a i N))) (hitR_new h W H i hW hH hi n hn ex a N ha hN) (.sl (i := 0) rfl rfl (fun h => by cases h) (Nat.le_refl _) (fun j _ => rfl) (fun j hj k v hv => by
    match k with
    | 0 =>
      have hv' : V.int .i64 (hitA (adI W H) a i N j) = v := by simpa [iG] using hv
      subst hv'
      exact ⟨arrV_get (by omega) (by omega), rfl⟩
    | k + 1 => simp [iG] at hv)) (fun b hb => by rw [List.mem_singleton.1 hb]; rfl)
  rwa [Nat.zero_add] at this
end Go.Proofs.H

namespace Go.Proofs.H
open Go.As
set_option maxRecDepth 20000
set_option linter.unusedVariables false
set_option linter.unusedSimpArgs false
end Go.Proofs.H

namespace Go.Proofs.H
open Go.As
set_option maxRecDepth 20000
set_option linter.unusedVariables false
set_option linter.unusedSimpArgs false

noncomputable def aB (n : Nat) (a : Nat → Int) (gg : Option (Nat × Nat)) : Blk := .cells (ofL (arrV n fun k => .int .i64 (a k)) 0) true gg
theorem aB_lt {m n : Nat} {a : Nat → Int} {gg : Option (Nat × Nat)} : ltB m (aB n a gg) := ltB_ofLb (arrV_bare fun _ => rfl)
theorem aB_sub {ρ : Nat → Nat} {n : Nat} {a b : Nat → Int} {gg : Option (Nat × Nat)} (h : ∀ k, k < n → a k = b k) : SubQ ρ (aB n a none) (aB n b gg) := arrV_sub (fun _ => rfl) (.inl rfl) fun c hc => by rw [h c hc]
theorem aB_get {n : Nat} {a : Nat → Int} {o i : Nat} (ho : o = i) (hi : i < n) : (ofL (arrV n fun k => V.int .i64 (a k)) 0).get o = some (.int .i64 (a i)) := arrV_get ho hi
theorem aB_set {ρ : Nat → Nat} {n : Nat} {f f' : Nat → Int} {o p : Nat} {x : Int} {gg : Option (Nat × Nat)} (ho : o = p) (hf : ∀ k, k < n → f' k = if k = p then x else f k) : SubQ ρ (aB n f' gg) (.cells ((ofL (arrV n fun k => .int .i64 (f k)) 0).set o (.int .i64 x)) true gg) :=
  arrV_set (fun _ => rfl) rfl ho fun c hc => by rw [hf c hc]; by_cases h : c = p; (rw [if_pos h, if_pos h]); (rw [if_neg h, if_neg h])
theorem aB_put {n : Nat} {f : Nat → Int} {o p : Nat} {x : Int} (ho : o = p) (hp : p < n) : putN [V.int .i64 x] (ofL (arrV n fun k => .int .i64 (f k)) 0) o = some ((ofL (arrV n fun k => .int .i64 (f k)) 0).set o (.int .i64 x)) := by rw [putN_cons, aB_get ho hp]; rfl
end Go.Proofs.H

namespace Go.Proofs.H
open Go.As
set_option maxRecDepth 20000
set_option linter.unusedVariables false
set_option linter.unusedSimpArgs false

end Go.Proofs.H

namespace Go.Proofs.H
open Go.As
set_option maxRecDepth 20000
set_option linter.unusedVariables false
set_option linter.unusedSimpArgs false

set_option maxHeartbeats 8000000 in
theorem checkBlowsR_ok (h : As.H) (W H : Nat) (hW : 1 ≤ W ∧ W ≤ 6) (hH : 1 ≤ H ∧ H ≤ 6) (k : Nat) (d : Nat → Int) (hk : k = W * H) (hd : ∀ i, i < k → 0 ≤ d i ∧ d i ≤ 30) (ex2 : Bool) (kb : Nat) (bl : Nat → Int) (hkb : kb = W * H) (hbl : ∀ i, i < kb → 0 ≤ bl i ∧ bl i ≤ 1000000)
    (z : Bool) (hz : z = allF (W * H) fun j => decide (d j - dl (W * H) (adI W H) bl j ≤ 3)) :
    CallOk Try.prog 26 [plV W H false k d, .rsl ex2 1 kb (iG bl)] h (.int .i64 (if z = true then 0 else 22)) h := by
  have hwh := wh_le hW hH
  have hb0 : ∀ i, i < W * H → 0 ≤ bl i ∧ bl i ≤ 1000000 := fun i hi => hbl i (by omega)
  have hd0 : ∀ i, i < W * H → 0 ≤ d i ∧ d i ≤ 30 := fun i hi => hd i (by omega)
  have k1 := fun h' => checkPlateR_ok h' W H false k d (by omega)
  rw [ckP_v ⟨by omega, by omega⟩ hk hd] at k1
  have hrng := fun j hj => hitsQ_rng (W := W) (H := H) (a := d) (E := []) (c := 0) (bl := bl) hb0 hd0 j hj
  have hqa := fun j => hitsQ_a (W := W) (H := H) (a := d) (E := []) (c := 0) (bl := bl) (W * H) (Nat.le_refl _) j
  obtain ⟨Q, hQ⟩ : ∃ Q : Nat → Nat → Int, ∀ j, Q j = (hitsQ W H d [] 0 bl j).1.1 := ⟨fun j => _, fun j => rfl⟩
  have hQ0 : Q 0 = d := by rw [hQ]; rfl
  have hQS : ∀ j, Q (j + 1) = hitA (adI W H) (Q j) j (bl j) := fun j => by rw [hQ, hQ]; rfl
  have hzz : allF k (fun j => decide (Q k j ≤ 3)) = z := by
    rw [hz, hk]
    unfold allF
    refine Bool.eq_iff_iff.2 ⟨fun h => ?_, fun h => ?_⟩
    · refine allF_t fun j hj => ?_
      have := allF_iff.1 h j hj
      rw [hQ, hqa j, dl_congr hj (v := bl) fun i hi => if_pos hi] at this
      exact this
    · refine allF_t fun j hj => ?_
      have := allF_iff.1 h j hj
      rw [hQ, hqa j, dl_congr hj (v := bl) fun i hi => if_pos hi]
      exact this
  have kF := fun h' => isFlatR_ok h' k (Q k) false (by omega)
  rw [hzz] at kF
  have kH := fun (h' : As.H) j (hj : j < k) => hitR_ok h' W H j hW hH (by omega) k hk false (Q j) (bl j) (fun i hi => by have := hrng j (by omega) i (by omega); rw [hQ]; omega) (by have := hbl j (by omega); omega)
  have kH2 : ∀ (h' : As.H) j, j < k → CallOk Try.prog 44 [.int .i64 W, .int .i64 H, .rsl false 1 k (iG (Q j)), .int .i64 j, .int .i64 (bl j)] h' (.rsl false 1 k (iG (Q (j + 1)))) h' := fun h' j hj => by rw [hQS]; exact kH h' j hj
  have hkk : kb = k := by omega
  subst hkk
  clear hrng hqa hzz kH hz hQ hQS
  rw [← hQ0] at *
  have hv := fun (i : Nat) (hi : i < kb) => hbl i hi
  refine CallOk.run0 Try.func26 rfl rfl rfl rfl rfl (WpR.of_vc ?_)
  (conv => whnf); (repeat' (first | ((with_reducible refine ifb_mk (fun hc => ?_) (fun hc => ?_)) <;> ((try simp only [decide_eq_true_eq, decide_eq_false_iff_not, Bool.not_eq_true', Bool.not_eq_false', Int.not_lt, Int.not_le, ne_eq, Decidable.not_not, beq_iff_eq, List.cons.injEq, and_true] at hc); (first | (exfalso; omega) | exact absurd True.intro hc | conv => whnf))) | ((with_reducible refine And.intro True.intro ?_); conv => whnf) | ((with_reducible refine CallX.all ?_); refine CallW.of_ok (k1 _) ?_; conv => whnf) | ((with_reducible refine And.intro ?hh ?_); (case hh => exact condA); conv => whnf) | fail))
  refine WpR.loopA (ι := Nat) [] [1, 2] [] [] 1 (fun i => [(5, .int .i64 i)]) (fun _ => []) (fun i => kb - i) (fun i => i ≤ kb) ?_ (0) (Nat.zero_le _) [] Back.auto
  intro i hi
  refine WpR.of_vc ?_
  by_cases hil : i < kb
  · have hvi := hv i hil
    (conv => whnf); (repeat' (first | ((with_reducible refine ifb_mk (fun hc => ?_) (fun hc => ?_)) <;> ((try simp only [decide_eq_true_eq, decide_eq_false_iff_not, Bool.not_eq_true', Bool.not_eq_false', Int.not_lt, Int.not_le, ne_eq, Decidable.not_not, beq_iff_eq, List.cons.injEq, and_true] at hc); (first | (exfalso; omega) | exact absurd True.intro hc | conv => whnf))) | ((with_reducible refine And.intro True.intro ?_); conv => whnf) | ((with_reducible refine grd_and ?_); refine And.intro (hil) ?_; conv => whnf) | ((with_reducible refine And.intro ?hh ?_); (case hh => exact condA); conv => whnf) | fail))
    all_goals first | (exfalso; omega) | exact ⟨i + 1, [], by omega, by omega, Back.auto⟩
  · (conv => whnf); (repeat' (first | ((with_reducible refine ifb_mk (fun hc => ?_) (fun hc => ?_)) <;> ((try simp only [decide_eq_true_eq, decide_eq_false_iff_not, Bool.not_eq_true', Bool.not_eq_false', Int.not_lt, Int.not_le, ne_eq, Decidable.not_not, beq_iff_eq, List.cons.injEq, and_true] at hc); (first | (exfalso; omega) | exact absurd True.intro hc | conv => whnf))) | ((with_reducible refine And.intro True.intro ?_); conv => whnf) | ((with_reducible refine grd_and ?_); refine And.intro (hil) ?_; conv => whnf) | ((with_reducible refine And.intro ?hh ?_); (case hh => exact condA); conv => whnf) | fail))
    refine WpR.loopA (ι := Nat) [] [1, 2] [] [] 1 (fun j => [(7, .int .i64 j), (6, .rsl false 1 kb (iG (Q j)))]) (fun _ => []) (fun j => kb - j) (fun j => j ≤ kb) ?_ (0) (Nat.zero_le _) [] Back.auto
    intro j hj
    refine WpR.of_vc ?_
    by_cases hjl : j < kb
    · have kHj := fun h' => kH2 h' j hjl
      (conv => whnf); (repeat' (first | ((with_reducible refine ifb_mk (fun hc => ?_) (fun hc => ?_)) <;> ((try simp only [decide_eq_true_eq, decide_eq_false_iff_not, Bool.not_eq_true', Bool.not_eq_false', Int.not_lt, Int.not_le, ne_eq, Decidable.not_not, beq_iff_eq, List.cons.injEq, and_true] at hc); (first | (exfalso; omega) | exact absurd True.intro hc | conv => whnf))) | ((with_reducible refine And.intro True.intro ?_); conv => whnf) | ((with_reducible refine grd_and ?_); refine And.intro (hjl) ?_; conv => whnf) | ((with_reducible refine WpR.drawTail (id := 14) mixed 10 [0, 1, 2, 3, 4, 5, 6, 7, 8, 9] [0, 1, 0, 4, 0, 0, 0, 0, 192, 448] ?hh ?hk ?_); (case hh => kernel_rfl); (case hk => kernel_rfl); conv => whnf) | ((with_reducible refine CallX.all ?_); refine CallW.of_ok (kHj _) ?_; conv => whnf) | ((with_reducible refine And.intro ?hh ?_); (case hh => exact condA); conv => whnf) | fail))
      exact ⟨j + 1, [], by omega, by omega, Back.auto⟩
    · have e : j = kb := by omega
      subst e
      cases z with
      | true =>
        rw [if_pos rfl]
        (conv => whnf); (repeat' (first | ((with_reducible refine ifb_mk (fun hc => ?_) (fun hc => ?_)) <;> ((try simp only [decide_eq_true_eq, decide_eq_false_iff_not, Bool.not_eq_true', Bool.not_eq_false', Int.not_lt, Int.not_le, ne_eq, Decidable.not_not, beq_iff_eq, List.cons.injEq, and_true] at hc); (first | (exfalso; omega) | exact absurd True.intro hc | conv => whnf))) | ((with_reducible refine And.intro True.intro ?_); conv => whnf) | ((with_reducible refine grd_and ?_); refine And.intro (hjl) ?_; conv => whnf) | ((with_reducible refine CallX.all ?_); refine CallW.of_ok (kF _) ?_; conv => whnf) | ((with_reducible refine And.intro ?hh ?_); (case hh => exact condA); conv => whnf) | fail))
        (refine ⟨[], ?_, rfl, rfl, trivial, trivs⟩; simp only [renV, renL]; (first | done | rfl | (simp; done) | (simp; omega) | grind))
      | false =>
        rw [if_neg (by decide)]
        (conv => whnf); (repeat' (first | ((with_reducible refine ifb_mk (fun hc => ?_) (fun hc => ?_)) <;> ((try simp only [decide_eq_true_eq, decide_eq_false_iff_not, Bool.not_eq_true', Bool.not_eq_false', Int.not_lt, Int.not_le, ne_eq, Decidable.not_not, beq_iff_eq, List.cons.injEq, and_true] at hc); (first | (exfalso; omega) | exact absurd True.intro hc | conv => whnf))) | ((with_reducible refine And.intro True.intro ?_); conv => whnf) | ((with_reducible refine grd_and ?_); refine And.intro (hjl) ?_; conv => whnf) | ((with_reducible refine CallX.all ?_); refine CallW.of_ok (kF _) ?_; conv => whnf) | ((with_reducible refine And.intro ?hh ?_); (case hh => exact condA); conv => whnf) | fail))
        (refine ⟨[], ?_, rfl, rfl, trivial, trivs⟩; simp only [renV, renL]; (first | done | rfl | (simp; done) | (simp; omega) | grind))
/-! ### Whether lists are equal -/
def eqB (n : Nat) (a : Nat → Int) (m : Nat) (b : Nat → Int) : Bool := decide (n = m) && allF n fun i => decide (a i = b i)
theorem eqB_t {n m : Nat} {a b : Nat → Int} (h : n = m) (h2 : ∀ i, i < n → a i = b i) : eqB n a m b = true := by unfold eqB; rw [decide_eq_true h, allF_t fun i hi => decide_eq_true (h2 i hi)]; rfl
set_option maxHeartbeats 2000000 in
theorem longs_ok (h : As.H) (e1 e2 : Bool) (n m : Nat) (a b : Nat → Int) (hn : n ≤ 9223372036854775807) (hm : m ≤ 9223372036854775807) : CallOk Try.prog 24 [.rsl e1 1 n (iG a), .rsl e2 1 m (iG b)] h (.bool (eqB n a m b)) h := by
  refine CallOk.run0 Try.func24 rfl rfl rfl rfl rfl (WpR.of_vc ?_)
  by_cases he : n = m
  · subst he
    (conv => whnf); (repeat' (first | ((with_reducible refine ifb_mk (fun hc => ?_) (fun hc => ?_)) <;> ((try simp only [decide_eq_true_eq, decide_eq_false_iff_not, Bool.not_eq_true', Bool.not_eq_false', Int.not_lt, Int.not_le, ne_eq, Decidable.not_not, beq_iff_eq, List.cons.injEq, and_true] at hc); (first | (exfalso; omega) | exact absurd True.intro hc | conv => whnf))) | ((with_reducible refine And.intro True.intro ?_); conv => whnf) | ((with_reducible refine And.intro ?hh ?_); (case hh => exact condA); conv => whnf) | fail))
    all_goals try (exfalso; omega)
    refine WpR.loopA (ι := Nat) [] [0, 1] [] [] 0 (fun i => [(5, .int .i64 i)]) (fun _ => []) (fun i => n - i) (fun i => i ≤ n ∧ ∀ j, j < i → decide (a j = b j) = true) ?_ (0) (⟨Nat.zero_le _, fun j hj => by omega⟩) [] Back.auto
    rintro i ⟨hi, hQ⟩
    refine WpR.of_vc ?_
    by_cases hil : i < n
    · cases ht : decide (a i = b i) with
      | true =>
        have ht' : a i = b i := of_decide_eq_true ht
        (conv => whnf); (repeat' (first | ((with_reducible refine ifb_mk (fun hc => ?_) (fun hc => ?_)) <;> ((try simp only [decide_eq_true_eq, decide_eq_false_iff_not, Bool.not_eq_true', Bool.not_eq_false', Int.not_lt, Int.not_le, ne_eq, Decidable.not_not, beq_iff_eq, List.cons.injEq, and_true] at hc); (first | (exfalso; omega) | exact absurd True.intro hc | conv => whnf))) | ((with_reducible refine And.intro True.intro ?_); conv => whnf) | ((with_reducible refine grd_and ?_); refine And.intro (hil) ?_; conv => whnf) | ((with_reducible refine WpR.draw (id := 6) mixed [0, 1, 2, 3, 4, 5, 6, 7, 8] [0, 0, 3, 7, 0, 0, 48, 112, 255] ?hh ?_); (case hh => kernel_rfl); conv => whnf) | ((with_reducible refine And.intro ?hh ?_); (case hh => exact condA); conv => whnf) | fail))
        all_goals first | (exfalso; omega) | exact ⟨i + 1, [], by omega, ⟨by omega, below_succ hQ ht⟩, Back.auto⟩
      | false =>
        have ht' : ¬ a i = b i := of_decide_eq_false ht
        have e : eqB n a n b = false := by unfold eqB; rw [allF_f (p := fun i => decide (a i = b i)) hil ht, Bool.and_false]
        rw [e]
        (conv => whnf); (repeat' (first | ((with_reducible refine ifb_mk (fun hc => ?_) (fun hc => ?_)) <;> ((try simp only [decide_eq_true_eq, decide_eq_false_iff_not, Bool.not_eq_true', Bool.not_eq_false', Int.not_lt, Int.not_le, ne_eq, Decidable.not_not, beq_iff_eq, List.cons.injEq, and_true] at hc); (first | (exfalso; omega) | exact absurd True.intro hc | conv => whnf))) | ((with_reducible refine And.intro True.intro ?_); conv => whnf) | ((with_reducible refine grd_and ?_); refine And.intro (hil) ?_; conv => whnf) | ((with_reducible refine WpR.draw (id := 6) mixed [0, 1, 2, 3, 4, 5, 6, 7, 8] [0, 0, 3, 7, 0, 0, 48, 112, 255] ?hh ?_); (case hh => kernel_rfl); conv => whnf) | ((with_reducible refine And.intro ?hh ?_); (case hh => exact condA); conv => whnf) | fail))
        all_goals first | (refine ⟨[], ?_, rfl, rfl, trivial, trivs⟩; simp only [renV, renL]; (first | done | rfl | (simp; done) | (simp; omega) | grind)) | (exfalso; omega)
    · rw [eqB_t rfl fun j hj => of_decide_eq_true (hQ j (by omega))]
      (conv => whnf); (repeat' (first | ((with_reducible refine ifb_mk (fun hc => ?_) (fun hc => ?_)) <;> ((try simp only [decide_eq_true_eq, decide_eq_false_iff_not, Bool.not_eq_true', Bool.not_eq_false', Int.not_lt, Int.not_le, ne_eq, Decidable.not_not, beq_iff_eq, List.cons.injEq, and_true] at hc); (first | (exfalso; omega) | exact absurd True.intro hc | conv => whnf))) | ((with_reducible refine And.intro True.intro ?_); conv => whnf) | ((with_reducible refine grd_and ?_); refine And.intro (hil) ?_; conv => whnf) | ((with_reducible refine WpR.draw (id := 6) mixed [0, 1, 2, 3, 4, 5, 6, 7, 8] [0, 0, 3, 7, 0, 0, 48, 112, 255] ?hh ?_); (case hh => kernel_rfl); conv => whnf) | ((with_reducible refine And.intro ?hh ?_); (case hh => exact condA); conv => whnf) | fail))
      (refine ⟨[], ?_, rfl, rfl, trivial, trivs⟩; simp only [renV, renL]; (first | done | rfl | (simp; done) | (simp; omega) | grind))
  · have e : eqB n a m b = false := by unfold eqB; rw [decide_eq_false he]; rfl
    rw [e]
    (conv => whnf); (repeat' (first | ((with_reducible refine ifb_mk (fun hc => ?_) (fun hc => ?_)) <;> ((try simp only [decide_eq_true_eq, decide_eq_false_iff_not, Bool.not_eq_true', Bool.not_eq_false', Int.not_lt, Int.not_le, ne_eq, Decidable.not_not, beq_iff_eq, List.cons.injEq, and_true] at hc); (first | (exfalso; omega) | exact absurd True.intro hc | conv => whnf))) | ((with_reducible refine And.intro True.intro ?_); conv => whnf) | ((with_reducible refine And.intro ?hh ?_); (case hh => exact condA); conv => whnf) | fail))
    all_goals first | (refine ⟨[], ?_, rfl, rfl, trivial, trivs⟩; simp only [renV, renL]; (first | done | rfl | (simp; done) | (simp; omega) | grind)) | (exfalso; omega)
theorem great_ok (h : As.H) (W H : Int) (ex : Bool) (k : Nat) (d : Nat → Int) (hk : k ≤ 9223372036854775807) : CallOk Try.prog 18 [plV W H ex k d] h (.bool (decide (50 < k))) h := by
  refine CallOk.run0 Try.func18 rfl rfl rfl rfl rfl (WpR.of_vc ?_)
  by_cases hc : 50 < k
  · rw [decide_eq_true hc]
    (conv => whnf); (repeat' (first | ((with_reducible refine ifb_mk (fun hc => ?_) (fun hc => ?_)) <;> ((try simp only [decide_eq_true_eq, decide_eq_false_iff_not, Bool.not_eq_true', Bool.not_eq_false', Int.not_lt, Int.not_le, ne_eq, Decidable.not_not, beq_iff_eq, List.cons.injEq, and_true] at hc); (first | (exfalso; omega) | exact absurd True.intro hc | conv => whnf))) | ((with_reducible refine And.intro True.intro ?_); conv => whnf) | ((with_reducible refine And.intro ?hh ?_); (case hh => exact condA); conv => whnf) | fail))
    all_goals first | (refine ⟨[], ?_, rfl, rfl, trivial, trivs⟩; simp only [renV, renL]; (first | done | rfl | (simp; done) | (simp; omega) | grind)) | (exfalso; omega) | (refine ⟨[], ?_, rfl, rfl, trivial, trivs⟩; simp only [renV]; rw [decide_eq_true (by omega)])
  · rw [decide_eq_false hc]
    (conv => whnf); (repeat' (first | ((with_reducible refine ifb_mk (fun hc => ?_) (fun hc => ?_)) <;> ((try simp only [decide_eq_true_eq, decide_eq_false_iff_not, Bool.not_eq_true', Bool.not_eq_false', Int.not_lt, Int.not_le, ne_eq, Decidable.not_not, beq_iff_eq, List.cons.injEq, and_true] at hc); (first | (exfalso; omega) | exact absurd True.intro hc | conv => whnf))) | ((with_reducible refine And.intro True.intro ?_); conv => whnf) | ((with_reducible refine And.intro ?hh ?_); (case hh => exact condA); conv => whnf) | fail))
    all_goals first | (refine ⟨[], ?_, rfl, rfl, trivial, trivs⟩; simp only [renV, renL]; (first | done | rfl | (simp; done) | (simp; omega) | grind)) | (exfalso; omega) | (refine ⟨[], ?_, rfl, rfl, trivial, trivs⟩; simp only [renV]; rw [decide_eq_false (by omega)])
end Go.Proofs.H

