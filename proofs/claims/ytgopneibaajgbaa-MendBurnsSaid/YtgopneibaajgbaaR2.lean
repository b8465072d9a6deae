/- What the functions answer that the laws call, one after another (R2). -/
import Derived.Test.YtgopneibaajgbaaAs6
import Derived.Test.YtgopneibaajgbaaR1
import Derived.Test.YtgopneibaajgbaaB4

set_option linter.unusedVariables false
namespace Go.Proofs.H
open Go.As
set_option maxRecDepth 20000
set_option linter.unusedVariables false
set_option linter.unusedSimpArgs false

theorem added_rsl {h : As.H} {ex : Bool} {n : Nat} {a : Nat → Int} : added 1 h (.rsl ex 1 n (iG a)) = some (n, arrV n fun k => .int .i64 (a k)) := by
  have e : ∀ (m i : Nat), flat (iG a) m i = (List.range' i m).map fun k => V.int .i64 (a k) := fun m => by
    induction m with
    | zero => intro i; rfl
    | succ m ih => intro i; show iG a i ++ flat (iG a) m (i + 1) = _; rw [ih, List.range'_succ]; rfl
  have e2 : flat (iG a) n 0 = arrV n fun k => .int .i64 (a k) := by rw [e]; unfold arrV; rw [List.range_eq_range']
  unfold added
  show (if (flat (iG a) n 0).all one = true ∧ (flat (iG a) n 0).length = n * 1 then some (n, flat (iG a) n 0) else none) = _
  rw [e2, if_pos ⟨arrV_one fun _ => rfl, by rw [arrV_len, Nat.mul_one]⟩]
def J0 (a : Nat → Int) (i : Nat) (N : Int) (L : List Nat) (j : Nat) : Nat → Int := rsL (rs a i (-(4 * N))) N (L.take j)
set_option maxHeartbeats 8000000 in
theorem hitR_new (h : As.H) (W H i : Nat) (hW : 1 ≤ W ∧ W ≤ 6) (hH : 1 ≤ H ∧ H ≤ 6) (hi : i < W * H) (n : Nat) (hn : n = W * H) (ex : Bool) (a : Nat → Int) (N : Int) (ha : Sml n 1099511627776 a) (hN : -1099511627776 ≤ N ∧ N ≤ 1099511627776) :
    CallOk Try.prog 44 [.int .i64 W, .int .i64 H, .rsl ex 1 n (iG a), .int .i64 i, .int .i64 N] h (.sl (h.n + 0) 0 (0 + n) (0 + n) false) (addBs h [.cells (ofL (arrV n fun k => .int .i64 (hitA (adI W H) a i N k)) 0) true none]) := by
  have hwh := wh_le hW hH
  have kB := fun h' => beside_ok h' W H i hW hH hi
  have hend := rsL_bs W H i a N
  have hlen := bsL_len W H i
  have hmem : ∀ x ∈ bsL W H i, x < n := fun x hx => by rw [hn]; exact bsL_lt hW hH hi hx
  obtain ⟨L, hL⟩ : ∃ L, bsL W H i = L := ⟨_, rfl⟩
  rw [hL] at kB hend hlen hmem
  have hrng : ∀ j, Sml n 9895604649984 (J0 a i N L j) := fun j k hk => by
    have h1 := rsL_rng (n := n) (a := rs a i (-(4 * N))) (N := N) (B := 5497558138880) (C := 1099511627776) (fun k hk => by have := ha k hk; unfold rs; split <;> omega) hN (L.take j) k hk
    have h2 : (L.take j).length ≤ 4 := by rw [List.length_take]; omega
    unfold J0
    generalize (L.take j).length = q at h1 h2
    omega
  have hJ0 : J0 a i N L 0 = rs a i (-(4 * N)) := rfl
  have hJS : ∀ j, j < L.length → J0 a i N L (j + 1) = rs (J0 a i N L j) (L.getD j 0) N := fun j hj => by
    unfold J0
    rw [List.take_add_one, List.getElem?_eq_getElem hj]
    rw [List.getD_eq_getElem?_getD, List.getElem?_eq_getElem hj]
    exact rsL_snoc _ _ _ _
  have hJe : J0 a i N L L.length = hitA (adI W H) a i N := by unfold J0; rw [List.take_length, hend]
  have hx : ∀ j, j < L.length → L.getD j 0 < n := fun j hj => by rw [List.getD_eq_getElem?_getD, List.getElem?_eq_getElem hj]; exact hmem _ (List.getElem_mem hj)
  rw [← hJe]
  have hM : ∀ (m : Nat) (f : Nat → Int) gg, ltB m (.cells (ofL (arrV n fun k => .int .i64 (f k)) 0) true gg) := fun m f gg => ltB_ofLb (arrV_bare fun _ => rfl)
  have hA0 : (arrV n fun k => V.int .i64 (a k)).length = n := arrV_len _ _
  have hO : (arrV n fun k => V.int .i64 (a k)).all one = true := arrV_one fun _ => rfl
  have hadd := fun h' : As.H => added_rsl (h := h') (ex := ex) (n := n) (a := a)
  have hset : ∀ (ρ : Nat → Nat) (f : Nat → Int) (o p : Nat) (x : Int) gg, o = p → SubQ ρ (.cells (ofL (arrV n fun k => .int .i64 (rs f p x k)) 0) true gg) (.cells ((ofL (arrV n fun k => .int .i64 (f k)) 0).set o (.int .i64 (f p + x))) true gg) := fun ρ f o p x gg ho =>
    arrV_set (fun _ => rfl) rfl ho fun c hc => by unfold rs; by_cases h : c = p; (rw [if_pos h, if_pos h, h]); (rw [if_neg h, if_neg h])
  have hget : ∀ (f : Nat → Int) (o p : Nat), o = p → p < n → (ofL (arrV n fun k => .int .i64 (f k)) 0).get o = some (.int .i64 (f p)) := fun f o p ho hp => arrV_get ho hp
  have hsub : ∀ (ρ : Nat → Nat) (f : Nat → Int) gg, SubQ ρ (.cells (ofL (arrV n fun k => .int .i64 (f k)) 0) true none) (.cells (ofL (arrV n fun k => .int .i64 (f k)) 0) true gg) := fun ρ f gg => SubQ.ofL rfl (arrV_bare fun _ => rfl) (.inl rfl)
  have hai := ha i (by omega)
  refine CallOk.runN Try.func44 rfl rfl (argsC := [.int .i64 W, .int .i64 H, .rsl ex 1 n (iG a), .int .i64 i, .int .i64 N]) (fun N => .sl (N + 0) 0 (0 + n) (0 + n) false) (fun _ => [.cells (ofL (arrV n fun k => .int .i64 (J0 a i N L L.length k)) 0) true none]) (Nat.le_of_ble_eq_true rfl) [] (CaL.lt0 rfl) (viewM0 h) (.sl (i := 0) (Nat.le_of_ble_eq_true rfl) rfl rfl) rfl (fun i b hi => ?_) (WpR.of_vc ?_)
  · match i, hi with
    | 0, hi => cases hi; exact ⟨_, rfl, rfl, .bare (ofL_bare (arrV_bare fun _ => rfl))⟩
    | i + 1, hi => simp at hi
  · generalize hJ : J0 a i N L = J at *
    have g1 := hget a (0 + (i : Int).toNat * 1) i (by omega) (by omega)
    have p1 : putN [V.int .i64 (a i - 4 * N)] (ofL (arrV n fun k => .int .i64 (a k)) 0) (0 + (i : Int).toNat * 1) = some ((ofL (arrV n fun k => .int .i64 (a k)) 0).set (0 + (i : Int).toNat * 1) (.int .i64 (a i - 4 * N))) := by rw [putN_cons, g1]; rfl
    (conv => whnf); (repeat' (first | ((with_reducible refine ifb_mk (fun hc => ?_) (fun hc => ?_)) <;> ((try simp only [decide_eq_true_eq, decide_eq_false_iff_not, Bool.not_eq_true', Bool.not_eq_false', Int.not_lt, Int.not_le, ne_eq, Decidable.not_not, beq_iff_eq, List.cons.injEq, and_true] at hc); (first | (exfalso; omega) | exact absurd True.intro hc | conv => whnf))) | ((with_reducible refine And.intro True.intro ?_); conv => whnf) | (refine som_mk (hadd _) ?_; conv => whnf) | (refine AppX.copy (n := n) (L := []) rfl rfl rfl (by omega) (by omega) ?_; conv => whnf) | (refine som_mk (g1) ?_; conv => whnf) | ((with_reducible refine grd_putN ?_); refine som_mk (a := ?_) ?hh ?_; (case hh => exact p1); conv => whnf) | ((with_reducible refine CallX.all ?_); refine CallW.of_ok (kB _) ?_; conv => whnf) | ((with_reducible refine And.intro ?hh ?_); (case hh => exact condA); conv => whnf) | fail))
    have hMap : ∀ j, ltB 2 (.cells (ofL (arrV n fun k => .int .i64 (J j k)) 0) true (some (1, (0 + n) * 1))) := fun j => hM 2 _ _
    have hMapB : ∀ j, ltB 1000 (.cells (ofL (arrV n fun k => .int .i64 (J j k)) 0) true (some (1, (0 + n) * 1))) := fun j => hM 1000 _ _
    have hfirst : SubQ (rho []) (.cells (ofL (arrV n fun k => .int .i64 (J 0 k)) 0) true (some (1, (0 + n) * 1))) (.cells ((ofL (arrV n fun k => .int .i64 (a k)) 0).set (0 + (i : Int).toNat * 1) (.int .i64 (a i - 4 * N))) true (some (1, (0 + n) * 1))) := by rw [hJ0]; exact hset _ a _ i _ _ (by omega)
    refine WpR.loopA (ι := Nat) [] [4, 11, 12] [1] [] 2 (fun j => [(13, .int .i64 j)]) (fun j => [(1, .cells (ofL (arrV n fun k => .int .i64 (J j k)) 0) true (some (1, (0 + n) * 1)))]) (fun j => L.length - j) (fun j => j ≤ L.length) ?_ (0) (Nat.zero_le _) [] ⟨rfl, rfl, (by (repeat' (first | exact True.intro | rfl | exact gr_ren rfl | exact aV_ren rfl | exact aW_ren rfl rfl | refine And.intro ?_ ?_))), (by (repeat' (first | exact True.intro | rfl | exact gr_ren rfl | exact aV_ren rfl | exact aW_ren rfl rfl | refine And.intro ?_ ?_))), (by (repeat' (first | exact True.intro | rfl | exact gr_ren rfl | exact aV_ren rfl | exact aW_ren rfl rfl | refine And.intro ?_ ?_))), ⟨.inr ⟨_, rfl, hfirst⟩, trivial⟩, rfl, rfl⟩
    intro j hj
    refine WpR.of_vc ?_
    by_cases hjl : j < L.length
    · have hxj := hx j hjl
      have hJj := hJS j hjl
      have hr := hrng j _ hxj
      have hv : iL L j = (L.getD j 0 : Nat) := rfl
      generalize L.getD j 0 = x at *
      have g2 := hget (J j) (0 + (iL L j).toNat * 1) x (by omega) hxj
      have p2 : putN [V.int .i64 (J j x + N)] (ofL (arrV n fun k => .int .i64 (J j k)) 0) (0 + (iL L j).toNat * 1) = some ((ofL (arrV n fun k => .int .i64 (J j k)) 0).set (0 + (iL L j).toNat * 1) (.int .i64 (J j x + N))) := by rw [putN_cons, g2]; rfl
      have hb := hset (rho []) (J j) (0 + (iL L j).toNat * 1) x N (some (1, (0 + n) * 1)) (by omega)
      rw [← hJj] at hb
      (conv => whnf); (repeat' (first | ((with_reducible refine ifb_mk (fun hc => ?_) (fun hc => ?_)) <;> ((try simp only [decide_eq_true_eq, decide_eq_false_iff_not, Bool.not_eq_true', Bool.not_eq_false', Int.not_lt, Int.not_le, ne_eq, Decidable.not_not, beq_iff_eq, List.cons.injEq, and_true] at hc); (first | (exfalso; omega) | exact absurd True.intro hc | conv => whnf))) | ((with_reducible refine And.intro True.intro ?_); conv => whnf) | ((with_reducible refine grd_and ?_); refine And.intro (hjl) ?_; conv => whnf) | (refine som_mk (g2) ?_; conv => whnf) | ((with_reducible refine grd_putN ?_); refine som_mk (a := ?_) ?hh ?_; (case hh => exact p2); conv => whnf) | ((with_reducible refine And.intro ?hh ?_); (case hh => exact condA); conv => whnf) | fail))
      exact ⟨j + 1, [], by omega, by omega, ⟨rfl, rfl, (by (repeat' (first | exact True.intro | rfl | exact gr_ren rfl | exact aV_ren rfl | exact aW_ren rfl rfl | refine And.intro ?_ ?_))), (by (repeat' (first | exact True.intro | rfl | exact gr_ren rfl | exact aV_ren rfl | exact aW_ren rfl rfl | refine And.intro ?_ ?_))), (by (repeat' (first | exact True.intro | rfl | exact gr_ren rfl | exact aV_ren rfl | exact aW_ren rfl rfl | refine And.intro ?_ ?_))), ⟨.inr ⟨_, rfl, hb⟩, trivial⟩, rfl, rfl⟩⟩
    · have e : j = L.length := by omega
      subst e
      (conv => whnf); (repeat' (first | ((with_reducible refine ifb_mk (fun hc => ?_) (fun hc => ?_)) <;> ((try simp only [decide_eq_true_eq, decide_eq_false_iff_not, Bool.not_eq_true', Bool.not_eq_false', Int.not_lt, Int.not_le, ne_eq, Decidable.not_not, beq_iff_eq, List.cons.injEq, and_true] at hc); (first | (exfalso; omega) | exact absurd True.intro hc | conv => whnf))) | ((with_reducible refine And.intro True.intro ?_); conv => whnf) | ((with_reducible refine grd_and ?_); refine And.intro (hjl) ?_; conv => whnf) | ((with_reducible refine And.intro ?hh ?_); (case hh => exact condA); conv => whnf) | fail))
      exact ⟨[1], rfl, rfl, rfl, ⟨⟨_, rfl, rfl, hsub _ _ _⟩, hM _ _ _, rfl, trivial⟩, trivs⟩
theorem hitR_ok (h : As.H) (W H i : Nat) (hW : 1 ≤ W ∧ W ≤ 6) (hH : 1 ≤ H ∧ H ≤ 6) (hi : i < W * H) (n : Nat) (hn : n = W * H) (ex : Bool) (a : Nat → Int) (N : Int) (ha : Sml n 1099511627776 a) (hN : -1099511627776 ≤ N ∧ N ≤ 1099511627776) :
    CallOk Try.prog 44 [.int .i64 W, .int .i64 H, .rsl ex 1 n (iG a), .int .i64 i, .int .i64 N] h (.rsl false 1 n (iG (hitA (adI W H) a i N))) h := by
  have := CallOk.freeze (v := .rsl false 1 (0 + n) (iG (hitA (adI W H) a i N))) (hitR_new h W H i hW hH hi n hn ex a N ha hN) (.sl (i := 0) rfl rfl (fun h => by cases h) (Nat.le_refl _) (fun j _ => rfl) (fun j hj k v hv => by
    match k with
    | 0 =>
      have hv' : V.int .i64 (hitA (adI W H) a i N j) = v := by simpa [iG] using hv
      subst hv'
      exact ⟨arrV_get (by omega) (by omega), rfl⟩
    | k + 1 => simp [iG] at hv)) (fun b hb => by rw [List.mem_singleton.1 hb]; rfl)
  rwa [Nat.zero_add] at this
end Go.Proofs.H

namespace Go.Proofs.H
open Go.As
set_option maxRecDepth 20000
set_option linter.unusedVariables false
set_option linter.unusedSimpArgs false
theorem added_sl {h : As.H} {b n cap : Nat} {ex w : Bool} {g : Option (Nat × Nat)} {a : Nat → Int} (hg : h.get b = some (.cells (ofL (arrV n fun k => .int .i64 (a k)) 0) w g)) : added 1 h (.sl b 0 n cap ex) = some (n, arrV n fun k => .int .i64 (a k)) := by
  have e : getN (ofL (arrV n fun k => V.int .i64 (a k)) 0) (n * 1) 0 = some (arrV n fun k => .int .i64 (a k)) := by rw [Nat.mul_one]; exact getN_arr fun k hk => by rw [Nat.zero_add]; exact arrV_get rfl hk
  unfold added
  dsimp only
  rw [hg]
  dsimp only
  rw [e]
  dsimp only
  rw [if_pos (arrV_one fun _ => rfl)]
set_option maxHeartbeats 8000000 in
theorem hitS_new (h : As.H) (W H i : Nat) (hW : 1 ≤ W ∧ W ≤ 6) (hH : 1 ≤ H ∧ H ≤ 6) (hi : i < W * H) (n : Nat) (hn : n = W * H) (sv : V) (a : Nat → Int) (N : Int) (ha : Sml n 1099511627776 a) (hN : -1099511627776 ≤ N ∧ N ≤ 1099511627776) (hsv : SlC h (arrV n fun k => .int .i64 (a k)) n sv) :
    CallOk Try.prog 44 [.int .i64 W, .int .i64 H, sv, .int .i64 i, .int .i64 N] h (.sl (h.n + 0) 0 (0 + n) (0 + n) false) (addBs h [.cells (ofL (arrV n fun k => .int .i64 (hitA (adI W H) a i N k)) 0) true none]) := by
  have hwh := wh_le hW hH
  have kB := fun h' => beside_ok h' W H i hW hH hi
  have hend := rsL_bs W H i a N
  have hlen := bsL_len W H i
  have hmem : ∀ x ∈ bsL W H i, x < n := fun x hx => by rw [hn]; exact bsL_lt hW hH hi hx
  obtain ⟨L, hL⟩ : ∃ L, bsL W H i = L := ⟨_, rfl⟩
  rw [hL] at kB hend hlen hmem
  have hrng : ∀ j, Sml n 9895604649984 (J0 a i N L j) := fun j k hk => by
    have h1 := rsL_rng (n := n) (a := rs a i (-(4 * N))) (N := N) (B := 5497558138880) (C := 1099511627776) (fun k hk => by have := ha k hk; unfold rs; split <;> omega) hN (L.take j) k hk
    have h2 : (L.take j).length ≤ 4 := by rw [List.length_take]; omega
    unfold J0
    generalize (L.take j).length = q at h1 h2
    omega
  have hJ0 : J0 a i N L 0 = rs a i (-(4 * N)) := rfl
  have hJS : ∀ j, j < L.length → J0 a i N L (j + 1) = rs (J0 a i N L j) (L.getD j 0) N := fun j hj => by
    unfold J0
    rw [List.take_add_one, List.getElem?_eq_getElem hj]
    rw [List.getD_eq_getElem?_getD, List.getElem?_eq_getElem hj]
    exact rsL_snoc _ _ _ _
  have hJe : J0 a i N L L.length = hitA (adI W H) a i N := by unfold J0; rw [List.take_length, hend]
  have hx : ∀ j, j < L.length → L.getD j 0 < n := fun j hj => by rw [List.getD_eq_getElem?_getD, List.getElem?_eq_getElem hj]; exact hmem _ (List.getElem_mem hj)
  rw [← hJe]
  have hM : ∀ (m : Nat) (f : Nat → Int) gg, ltB m (.cells (ofL (arrV n fun k => .int .i64 (f k)) 0) true gg) := fun m f gg => ltB_ofLb (arrV_bare fun _ => rfl)
  have hA0 : (arrV n fun k => V.int .i64 (a k)).length = n := arrV_len _ _
  have hO : (arrV n fun k => V.int .i64 (a k)).all one = true := arrV_one fun _ => rfl
  have hadd := fun (h' : As.H) cap ex (hg : h'.get 0 = some (.cells (ofL (arrV n fun k => .int .i64 (a k)) 0) false none)) => added_sl (h := h') (cap := cap) (ex := ex) hg
  obtain ⟨vo, svC, hsv, hca, hvw⟩ := hsv.view 0
  have hset : ∀ (ρ : Nat → Nat) (f : Nat → Int) (o p : Nat) (x : Int) gg, o = p → SubQ ρ (.cells (ofL (arrV n fun k => .int .i64 (rs f p x k)) 0) true gg) (.cells ((ofL (arrV n fun k => .int .i64 (f k)) 0).set o (.int .i64 (f p + x))) true gg) := fun ρ f o p x gg ho =>
    arrV_set (fun _ => rfl) rfl ho fun c hc => by unfold rs; by_cases h : c = p; (rw [if_pos h, if_pos h, h]); (rw [if_neg h, if_neg h])
  have hget : ∀ (f : Nat → Int) (o p : Nat), o = p → p < n → (ofL (arrV n fun k => .int .i64 (f k)) 0).get o = some (.int .i64 (f p)) := fun f o p ho hp => arrV_get ho hp
  have hsub : ∀ (ρ : Nat → Nat) (f : Nat → Int) gg, SubQ ρ (.cells (ofL (arrV n fun k => .int .i64 (f k)) 0) true none) (.cells (ofL (arrV n fun k => .int .i64 (f k)) 0) true gg) := fun ρ f gg => SubQ.ofL rfl (arrV_bare fun _ => rfl) (.inl rfl)
  have hai := ha i (by omega)
  refine CallOk.runN Try.func44 rfl rfl (argsC := [.int .i64 W, .int .i64 H, svC, .int .i64 i, .int .i64 N]) (fun N => .sl (N + 0) 0 (0 + n) (0 + n) false) (fun _ => [.cells (ofL (arrV n fun k => .int .i64 (J0 a i N L L.length k)) 0) true none]) (Nat.le_of_ble_eq_true rfl) [vo] (.cons (.bare rfl) (.cons (.bare rfl) (.cons (hca _ rfl) (.cons (.bare rfl) (.cons (.bare rfl) .nil))))) (viewMc1 (arrV_bare fun _ => rfl) hvw) (.sl (i := 0) (Nat.le_of_ble_eq_true rfl) rfl rfl) rfl (fun i b hi => ?_) (WpR.of_vc ?_)
  · match i, hi with
    | 0, hi => cases hi; exact ⟨_, rfl, rfl, .bare (ofL_bare (arrV_bare fun _ => rfl))⟩
    | i + 1, hi => simp at hi
  · generalize hJ : J0 a i N L = J at *
    have g1 := hget a (0 + (i : Int).toNat * 1) i (by omega) (by omega)
    have p1 : putN [V.int .i64 (a i - 4 * N)] (ofL (arrV n fun k => .int .i64 (a k)) 0) (0 + (i : Int).toNat * 1) = some ((ofL (arrV n fun k => .int .i64 (a k)) 0).set (0 + (i : Int).toNat * 1) (.int .i64 (a i - 4 * N))) := by rw [putN_cons, g1]; rfl
    cases hsv with
    | nil h0' => omega
    | @sl cap exx =>
    have hv0 : ltB 3 (.cells (ofL (arrV n fun k => V.int .i64 (a k)) 0) false none) := ltB_ofLb (arrV_bare fun _ => rfl)
    (conv => whnf); (repeat' (first | ((with_reducible refine ifb_mk (fun hc => ?_) (fun hc => ?_)) <;> ((try simp only [decide_eq_true_eq, decide_eq_false_iff_not, Bool.not_eq_true', Bool.not_eq_false', Int.not_lt, Int.not_le, ne_eq, Decidable.not_not, beq_iff_eq, List.cons.injEq, and_true] at hc); (first | (exfalso; omega) | exact absurd True.intro hc | conv => whnf))) | ((with_reducible refine And.intro True.intro ?_); conv => whnf) | (refine som_mk (hadd _ cap exx rfl) ?_; conv => whnf) | (refine AppX.copy (n := n) (L := []) rfl rfl rfl (by omega) (by omega) ?_; conv => whnf) | (refine som_mk (g1) ?_; conv => whnf) | ((with_reducible refine grd_putN ?_); refine som_mk (a := ?_) ?hh ?_; (case hh => exact p1); conv => whnf) | ((with_reducible refine CallX.all ?_); refine CallW.of_ok (kB _) ?_; conv => whnf) | ((with_reducible refine And.intro ?hh ?_); (case hh => exact condA); conv => whnf) | fail))
    have hMap : ∀ j, ltB 3 (.cells (ofL (arrV n fun k => .int .i64 (J j k)) 0) true (some (1, (0 + n) * 1))) := fun j => hM 3 _ _
    have hMapB : ∀ j, ltB 1000 (.cells (ofL (arrV n fun k => .int .i64 (J j k)) 0) true (some (1, (0 + n) * 1))) := fun j => hM 1000 _ _
    have hfirst : SubQ (rho []) (.cells (ofL (arrV n fun k => .int .i64 (J 0 k)) 0) true (some (1, (0 + n) * 1))) (.cells ((ofL (arrV n fun k => .int .i64 (a k)) 0).set (0 + (i : Int).toNat * 1) (.int .i64 (a i - 4 * N))) true (some (1, (0 + n) * 1))) := by rw [hJ0]; exact hset _ a _ i _ _ (by omega)
    refine WpR.loopA (ι := Nat) [] [4, 11, 12] [2] [] 3 (fun j => [(13, .int .i64 j)]) (fun j => [(2, .cells (ofL (arrV n fun k => .int .i64 (J j k)) 0) true (some (1, (0 + n) * 1)))]) (fun j => L.length - j) (fun j => j ≤ L.length) ?_ (0) (Nat.zero_le _) [] ⟨rfl, rfl, (by (repeat' (first | exact True.intro | rfl | exact gr_ren rfl | exact aV_ren rfl | exact aW_ren rfl rfl | refine And.intro ?_ ?_))), (by (repeat' (first | exact True.intro | rfl | exact gr_ren rfl | exact aV_ren rfl | exact aW_ren rfl rfl | refine And.intro ?_ ?_))), (by (repeat' (first | exact True.intro | rfl | exact gr_ren rfl | exact aV_ren rfl | exact aW_ren rfl rfl | refine And.intro ?_ ?_))), ⟨.inr ⟨_, rfl, hfirst⟩, trivial⟩, rfl, rfl⟩
    intro j hj
    refine WpR.of_vc ?_
    by_cases hjl : j < L.length
    · have hxj := hx j hjl
      have hJj := hJS j hjl
      have hr := hrng j _ hxj
      have hv : iL L j = (L.getD j 0 : Nat) := rfl
      generalize L.getD j 0 = x at *
      have g2 := hget (J j) (0 + (iL L j).toNat * 1) x (by omega) hxj
      have p2 : putN [V.int .i64 (J j x + N)] (ofL (arrV n fun k => .int .i64 (J j k)) 0) (0 + (iL L j).toNat * 1) = some ((ofL (arrV n fun k => .int .i64 (J j k)) 0).set (0 + (iL L j).toNat * 1) (.int .i64 (J j x + N))) := by rw [putN_cons, g2]; rfl
      have hb := hset (rho []) (J j) (0 + (iL L j).toNat * 1) x N (some (1, (0 + n) * 1)) (by omega)
      rw [← hJj] at hb
      (conv => whnf); (repeat' (first | ((with_reducible refine ifb_mk (fun hc => ?_) (fun hc => ?_)) <;> ((try simp only [decide_eq_true_eq, decide_eq_false_iff_not, Bool.not_eq_true', Bool.not_eq_false', Int.not_lt, Int.not_le, ne_eq, Decidable.not_not, beq_iff_eq, List.cons.injEq, and_true] at hc); (first | (exfalso; omega) | exact absurd True.intro hc | conv => whnf))) | ((with_reducible refine And.intro True.intro ?_); conv => whnf) | ((with_reducible refine grd_and ?_); refine And.intro (hjl) ?_; conv => whnf) | (refine som_mk (g2) ?_; conv => whnf) | ((with_reducible refine grd_putN ?_); refine som_mk (a := ?_) ?hh ?_; (case hh => exact p2); conv => whnf) | ((with_reducible refine And.intro ?hh ?_); (case hh => exact condA); conv => whnf) | fail))
      exact ⟨j + 1, [], by omega, by omega, ⟨rfl, rfl, (by (repeat' (first | exact True.intro | rfl | exact gr_ren rfl | exact aV_ren rfl | exact aW_ren rfl rfl | refine And.intro ?_ ?_))), (by (repeat' (first | exact True.intro | rfl | exact gr_ren rfl | exact aV_ren rfl | exact aW_ren rfl rfl | refine And.intro ?_ ?_))), (by (repeat' (first | exact True.intro | rfl | exact gr_ren rfl | exact aV_ren rfl | exact aW_ren rfl rfl | refine And.intro ?_ ?_))), ⟨.inr ⟨_, rfl, hb⟩, trivial⟩, rfl, rfl⟩⟩
    · have e : j = L.length := by omega
      subst e
      (conv => whnf); (repeat' (first | ((with_reducible refine ifb_mk (fun hc => ?_) (fun hc => ?_)) <;> ((try simp only [decide_eq_true_eq, decide_eq_false_iff_not, Bool.not_eq_true', Bool.not_eq_false', Int.not_lt, Int.not_le, ne_eq, Decidable.not_not, beq_iff_eq, List.cons.injEq, and_true] at hc); (first | (exfalso; omega) | exact absurd True.intro hc | conv => whnf))) | ((with_reducible refine And.intro True.intro ?_); conv => whnf) | ((with_reducible refine grd_and ?_); refine And.intro (hjl) ?_; conv => whnf) | ((with_reducible refine And.intro ?hh ?_); (case hh => exact condA); conv => whnf) | fail))
      exact ⟨[2], rfl, rfl, rfl, ⟨⟨_, rfl, rfl, hsub _ _ _⟩, hM _ _ _, rfl, trivial⟩, trivs⟩
theorem hitS_ok (h : As.H) (W H i : Nat) (hW : 1 ≤ W ∧ W ≤ 6) (hH : 1 ≤ H ∧ H ≤ 6) (hi : i < W * H) (n : Nat) (hn : n = W * H) (sv : V) (a : Nat → Int) (N : Int) (ha : Sml n 1099511627776 a) (hN : -1099511627776 ≤ N ∧ N ≤ 1099511627776) (hsv : SlC h (arrV n fun k => .int .i64 (a k)) n sv) :
    CallOk Try.prog 44 [.int .i64 W, .int .i64 H, sv, .int .i64 i, .int .i64 N] h (.rsl false 1 n (iG (hitA (adI W H) a i N))) h := by
  have := CallOk.freeze (v := .rsl false 1 (0 + n) (iG (hitA (adI W H) a i N))) (hitS_new h W H i hW hH hi n hn sv a N ha hN hsv) (.sl (i := 0) rfl rfl (fun h => by cases h) (Nat.le_refl _) (fun j _ => rfl) (fun j hj k v hv => by
    match k with
    | 0 =>
      have hv' : V.int .i64 (hitA (adI W H) a i N j) = v := by simpa [iG] using hv
      subst hv'
      exact ⟨arrV_get (by omega) (by omega), rfl⟩
    | k + 1 => simp [iG] at hv)) (fun b hb => by rw [List.mem_singleton.1 hb]; rfl)
  rwa [Nat.zero_add] at this
end Go.Proofs.H

namespace Go.Proofs.H
open Go.As
set_option maxRecDepth 20000
set_option linter.unusedVariables false
set_option linter.unusedSimpArgs false

/-! ### The definitions: hammered flat -/

def nowV (n : Nat) (b : Bool) (a : Nat → Int) : V := match b with
  | true => .sl 1 0 (0 + n) (0 + n) false
  | false => .rsl false 1 n (iG a)
theorem nowV_lt (n : Nat) (b : Bool) (a : Nat → Int) : ltV 3 (nowV n b a) = true := by cases b <;> rfl
noncomputable def aB (n : Nat) (a : Nat → Int) (gg : Option (Nat × Nat)) : Blk := .cells (ofL (arrV n fun k => .int .i64 (a k)) 0) true gg
theorem aB_lt {m n : Nat} {a : Nat → Int} {gg : Option (Nat × Nat)} : ltB m (aB n a gg) := ltB_ofLb (arrV_bare fun _ => rfl)
theorem aB_sub {ρ : Nat → Nat} {n : Nat} {a b : Nat → Int} {gg : Option (Nat × Nat)} (h : ∀ k, k < n → a k = b k) : SubQ ρ (aB n a none) (aB n b gg) := arrV_sub (fun _ => rfl) (.inl rfl) fun c hc => by rw [h c hc]
theorem aB_sub' {ρ : Nat → Nat} {n : Nat} {a b : Nat → Int} {gg : Option (Nat × Nat)} (h : ∀ k, k < n → a k = b k) : SubQ ρ (aB n a gg) (aB n b gg) := arrV_sub (fun _ => rfl) (.inr rfl) fun c hc => by rw [h c hc]
theorem aB_get {n : Nat} {a : Nat → Int} {o i : Nat} (ho : o = i) (hi : i < n) : (ofL (arrV n fun k => V.int .i64 (a k)) 0).get o = some (.int .i64 (a i)) := arrV_get ho hi
theorem aB_set {ρ : Nat → Nat} {n : Nat} {f f' : Nat → Int} {o p : Nat} {x : Int} {gg : Option (Nat × Nat)} (ho : o = p) (hf : ∀ k, k < n → f' k = if k = p then x else f k) : SubQ ρ (aB n f' gg) (.cells ((ofL (arrV n fun k => .int .i64 (f k)) 0).set o (.int .i64 x)) true gg) :=
  arrV_set (fun _ => rfl) rfl ho fun c hc => by rw [hf c hc]; by_cases h : c = p; (rw [if_pos h, if_pos h]); (rw [if_neg h, if_neg h])
theorem aB_put {n : Nat} {f : Nat → Int} {o p : Nat} {x : Int} (ho : o = p) (hp : p < n) : putN [V.int .i64 x] (ofL (arrV n fun k => .int .i64 (f k)) 0) o = some ((ofL (arrV n fun k => .int .i64 (f k)) 0).set o (.int .i64 x)) := by rw [putN_cons, aB_get ho hp]; rfl
theorem aB_fz {n0 i n : Nat} {a : Nat → Int} {ex : Bool} {gg : Option (Nat × Nat)} {news : List Blk} (hn : news[i]? = some (aB n a gg)) (b : Nat) (hb : b = n0 + i) : Fz n0 news (.sl b 0 n n ex) (.rsl false 1 n (iG a)) :=
  .sl (i := i) hb hn (fun h => by cases h) (Nat.le_refl _) (fun j _ => rfl) (fun j hj k v hv => by
    match k with
    | 0 =>
      have hv' : V.int .i64 (a j) = v := by simpa [iG] using hv
      subst hv'
      exact ⟨arrV_get (by omega) hj, rfl⟩
    | k + 1 => simp [iG] at hv)
set_option maxHeartbeats 8000000 in
theorem flattenOf_flat (h : As.H) (W H : Int) (n : Nat) (hn : n ≤ 64) (hn0 : 0 < n) (ex : Bool) (a : Nat → Int) (h0 : ∀ k, k < n → 0 ≤ a k ∧ a k ≤ 3) :
    CallOk Try.prog 66 [.int .i64 W, .int .i64 H, .rsl ex 1 n (iG a)] h (.tup [.sl (h.n + 0) 0 (0 + n) (0 + n) false, .sl (h.n + 1) 0 n n true]) (addBs h [aB n a none, aB n z0 none]) := by
  have hadd := fun h' : As.H => added_rsl (h := h') (ex := ex) (n := n) (a := a)
  have hg := fun i (hi : i < n) => aB_get (n := n) (a := a) (o := 0 + (i : Int).toNat * 1) (i := i) (by omega) hi
  have hq1 : ltB 3 (.cells (ofL (arrV n fun k => V.int .i64 (a k)) 0) true (some (1, (0 + n) * 1))) := aB_lt
  have hsub1 : ∀ ρ : Nat → Nat, SubQ ρ (aB n a none) (.cells (ofL (arrV n fun k => V.int .i64 (a k)) 0) true (some (1, (0 + n) * 1))) := fun ρ => aB_sub fun _ _ => rfl
  have hsub2 : ∀ ρ : Nat → Nat, SubQ ρ (aB n z0 none) (.cells (ofL (rep n [V.int .i64 0]) 0) true none) := fun ρ => by rw [arrV_rep]; exact aB_sub fun _ _ => rfl
  have hl1 : ltB 2 (aB n a none) := aB_lt
  have hl2 : ltB 2 (aB n z0 none) := aB_lt
  refine CallOk.runN Try.func66 rfl rfl (argsC := [.int .i64 W, .int .i64 H, .rsl ex 1 n (iG a)]) (fun N => .tup [.sl (N + 0) 0 (0 + n) (0 + n) false, .sl (N + 1) 0 n n true]) (fun _ => [aB n a none, aB n z0 none]) (Nat.le_of_ble_eq_true rfl) [] (CaL.lt0 rfl) (viewM0 h) (ShV.tup (.cons (.sl (i := 0) (Nat.le_of_ble_eq_true rfl) rfl rfl) (.cons (.sl (i := 1) (Nat.le_of_ble_eq_true rfl) rfl rfl) .nil))) rfl (fun i b hi => ?_) (WpR.of_vc ?_)
  · match i, hi with
    | 0, hi => cases hi; exact ⟨_, rfl, rfl, .bare (ofL_bare (arrV_bare fun _ => rfl))⟩
    | 1, hi => cases hi; exact ⟨_, rfl, rfl, .bare (ofL_bare (arrV_bare fun _ => rfl))⟩
    | i + 2, hi => simp at hi
  · (conv => whnf); (repeat' (first | ((with_reducible refine ifb_mk (fun hc => ?_) (fun hc => ?_)) <;> ((try simp only [decide_eq_true_eq, decide_eq_false_iff_not, Bool.not_eq_true', Bool.not_eq_false', Int.not_lt, Int.not_le, ne_eq, Decidable.not_not, beq_iff_eq, List.cons.injEq, and_true] at hc); (first | (exfalso; omega) | exact absurd True.intro hc | conv => whnf))) | ((with_reducible refine And.intro True.intro ?_); conv => whnf) | (refine som_mk (hadd _) ?_; conv => whnf) | (refine AppX.copy (n := n) (L := []) rfl rfl rfl (by omega) (by omega) ?_; conv => whnf) | ((with_reducible refine And.intro ?hh ?_); (case hh => exact condA); conv => whnf) | fail))
    have hq2 : ltB 3 (.cells (ofL (rep n [V.int .i64 0]) 0) true none) := by rw [arrV_rep]; exact aB_lt
    refine WpR.loopA (ι := Nat) [] [0, 1, 2, 8, 9] [] [] 3 (fun i => [(10, .int .i64 i)]) (fun _ => []) (fun i => n - i) (fun i => i ≤ n) ?_ (0) (Nat.zero_le _) [] Back.auto
    intro i hi
    refine WpR.of_vc ?_
    by_cases hil : i < n
    · have q1 := h0 i hil
      have hgi := hg i hil
      have eq4 : (a i).tdiv 4 = 0 := by rw [Int.tdiv_eq_ediv_of_nonneg q1.1]; omega
      have y2 : InR ((a i).tdiv 4) := by rw [eq4]; unfold InR; omega
      (conv => whnf); (repeat' (first | ((with_reducible refine ifb_mk (fun hc => ?_) (fun hc => ?_)) <;> ((try simp only [decide_eq_true_eq, decide_eq_false_iff_not, Bool.not_eq_true', Bool.not_eq_false', Int.not_lt, Int.not_le, ne_eq, Decidable.not_not, beq_iff_eq, List.cons.injEq, and_true] at hc); (first | (exfalso; omega) | exact absurd True.intro hc | conv => whnf))) | ((with_reducible refine And.intro True.intro ?_); conv => whnf) | ((with_reducible refine grd_and ?_); refine And.intro (hil) ?_; conv => whnf) | (refine som_mk (hgi) ?_; conv => whnf) | ((with_reducible refine grd_and ?_); refine And.intro (y2) ?_; conv => whnf) | ((with_reducible refine And.intro ?hh ?_); (case hh => exact condA); conv => whnf) | fail))
      all_goals first | (exfalso; omega) | exact ⟨i + 1, [], by omega, by omega, Back.auto⟩
    · have e : i = n := by omega
      subst e
      (conv => whnf); (repeat' (first | ((with_reducible refine ifb_mk (fun hc => ?_) (fun hc => ?_)) <;> ((try simp only [decide_eq_true_eq, decide_eq_false_iff_not, Bool.not_eq_true', Bool.not_eq_false', Int.not_lt, Int.not_le, ne_eq, Decidable.not_not, beq_iff_eq, List.cons.injEq, and_true] at hc); (first | (exfalso; omega) | exact absurd True.intro hc | conv => whnf))) | ((with_reducible refine And.intro True.intro ?_); conv => whnf) | ((with_reducible refine grd_and ?_); refine And.intro (hil) ?_; conv => whnf) | ((with_reducible refine And.intro ?hh ?_); (case hh => exact condA); conv => whnf) | fail))
      exact ⟨[1, 2], rfl, rfl, rfl, ⟨⟨_, rfl, rfl, hsub1 _⟩, hl1, rfl, ⟨_, rfl, rfl, hsub2 _⟩, hl2, rfl, trivial⟩, trivs⟩
set_option maxHeartbeats 16000000 in
theorem flattenOf_hit (h : As.H) (W H : Nat) (hW : 1 ≤ W ∧ W ≤ 6) (hH : 1 ≤ H ∧ H ≤ 6) (n : Nat) (hn : n = W * H) (ex : Bool) (a : Nat → Int) (h0 : ∀ k, k < n → 0 ≤ a k) (h1 : ∀ k, k < n → a k ≤ 1000) (hnf : ∃ k, k < n ∧ 3 < a k) :
    CallOk Try.prog 66 [.int .i64 W, .int .i64 H, .rsl ex 1 n (iG a)] h (.tup [.rsl false 1 n (iG (xF W H a)), .sl (h.n + 0) 0 n n true]) (addBs h [aB n (uF W H a) none]) := by
  have hwh := wh_le hW hH
  have g := gr_ok hW hH
  have hp0 : pt (W * H) (wgt W) a ≤ 432000 := by
    have := pt_le g (wgt_le hW hH) (B := 1000) (fun k hk => h1 k (by omega)) (by omega)
    have h2 : ((W * H : Nat) : Int) * (12 * 1000) ≤ 36 * (12 * 1000) := Int.mul_le_mul_of_nonneg_right (by omega) (by omega)
    omega
  have h0' : ∀ k, k < W * H → 0 ≤ a k := fun k hk => h0 k (by omega)
  have hFf := fin_flat g h0'
  have hmid := Mid.start (n := W * H) (A := adI W H) (w := wgt W) h0'
  have hstp := fun (s : F2) (m : Mid (W * H) (adI W H) (wgt W) a s) => m.stp g
  have hst := fun (s : F2) i hi h3 hj => stp_at (n := W * H) (A := adI W H) (s := s) (i := i) hi h3 hj
  have hitN := fun (s : F2) h => itr_n (n := W * H) (A := adI W H) (s := s) h
  have hF : fin (W * H) (adI W H) (wgt W) a = itr (W * H) (adI W H) (pt (W * H) (wgt W) a).toNat (a, fun _ => 0) := rfl
  have hit0 : ∀ s : F2, itr (W * H) (adI W H) 0 s = s := fun s => rfl
  have hitS : ∀ (k : Nat) (s : F2), itr (W * H) (adI W H) (k + 1) s = itr (W * H) (adI W H) k (stp (W * H) (adI W H) s) := fun k s => rfl
  have hrng : ∀ s : F2, Mid (W * H) (adI W H) (wgt W) a s → ∀ k, k < W * H → 0 ≤ s.1 k ∧ s.1 k ≤ 432000 ∧ 0 ≤ s.2 k ∧ s.2 k ≤ 432000 := fun s m k hk => by
    have q1 := m.pv k hk
    have q2 := m.vn k hk
    have q3 := m.nn k hk
    have q4 := le_pt g m.nn hk
    have q5 := pt_nn g m.nn
    omega
  have kH1 : ∀ (s : F2) (i : Nat), Mid (W * H) (adI W H) (wgt W) a s → i < W * H → ∀ h' : As.H, CallOk Try.prog 44 [.int .i64 W, .int .i64 H, .rsl false 1 n (iG s.1), .int .i64 i, .int .i64 (s.1 i / 4)] h' (.rsl false 1 n (iG (hitA (adI W H) s.1 i (s.1 i / 4)))) h' := fun s i m hi h' =>
    hitR_ok h' W H i hW hH hi n hn false s.1 (s.1 i / 4) (fun k hk => by have := hrng s m k (by omega); omega) (by have := hrng s m i hi; omega)
  have kH2 : ∀ (i : Nat), i < W * H → ∀ (h' : As.H) (sv : V), SlC h' (arrV n fun k => .int .i64 (a k)) n sv → CallOk Try.prog 44 [.int .i64 W, .int .i64 H, sv, .int .i64 i, .int .i64 (a i / 4)] h' (.rsl false 1 n (iG (hitA (adI W H) a i (a i / 4)))) h' := fun i hi h' sv hsv =>
    hitS_ok h' W H i hW hH hi n hn sv a (a i / 4) (fun k hk => by have := h0 k hk; have := h1 k hk; omega) (by have := h0 i (by omega); have := h1 i (by omega); omega) hsv
  have hadd := fun h' : As.H => added_rsl (h := h') (ex := ex) (n := n) (a := a)
  have hsub1 : ∀ ρ : Nat → Nat, SubQ ρ (aB n a none) (.cells (ofL (arrV n fun k => V.int .i64 (a k)) 0) true (some (1, (0 + n) * 1))) := fun ρ => aB_sub fun _ _ => rfl
  have hq2 : ∀ ρ : Nat → Nat, SubQ ρ (aB n (fun _ => 0) none) (.cells (ofL (rep n [V.int .i64 0]) 0) true none) := fun ρ => by rw [arrV_rep]; exact aB_sub fun _ _ => rfl
  have hl1 : ∀ v, ltB 1 (aB n v none) := fun v => aB_lt
  have hMap : ∀ v, ltB 3 (aB n v none) := fun v => aB_lt
  have hMapB : ∀ v, ltB 1000 (aB n v none) := fun v => aB_lt
  have hq1 : ltB 3 (.cells (ofL (arrV n fun k => V.int .i64 (a k)) 0) true (some (1, (0 + n) * 1))) := aB_lt
  have hq3 : ltB 3 (.cells (ofL (rep n [V.int .i64 0]) 0) true none) := by rw [arrV_rep]; exact aB_lt
  have hend : ∀ (ρ : Nat → Nat) (s : F2), s = fin (W * H) (adI W H) (wgt W) a → SubQ ρ (aB n (uF W H a) none) (aB n s.2 none) := fun ρ s e => by rw [e]; exact aB_sub fun _ _ => rfl
  have hbw : ∀ (ρ : Nat → Nat) (v : Nat → Int) (i : Nat) (N : Int) (o : Nat), o = i → i < n → SubQ ρ (aB n (fun k => v k + ee i N k) none) (.cells ((ofL (arrV n fun k => V.int .i64 (v k)) 0).set o (.int .i64 (v i + N))) true none) := fun ρ v i N o ho hi => aB_set ho fun k hk => by
    unfold ee; (try dsimp only); by_cases h : k = i; (subst h; rw [if_pos rfl, if_pos rfl]); (rw [if_neg h, if_neg h]; omega)
  have hbg : ∀ (v : Nat → Int) (i o : Nat), o = i → i < n → (ofL (arrV n fun k => V.int .i64 (v k)) 0).get o = some (.int .i64 (v i)) := fun v i o ho hi => aB_get ho hi
  have hbp : ∀ (v : Nat → Int) (i o : Nat) (x : Int), o = i → i < n → putN [V.int .i64 x] (ofL (arrV n fun k => .int .i64 (v k)) 0) o = some ((ofL (arrV n fun k => .int .i64 (v k)) 0).set o (.int .i64 x)) := fun v i o x ho hi => aB_put ho hi
  have hsl : ∀ h' : As.H, h'.get 1 = some (.cells (ofL (arrV n fun k => V.int .i64 (a k)) 0) true (some (1, (0 + n) * 1))) → SlC h' (arrV n fun k => .int .i64 (a k)) n (.sl 1 0 (0 + n) (0 + n) false) := fun h' hg => by rw [Nat.zero_add]; rw [Nat.zero_add] at hg; exact SlC.own hg
  have hxF : xF W H a = (fin (W * H) (adI W H) (wgt W) a).1 := rfl
  rw [hxF]
  refine CallOk.runN Try.func66 rfl rfl (argsC := [.int .i64 W, .int .i64 H, .rsl ex 1 n (iG a)]) (fun N => .tup [.rsl false 1 n (iG (fin (W * H) (adI W H) (wgt W) a).1), .sl (N + 0) 0 n n true]) (fun _ => [aB n (uF W H a) none]) (Nat.le_of_ble_eq_true rfl) [] (CaL.lt0 rfl) (viewM0 h) (ShV.tup (.cons (.bare rfl) (.cons (.sl (i := 0) (Nat.le_of_ble_eq_true rfl) rfl rfl) .nil))) rfl (fun i b hi => ?_) (WpR.of_vc ?_)
  · match i, hi with
    | 0, hi => cases hi; exact ⟨_, rfl, rfl, .bare (ofL_bare (arrV_bare fun _ => rfl))⟩
    | i + 1, hi => simp at hi
  · generalize fin (W * H) (adI W H) (wgt W) a = F at *
    generalize uF W H a = uu at *
    generalize itr (W * H) (adI W H) = it at *
    generalize (pt (W * H) (wgt W) a).toNat = K at *
    rw [← hn] at *
    (conv => whnf); (repeat' (first | ((with_reducible refine ifb_mk (fun hc => ?_) (fun hc => ?_)) <;> ((try simp only [decide_eq_true_eq, decide_eq_false_iff_not, Bool.not_eq_true', Bool.not_eq_false', Int.not_lt, Int.not_le, ne_eq, Decidable.not_not, beq_iff_eq, List.cons.injEq, and_true] at hc); (first | (exfalso; omega) | exact absurd True.intro hc | conv => whnf))) | ((with_reducible refine And.intro True.intro ?_); conv => whnf) | (refine som_mk (hadd _) ?_; conv => whnf) | (refine AppX.copy (n := n) (L := []) rfl rfl rfl (by omega) (by omega) ?_; conv => whnf) | ((with_reducible refine And.intro ?hh ?_); (case hh => exact condA); conv => whnf) | fail))
    refine WpR.loopA (ι := (Bool × F2) × (Nat × Nat)) [] [0, 1, 2, 9] [2] [] 3 (fun p => [(8, nowV n p.1.1 p.1.2.1), (10, .int .i64 p.2.2)]) (fun p => [(2, aB n p.1.2.2 none)]) (fun p => p.2.1 * 100 + (n - p.2.2)) (fun p => p.2.2 ≤ n ∧ (∀ j, j < p.2.2 → p.1.2.1 j ≤ 3) ∧ Mid n (adI W H) (wgt W) a p.1.2 ∧ it p.2.1 p.1.2 = F ∧ (p.1.1 = true → p.1.2 = (a, fun _ => 0))) ?_ (((true, (a, fun _ => 0)), (K, 0))) (⟨Nat.zero_le _, fun j hj => absurd hj (Nat.not_lt_zero j), hmid, hF.symm, fun _ => rfl⟩) [] ⟨rfl, rfl, (by (repeat' (first | exact True.intro | rfl | exact gr_ren rfl | exact aV_ren rfl | exact aW_ren rfl rfl | refine And.intro ?_ ?_))), (by (repeat' (first | exact True.intro | rfl | exact gr_ren rfl | exact aV_ren rfl | exact aW_ren rfl rfl | refine And.intro ?_ ?_))), (by (repeat' (first | exact True.intro | rfl | exact gr_ren rfl | exact aV_ren rfl | exact aW_ren rfl rfl | refine And.intro ?_ ?_))), ⟨.inr ⟨_, rfl, hq2 _⟩, trivial⟩, rfl, rfl⟩ (htv := fun p _ => ⟨nowV_lt _ _ _, rfl, trivial⟩)
    rintro ⟨⟨b, s⟩, m, i⟩ ⟨j1, j2, j3, j4, j5⟩
    dsimp only at j1 j2 j3 j4 j5
    refine WpR.of_vc ?_
    by_cases hil : i < n
    · obtain ⟨r1, r2, r3, r4⟩ := hrng s j3 i hil
      have hgv := hbg s.2 i (0 + (i : Int).toNat * 1) (by omega) hil
      have hpv := hbp s.2 i (0 + (i : Int).toNat * 1) (s.2 i + s.1 i / 4) (by omega) hil
      have hsv := fun ρ => hbw ρ s.2 i (s.1 i / 4) (0 + (i : Int).toNat * 1) (by omega) hil
      have eq4 : (s.1 i).tdiv 4 = s.1 i / 4 := Int.tdiv_eq_ediv_of_nonneg r1
      have y2 : InR ((s.1 i).tdiv 4) := by rw [eq4]; unfold InR; omega
      by_cases h3 : 3 < s.1 i
      · have hs := hst s i hil h3 j2
        have hmm := hstp s j3
        rw [hs] at hmm
        have hm0 : m ≠ 0 := fun e => by
          subst e
          rw [hit0] at j4
          subst j4
          have := hFf i hil
          omega
        obtain ⟨m, rfl⟩ : ∃ m', m = m' + 1 := ⟨m - 1, by omega⟩
        rw [hitS, hs] at j4
        have hpos : 0 < s.1 i / 4 := by omega
        have kH3 := kH1 s i j3 hil
        have kH4 := kH2 i hil
        rw [← eq4] at hpv hsv hmm j4 hpos kH3
        cases b with
        | false =>
          (conv => whnf); (repeat' (first | ((with_reducible refine ifb_mk (fun hc => ?_) (fun hc => ?_)) <;> ((try simp only [decide_eq_true_eq, decide_eq_false_iff_not, Bool.not_eq_true', Bool.not_eq_false', Int.not_lt, Int.not_le, ne_eq, Decidable.not_not, beq_iff_eq, List.cons.injEq, and_true] at hc); (first | (exfalso; omega) | exact absurd True.intro hc | conv => whnf))) | ((with_reducible refine And.intro True.intro ?_); conv => whnf) | ((with_reducible refine grd_and ?_); refine And.intro (hil) ?_; conv => whnf) | ((with_reducible refine grd_and ?_); refine And.intro (y2) ?_; conv => whnf) | ((with_reducible refine CallX.all ?_); refine CallW.of_ok (kH3 _) ?_; conv => whnf) | (refine som_mk (hgv) ?_; conv => whnf) | ((with_reducible refine grd_putN ?_); refine som_mk (a := ?_) ?hh ?_; (case hh => exact hpv); conv => whnf) | ((with_reducible refine And.intro ?hh ?_); (case hh => exact condA); conv => whnf) | fail))
          all_goals first | (exfalso; omega) | exact ⟨((false, _), (m, 0)), [], by dsimp only; omega, ⟨Nat.zero_le _, fun j hj => absurd hj (Nat.not_lt_zero j), hmm, j4, fun h => by cases h⟩, ⟨rfl, rfl, (by (repeat' (first | exact True.intro | rfl | exact gr_ren rfl | exact aV_ren rfl | exact aW_ren rfl rfl | refine And.intro ?_ ?_))), (by (repeat' (first | exact True.intro | rfl | exact gr_ren rfl | exact aV_ren rfl | exact aW_ren rfl rfl | refine And.intro ?_ ?_))), (by (repeat' (first | exact True.intro | rfl | exact gr_ren rfl | exact aV_ren rfl | exact aW_ren rfl rfl | refine And.intro ?_ ?_))), ⟨.inr ⟨_, rfl, hsv _⟩, trivial⟩, rfl, rfl⟩⟩
        | true =>
          have j5 := j5 rfl
          subst j5
          have hgn := hbg a i (0 + (i : Int).toNat * 1) (by omega) hil
          dsimp only at r1 r2 eq4 y2 kH4 hgv hpv hsv hmm j4 hpos
          rw [← eq4] at kH4
          (conv => whnf); (repeat' (first | ((with_reducible refine ifb_mk (fun hc => ?_) (fun hc => ?_)) <;> ((try simp only [decide_eq_true_eq, decide_eq_false_iff_not, Bool.not_eq_true', Bool.not_eq_false', Int.not_lt, Int.not_le, ne_eq, Decidable.not_not, beq_iff_eq, List.cons.injEq, and_true] at hc); (first | (exfalso; omega) | exact absurd True.intro hc | conv => whnf))) | ((with_reducible refine And.intro True.intro ?_); conv => whnf) | ((with_reducible refine grd_and ?_); refine And.intro (hil) ?_; conv => whnf) | ((with_reducible refine grd_and ?_); refine And.intro (y2) ?_; conv => whnf) | (refine som_mk (hgn) ?_; conv => whnf) | ((with_reducible refine CallX.all ?_); refine CallW.of_ok (kH4 _ _ (hsl _ rfl)) ?_; conv => whnf) | (refine som_mk (hgv) ?_; conv => whnf) | ((with_reducible refine grd_putN ?_); refine som_mk (a := ?_) ?hh ?_; (case hh => exact hpv); conv => whnf) | ((with_reducible refine And.intro ?hh ?_); (case hh => exact condA); conv => whnf) | fail))
          all_goals first | (exfalso; omega) | exact ⟨((false, _), (m, 0)), [], by dsimp only; omega, ⟨Nat.zero_le _, fun j hj => absurd hj (Nat.not_lt_zero j), hmm, j4, fun h => by cases h⟩, ⟨rfl, rfl, (by (repeat' (first | exact True.intro | rfl | exact gr_ren rfl | exact aV_ren rfl | exact aW_ren rfl rfl | refine And.intro ?_ ?_))), (by (repeat' (first | exact True.intro | rfl | exact gr_ren rfl | exact aV_ren rfl | exact aW_ren rfl rfl | refine And.intro ?_ ?_))), (by (repeat' (first | exact True.intro | rfl | exact gr_ren rfl | exact aV_ren rfl | exact aW_ren rfl rfl | refine And.intro ?_ ?_))), ⟨.inr ⟨_, rfl, hsv _⟩, trivial⟩, rfl, rfl⟩⟩
      · have hz : ¬ 0 < (s.1 i).tdiv 4 := by rw [eq4]; omega
        have hj : ∀ j, j < i + 1 → s.1 j ≤ 3 := fun j hj => by
          by_cases he : j = i
          · subst he; omega
          · exact j2 j (by omega)
        cases b with
        | false =>
          (conv => whnf); (repeat' (first | ((with_reducible refine ifb_mk (fun hc => ?_) (fun hc => ?_)) <;> ((try simp only [decide_eq_true_eq, decide_eq_false_iff_not, Bool.not_eq_true', Bool.not_eq_false', Int.not_lt, Int.not_le, ne_eq, Decidable.not_not, beq_iff_eq, List.cons.injEq, and_true] at hc); (first | (exfalso; omega) | exact absurd True.intro hc | conv => whnf))) | ((with_reducible refine And.intro True.intro ?_); conv => whnf) | ((with_reducible refine grd_and ?_); refine And.intro (hil) ?_; conv => whnf) | ((with_reducible refine grd_and ?_); refine And.intro (y2) ?_; conv => whnf) | ((with_reducible refine And.intro ?hh ?_); (case hh => exact condA); conv => whnf) | fail))
          all_goals first | (exfalso; omega) | exact ⟨((false, s), (m, i + 1)), [], by dsimp only; omega, ⟨hil, hj, j3, j4, j5⟩, Back.auto⟩
        | true =>
          have j6 := j5 rfl
          subst j6
          dsimp only at hz eq4 y2 hj
          have hgn := hbg a i (0 + (i : Int).toNat * 1) (by omega) hil
          (conv => whnf); (repeat' (first | ((with_reducible refine ifb_mk (fun hc => ?_) (fun hc => ?_)) <;> ((try simp only [decide_eq_true_eq, decide_eq_false_iff_not, Bool.not_eq_true', Bool.not_eq_false', Int.not_lt, Int.not_le, ne_eq, Decidable.not_not, beq_iff_eq, List.cons.injEq, and_true] at hc); (first | (exfalso; omega) | exact absurd True.intro hc | conv => whnf))) | ((with_reducible refine And.intro True.intro ?_); conv => whnf) | ((with_reducible refine grd_and ?_); refine And.intro (hil) ?_; conv => whnf) | ((with_reducible refine grd_and ?_); refine And.intro (y2) ?_; conv => whnf) | (refine som_mk (hgn) ?_; conv => whnf) | ((with_reducible refine And.intro ?hh ?_); (case hh => exact condA); conv => whnf) | fail))
          all_goals first | (exfalso; omega) | exact ⟨((true, _), (m, i + 1)), [], by dsimp only; omega, ⟨hil, hj, j3, j4, j5⟩, Back.auto⟩
    · have e : i = n := by omega
      subst e
      have hsF : s = F := by rw [← j4]; exact (hitN s j2 m).symm
      cases b with
      | true =>
        obtain ⟨k, hk, h3⟩ := hnf
        have := j5 rfl
        rw [this] at j2
        have := j2 k hk
        dsimp only at this
        omega
      | false =>
        (conv => whnf); (repeat' (first | ((with_reducible refine ifb_mk (fun hc => ?_) (fun hc => ?_)) <;> ((try simp only [decide_eq_true_eq, decide_eq_false_iff_not, Bool.not_eq_true', Bool.not_eq_false', Int.not_lt, Int.not_le, ne_eq, Decidable.not_not, beq_iff_eq, List.cons.injEq, and_true] at hc); (first | (exfalso; omega) | exact absurd True.intro hc | conv => whnf))) | ((with_reducible refine And.intro True.intro ?_); conv => whnf) | ((with_reducible refine grd_and ?_); refine And.intro (hil) ?_; conv => whnf) | ((with_reducible refine And.intro ?hh ?_); (case hh => exact condA); conv => whnf) | fail))
        exact ⟨[2], by rw [← hsF]; rfl, rfl, rfl, ⟨⟨_, rfl, rfl, hend _ s hsF⟩, hl1 _, rfl, trivial⟩, trivs⟩
end Go.Proofs.H

namespace Go.Proofs.H
open Go.As
set_option maxRecDepth 20000
set_option linter.unusedVariables false
set_option linter.unusedSimpArgs false

/-! ### The definitions: what is asked of a plate -/

theorem flat_of {n : Nat} {a : Nat → Int} : (∃ k, k < n ∧ 3 < a k) ∨ ∀ k, k < n → a k ≤ 3 := by
  by_cases h : ∃ k, k < n ∧ 3 < a k
  · exact .inl h
  · exact .inr fun k hk => Int.not_lt.1 fun hc => h ⟨k, hk, hc⟩
theorem xF_flat {W H : Nat} (hW : 1 ≤ W ∧ W ≤ 6) (hH : 1 ≤ H ∧ H ≤ 6) {a : Nat → Int} (h0 : ∀ k, k < W * H → 0 ≤ a k) (h3 : ∀ k, k < W * H → a k ≤ 3) : ∀ k, k < W * H → xF W H a k = a k ∧ uF W H a k = 0 := fun k hk => by
  have := Mid.uniq (gr_ok hW hH) h0 (Mid.start h0) h3 k hk
  exact ⟨this.1.symm, this.2.symm⟩
theorem flattenOf_ok (h : As.H) (W H : Nat) (hW : 1 ≤ W ∧ W ≤ 6) (hH : 1 ≤ H ∧ H ≤ 6) (n : Nat) (hn : n = W * H) (ex : Bool) (a : Nat → Int) (h0 : ∀ k, k < n → 0 ≤ a k) (h1 : ∀ k, k < n → a k ≤ 1000) :
    CallOk Try.prog 66 [.int .i64 W, .int .i64 H, .rsl ex 1 n (iG a)] h (.tup [.rsl false 1 n (iG (xF W H a)), .rsl false 1 n (iG (uF W H a))]) h := by
  have hwh := wh_le hW hH
  rcases flat_of (n := n) (a := a) with hf | hf
  · exact CallOk.freeze (flattenOf_hit h W H hW hH n hn ex a h0 h1 hf) (FzL.tup (.cons (.same rfl) (.cons (aB_fz (i := 0) rfl _ rfl) .nil))) (fun b hb => by rw [List.mem_singleton.1 hb]; rfl)
  · have h2 := flattenOf_flat h W H n (by omega) (by omega) ex a (fun k hk => ⟨h0 k hk, hf k hk⟩)
    rw [Nat.zero_add] at h2
    have h3 := CallOk.freeze h2 (FzL.tup (.cons (aB_fz (i := 0) rfl _ rfl) (.cons (aB_fz (i := 1) rfl _ rfl) .nil))) (fun b hb => by
      rcases List.mem_cons.1 hb with h | h
      · rw [h]; rfl
      · rw [List.mem_singleton.1 h]; rfl)
    have hx := xF_flat hW hH (a := a) (fun k hk => h0 k (by omega)) (fun k hk => hf k (by omega))
    exact CallOk.like h3 (LkL.tup (.cons (.ints fun i hi => (hx i (by omega)).1.symm) (.cons (.ints fun i hi => (hx i (by omega)).2.symm) .nil)))
set_option maxHeartbeats 4000000 in
theorem flattenR_ok (h : As.H) (W H : Nat) (hW : 1 ≤ W ∧ W ≤ 6) (hH : 1 ≤ H ∧ H ≤ 6) (ex : Bool) (k : Nat) (d : Nat → Int) (hk : k = W * H) (hd : ∀ i, i < k → 0 ≤ d i ∧ d i ≤ 30) :
    CallOk Try.prog 28 [plV W H ex k d] h (.tup [.rsl false 1 k (iG (xF W H d)), .rsl false 1 k (iG (uF W H d)), .int .i64 0]) h := by
  have hwh := wh_le hW hH
  have k1 := fun h' => checkPlateR_ok h' W H ex k d (by omega)
  rw [ckP_v ⟨by omega, by omega⟩ hk hd] at k1
  have k2 := fun h' => flattenOf_ok h' W H hW hH k hk ex d (fun i hi => (hd i hi).1) (fun i hi => by have := hd i hi; omega)
  generalize xF W H d = x at *
  generalize uF W H d = u at *
  refine CallOk.run0 Try.func28 rfl rfl rfl rfl rfl (WpR.of_vc ?_)
  (conv => whnf); (repeat' (first | ((with_reducible refine ifb_mk (fun hc => ?_) (fun hc => ?_)) <;> ((try simp only [decide_eq_true_eq, decide_eq_false_iff_not, Bool.not_eq_true', Bool.not_eq_false', Int.not_lt, Int.not_le, ne_eq, Decidable.not_not, beq_iff_eq, List.cons.injEq, and_true] at hc); (first | (exfalso; omega) | exact absurd True.intro hc | conv => whnf))) | ((with_reducible refine And.intro True.intro ?_); conv => whnf) | ((with_reducible refine CallX.all ?_); refine CallW.of_ok (k1 _) ?_; conv => whnf) | ((with_reducible refine CallX.all ?_); refine CallW.of_ok (k2 _) ?_; conv => whnf) | ((with_reducible refine And.intro ?hh ?_); (case hh => exact condA); conv => whnf) | fail))
  (refine ⟨[], ?_, rfl, rfl, trivial, trivs⟩; simp only [renV, renL]; (first | done | rfl | (simp; done) | (simp; omega) | grind))
set_option maxHeartbeats 4000000 in
theorem flattenR_err (h : As.H) (W H : Int) (ex : Bool) (k : Nat) (d : Nat → Int) (hk : k ≤ 9223372036854775807) (he : ckP W H k d ≠ 0) : CallOk Try.prog 28 [plV W H ex k d] h (.tup [.nils, .nils, .int .i64 (ckP W H k d)]) h := by
  have k1 := fun h' => checkPlateR_ok h' W H ex k d hk
  generalize ckP W H k d = e at *
  refine CallOk.run0 Try.func28 rfl rfl rfl rfl rfl (WpR.of_vc ?_)
  (conv => whnf); (repeat' (first | ((with_reducible refine ifb_mk (fun hc => ?_) (fun hc => ?_)) <;> ((try simp only [decide_eq_true_eq, decide_eq_false_iff_not, Bool.not_eq_true', Bool.not_eq_false', Int.not_lt, Int.not_le, ne_eq, Decidable.not_not, beq_iff_eq, List.cons.injEq, and_true] at hc); (first | (exfalso; omega) | exact absurd True.intro hc | conv => whnf))) | ((with_reducible refine And.intro True.intro ?_); conv => whnf) | ((with_reducible refine CallX.all ?_); refine CallW.of_ok (k1 _) ?_; conv => whnf) | ((with_reducible refine And.intro ?hh ?_); (case hh => exact condA); conv => whnf) | fail))
  all_goals first | (refine ⟨[], ?_, rfl, rfl, trivial, trivs⟩; simp only [renV, renL]; (first | done | rfl | (simp; done) | (simp; omega) | grind)) | exact absurd (by assumption) he
set_option maxHeartbeats 4000000 in
theorem lostR_ok (h : As.H) (W H : Nat) (hW : 1 ≤ W ∧ W ≤ 6) (hH : 1 ≤ H ∧ H ≤ 6) (ex : Bool) (k : Nat) (d : Nat → Int) (hk : k = W * H) (hd : ∀ i, i < k → 0 ≤ d i ∧ d i ≤ 30) :
    CallOk Try.prog 30 [plV W H ex k d] h (.tup [.int .i64 (sm k d - sm k (xF W H d)), .int .i64 0]) h := by
  have hwh := wh_le hW hH
  have g := gr_ok hW hH
  have k1 := fun h' => flattenR_ok h' W H hW hH ex k d hk hd
  have hx : Sml k 1099511627776 (xF W H d) := fun j hj => by
    have h0 := fin_flat g (a := d) (fun j hj => (hd j (by omega)).1) j (by omega)
    have h1 := (fin_mid g (a := d) (fun j hj => (hd j (by omega)).1)).nn j (by omega)
    have e : xF W H d j = (fin (W * H) (adI W H) (wgt W) d).1 j := rfl
    omega
  have hdS : Sml k 1099511627776 d := fun j hj => by have := hd j hj; omega
  have k2 := fun h' => sumRR_ok h' k d ex (by omega) hdS
  have k3 := fun h' => sumRR_ok h' k (xF W H d) false (by omega) hx
  have hr1 := sm_sml hdS k (Nat.le_refl _)
  have hr2 := sm_sml hx k (Nat.le_refl _)
  generalize xF W H d = x at *
  generalize uF W H d = u at *
  refine CallOk.run0 Try.func30 rfl rfl rfl rfl rfl (WpR.of_vc ?_)
  (conv => whnf); (repeat' (first | ((with_reducible refine ifb_mk (fun hc => ?_) (fun hc => ?_)) <;> ((try simp only [decide_eq_true_eq, decide_eq_false_iff_not, Bool.not_eq_true', Bool.not_eq_false', Int.not_lt, Int.not_le, ne_eq, Decidable.not_not, beq_iff_eq, List.cons.injEq, and_true] at hc); (first | (exfalso; omega) | exact absurd True.intro hc | conv => whnf))) | ((with_reducible refine And.intro True.intro ?_); conv => whnf) | ((with_reducible refine CallX.all ?_); refine CallW.of_ok (k1 _) ?_; conv => whnf) | ((with_reducible refine CallX.all ?_); refine CallW.of_ok (k2 _) ?_; conv => whnf) | ((with_reducible refine CallX.all ?_); refine CallW.of_ok (k3 _) ?_; conv => whnf) | ((with_reducible refine And.intro ?hh ?_); (case hh => exact condA); conv => whnf) | fail))
  all_goals first | (refine ⟨[], ?_, rfl, rfl, trivial, trivs⟩; simp only [renV, renL]; (first | done | rfl | (simp; done) | (simp; omega) | grind)) | trace_state
set_option maxHeartbeats 4000000 in
theorem lostR_err (h : As.H) (W H : Int) (ex : Bool) (k : Nat) (d : Nat → Int) (hk : k ≤ 9223372036854775807) (he : ckP W H k d ≠ 0) : CallOk Try.prog 30 [plV W H ex k d] h (.tup [.int .i64 0, .int .i64 (ckP W H k d)]) h := by
  have k1 := fun h' => flattenR_err h' W H ex k d hk he
  generalize ckP W H k d = e at *
  refine CallOk.run0 Try.func30 rfl rfl rfl rfl rfl (WpR.of_vc ?_)
  (conv => whnf); (repeat' (first | ((with_reducible refine ifb_mk (fun hc => ?_) (fun hc => ?_)) <;> ((try simp only [decide_eq_true_eq, decide_eq_false_iff_not, Bool.not_eq_true', Bool.not_eq_false', Int.not_lt, Int.not_le, ne_eq, Decidable.not_not, beq_iff_eq, List.cons.injEq, and_true] at hc); (first | (exfalso; omega) | exact absurd True.intro hc | conv => whnf))) | ((with_reducible refine And.intro True.intro ?_); conv => whnf) | ((with_reducible refine CallX.all ?_); refine CallW.of_ok (k1 _) ?_; conv => whnf) | ((with_reducible refine And.intro ?hh ?_); (case hh => exact condA); conv => whnf) | fail))
  all_goals first | (refine ⟨[], ?_, rfl, rfl, trivial, trivs⟩; simp only [renV, renL]; (first | done | rfl | (simp; done) | (simp; omega) | grind)) | exact absurd (by assumption) he
set_option maxHeartbeats 4000000 in
theorem blowR_ok (h : As.H) (W H : Nat) (hW : 1 ≤ W ∧ W ≤ 6) (hH : 1 ≤ H ∧ H ≤ 6) (ex : Bool) (k : Nat) (d : Nat → Int) (hk : k = W * H) (hd : ∀ i, i < k → 0 ≤ d i ∧ d i ≤ 30) (i : Nat) (hi : i < k) (h3 : 3 < d i) :
    CallOk Try.prog 21 [plV W H ex k d, .int .i64 i] h (.tup [.rsl false 1 k (iG (hitA (adI W H) d i 1)), .int .i64 0]) h := by
  have hwh := wh_le hW hH
  have k1 := fun h' => checkPlateR_ok h' W H ex k d (by omega)
  rw [ckP_v ⟨by omega, by omega⟩ hk hd] at k1
  have k2 := fun h' => hitR_ok h' W H i hW hH (by omega) k hk ex d 1 (fun i hi => by have := hd i hi; omega) (by omega)
  generalize hitA (adI W H) d i 1 = x at *
  refine CallOk.run0 Try.func21 rfl rfl rfl rfl rfl (WpR.of_vc ?_)
  (conv => whnf); (repeat' (first | ((with_reducible refine ifb_mk (fun hc => ?_) (fun hc => ?_)) <;> ((try simp only [decide_eq_true_eq, decide_eq_false_iff_not, Bool.not_eq_true', Bool.not_eq_false', Int.not_lt, Int.not_le, ne_eq, Decidable.not_not, beq_iff_eq, List.cons.injEq, and_true] at hc); (first | (exfalso; omega) | exact absurd True.intro hc | conv => whnf))) | ((with_reducible refine And.intro True.intro ?_); conv => whnf) | ((with_reducible refine CallX.all ?_); refine CallW.of_ok (k1 _) ?_; conv => whnf) | ((with_reducible refine CallX.all ?_); refine CallW.of_ok (k2 _) ?_; conv => whnf) | ((with_reducible refine grd_and ?_); refine And.intro (hi) ?_; conv => whnf) | ((with_reducible refine And.intro ?hh ?_); (case hh => exact condA); conv => whnf) | fail))
  all_goals first | (refine ⟨[], ?_, rfl, rfl, trivial, trivs⟩; simp only [renV, renL]; (first | done | rfl | (simp; done) | (simp; omega) | grind)) | (exfalso; omega)
set_option maxHeartbeats 4000000 in
theorem blowR_bad (h : As.H) (W H : Nat) (hW : 1 ≤ W ∧ W ≤ 6) (hH : 1 ≤ H ∧ H ≤ 6) (ex : Bool) (k : Nat) (d : Nat → Int) (hk : k = W * H) (hd : ∀ i, i < k → 0 ≤ d i ∧ d i ≤ 30) (p e : Int) (hp : (e = 2 ∧ ¬ (0 ≤ p ∧ p < (k : Int))) ∨ (e = 9 ∧ ∃ i : Nat, p = i ∧ i < k ∧ ¬ 3 < d i)) :
    CallOk Try.prog 21 [plV W H ex k d, .int .i64 p] h (.tup [.nils, .int .i64 e]) h := by
  have hwh := wh_le hW hH
  have k1 := fun h' => checkPlateR_ok h' W H ex k d (by omega)
  rw [ckP_v ⟨by omega, by omega⟩ hk hd] at k1
  rcases hp with ⟨rfl, hp⟩ | ⟨rfl, i, rfl, hi, h3⟩
  · refine CallOk.run0 Try.func21 rfl rfl rfl rfl rfl (WpR.of_vc ?_)
    (conv => whnf); (repeat' (first | ((with_reducible refine ifb_mk (fun hc => ?_) (fun hc => ?_)) <;> ((try simp only [decide_eq_true_eq, decide_eq_false_iff_not, Bool.not_eq_true', Bool.not_eq_false', Int.not_lt, Int.not_le, ne_eq, Decidable.not_not, beq_iff_eq, List.cons.injEq, and_true] at hc); (first | (exfalso; omega) | exact absurd True.intro hc | conv => whnf))) | ((with_reducible refine And.intro True.intro ?_); conv => whnf) | ((with_reducible refine CallX.all ?_); refine CallW.of_ok (k1 _) ?_; conv => whnf) | ((with_reducible refine And.intro ?hh ?_); (case hh => exact condA); conv => whnf) | fail))
    all_goals first | (refine ⟨[], ?_, rfl, rfl, trivial, trivs⟩; simp only [renV, renL]; (first | done | rfl | (simp; done) | (simp; omega) | grind)) | (exfalso; omega)
  · refine CallOk.run0 Try.func21 rfl rfl rfl rfl rfl (WpR.of_vc ?_)
    (conv => whnf); (repeat' (first | ((with_reducible refine ifb_mk (fun hc => ?_) (fun hc => ?_)) <;> ((try simp only [decide_eq_true_eq, decide_eq_false_iff_not, Bool.not_eq_true', Bool.not_eq_false', Int.not_lt, Int.not_le, ne_eq, Decidable.not_not, beq_iff_eq, List.cons.injEq, and_true] at hc); (first | (exfalso; omega) | exact absurd True.intro hc | conv => whnf))) | ((with_reducible refine And.intro True.intro ?_); conv => whnf) | ((with_reducible refine CallX.all ?_); refine CallW.of_ok (k1 _) ?_; conv => whnf) | ((with_reducible refine grd_and ?_); refine And.intro (hi) ?_; conv => whnf) | ((with_reducible refine And.intro ?hh ?_); (case hh => exact condA); conv => whnf) | fail))
    all_goals first | (refine ⟨[], ?_, rfl, rfl, trivial, trivs⟩; simp only [renV, renL]; (first | done | rfl | (simp; done) | (simp; omega) | grind)) | (exfalso; omega)
set_option maxHeartbeats 4000000 in
theorem blowR_err (h : As.H) (W H : Int) (ex : Bool) (k : Nat) (d : Nat → Int) (hk : k ≤ 9223372036854775807) (he : ckP W H k d ≠ 0) (p : Int) : CallOk Try.prog 21 [plV W H ex k d, .int .i64 p] h (.tup [.nils, .int .i64 (ckP W H k d)]) h := by
  have k1 := fun h' => checkPlateR_ok h' W H ex k d hk
  generalize ckP W H k d = e at *
  refine CallOk.run0 Try.func21 rfl rfl rfl rfl rfl (WpR.of_vc ?_)
  (conv => whnf); (repeat' (first | ((with_reducible refine ifb_mk (fun hc => ?_) (fun hc => ?_)) <;> ((try simp only [decide_eq_true_eq, decide_eq_false_iff_not, Bool.not_eq_true', Bool.not_eq_false', Int.not_lt, Int.not_le, ne_eq, Decidable.not_not, beq_iff_eq, List.cons.injEq, and_true] at hc); (first | (exfalso; omega) | exact absurd True.intro hc | conv => whnf))) | ((with_reducible refine And.intro True.intro ?_); conv => whnf) | ((with_reducible refine CallX.all ?_); refine CallW.of_ok (k1 _) ?_; conv => whnf) | ((with_reducible refine And.intro ?hh ?_); (case hh => exact condA); conv => whnf) | fail))
  all_goals first | (refine ⟨[], ?_, rfl, rfl, trivial, trivs⟩; simp only [renV, renL]; (first | done | rfl | (simp; done) | (simp; omega) | grind)) | exact absurd (by assumption) he
end Go.Proofs.H

namespace Go.Proofs.H
open Go.As
set_option maxRecDepth 20000
set_option linter.unusedVariables false
set_option linter.unusedSimpArgs false

set_option maxHeartbeats 8000000 in
theorem checkBlowsR_ok (h : As.H) (W H : Nat) (hW : 1 ≤ W ∧ W ≤ 6) (hH : 1 ≤ H ∧ H ≤ 6) (k : Nat) (d : Nat → Int) (hk : k = W * H) (hd : ∀ i, i < k → 0 ≤ d i ∧ d i ≤ 30) (ex2 : Bool) (kb : Nat) (bl : Nat → Int) (hkb : kb = W * H) (hbl : ∀ i, i < kb → 0 ≤ bl i ∧ bl i ≤ 1000000)
    (z : Bool) (hz : z = allF (W * H) fun j => decide (d j - dl (W * H) (adI W H) bl j ≤ 3)) :
    CallOk Try.prog 26 [plV W H false k d, .rsl ex2 1 kb (iG bl)] h (.int .i64 (if z = true then 0 else 22)) h := by
  have hwh := wh_le hW hH
  have hb0 : ∀ i, i < W * H → 0 ≤ bl i ∧ bl i ≤ 1000000 := fun i hi => hbl i (by omega)
  have hd0 : ∀ i, i < W * H → 0 ≤ d i ∧ d i ≤ 30 := fun i hi => hd i (by omega)
  have k1 := fun h' => checkPlateR_ok h' W H false k d (by omega)
  rw [ckP_v ⟨by omega, by omega⟩ hk hd] at k1
  have hrng := fun j hj => hitsQ_rng (W := W) (H := H) (a := d) (E := []) (c := 0) (bl := bl) hb0 hd0 j hj
  have hqa := fun j => hitsQ_a (W := W) (H := H) (a := d) (E := []) (c := 0) (bl := bl) (W * H) (Nat.le_refl _) j
  obtain ⟨Q, hQ⟩ : ∃ Q : Nat → Nat → Int, ∀ j, Q j = (hitsQ W H d [] 0 bl j).1.1 := ⟨fun j => _, fun j => rfl⟩
  have hQ0 : Q 0 = d := by rw [hQ]; rfl
  have hQS : ∀ j, Q (j + 1) = hitA (adI W H) (Q j) j (bl j) := fun j => by rw [hQ, hQ]; rfl
  have hzz : allF k (fun j => decide (Q k j ≤ 3)) = z := by
    rw [hz, hk]
    unfold allF
    refine Bool.eq_iff_iff.2 ⟨fun h => ?_, fun h => ?_⟩
    · refine allF_t fun j hj => ?_
      have := allF_iff.1 h j hj
      rw [hQ, hqa j, dl_congr hj (v := bl) fun i hi => if_pos hi] at this
      exact this
    · refine allF_t fun j hj => ?_
      have := allF_iff.1 h j hj
      rw [hQ, hqa j, dl_congr hj (v := bl) fun i hi => if_pos hi]
      exact this
  have kF := fun h' => isFlatR_ok h' k (Q k) false (by omega)
  rw [hzz] at kF
  have kH := fun (h' : As.H) j (hj : j < k) => hitR_ok h' W H j hW hH (by omega) k hk false (Q j) (bl j) (fun i hi => by have := hrng j (by omega) i (by omega); rw [hQ]; omega) (by have := hbl j (by omega); omega)
  have kH2 : ∀ (h' : As.H) j, j < k → CallOk Try.prog 44 [.int .i64 W, .int .i64 H, .rsl false 1 k (iG (Q j)), .int .i64 j, .int .i64 (bl j)] h' (.rsl false 1 k (iG (Q (j + 1)))) h' := fun h' j hj => by rw [hQS]; exact kH h' j hj
  have hkk : kb = k := by omega
  subst hkk
  clear hrng hqa hzz kH hz hQ hQS
  rw [← hQ0] at *
  have hv := fun (i : Nat) (hi : i < kb) => hbl i hi
  refine CallOk.run0 Try.func26 rfl rfl rfl rfl rfl (WpR.of_vc ?_)
  (conv => whnf); (repeat' (first | ((with_reducible refine ifb_mk (fun hc => ?_) (fun hc => ?_)) <;> ((try simp only [decide_eq_true_eq, decide_eq_false_iff_not, Bool.not_eq_true', Bool.not_eq_false', Int.not_lt, Int.not_le, ne_eq, Decidable.not_not, beq_iff_eq, List.cons.injEq, and_true] at hc); (first | (exfalso; omega) | exact absurd True.intro hc | conv => whnf))) | ((with_reducible refine And.intro True.intro ?_); conv => whnf) | ((with_reducible refine CallX.all ?_); refine CallW.of_ok (k1 _) ?_; conv => whnf) | ((with_reducible refine And.intro ?hh ?_); (case hh => exact condA); conv => whnf) | fail))
  refine WpR.loopA (ι := Nat) [] [1, 2] [] [] 1 (fun i => [(5, .int .i64 i)]) (fun _ => []) (fun i => kb - i) (fun i => i ≤ kb) ?_ (0) (Nat.zero_le _) [] Back.auto
  intro i hi
  refine WpR.of_vc ?_
  by_cases hil : i < kb
  · have hvi := hv i hil
    (conv => whnf); (repeat' (first | ((with_reducible refine ifb_mk (fun hc => ?_) (fun hc => ?_)) <;> ((try simp only [decide_eq_true_eq, decide_eq_false_iff_not, Bool.not_eq_true', Bool.not_eq_false', Int.not_lt, Int.not_le, ne_eq, Decidable.not_not, beq_iff_eq, List.cons.injEq, and_true] at hc); (first | (exfalso; omega) | exact absurd True.intro hc | conv => whnf))) | ((with_reducible refine And.intro True.intro ?_); conv => whnf) | ((with_reducible refine grd_and ?_); refine And.intro (hil) ?_; conv => whnf) | ((with_reducible refine And.intro ?hh ?_); (case hh => exact condA); conv => whnf) | fail))
    all_goals first | (exfalso; omega) | exact ⟨i + 1, [], by omega, by omega, Back.auto⟩
  · (conv => whnf); (repeat' (first | ((with_reducible refine ifb_mk (fun hc => ?_) (fun hc => ?_)) <;> ((try simp only [decide_eq_true_eq, decide_eq_false_iff_not, Bool.not_eq_true', Bool.not_eq_false', Int.not_lt, Int.not_le, ne_eq, Decidable.not_not, beq_iff_eq, List.cons.injEq, and_true] at hc); (first | (exfalso; omega) | exact absurd True.intro hc | conv => whnf))) | ((with_reducible refine And.intro True.intro ?_); conv => whnf) | ((with_reducible refine grd_and ?_); refine And.intro (hil) ?_; conv => whnf) | ((with_reducible refine And.intro ?hh ?_); (case hh => exact condA); conv => whnf) | fail))
    refine WpR.loopA (ι := Nat) [] [1, 2] [] [] 1 (fun j => [(7, .int .i64 j), (6, .rsl false 1 kb (iG (Q j)))]) (fun _ => []) (fun j => kb - j) (fun j => j ≤ kb) ?_ (0) (Nat.zero_le _) [] Back.auto
    intro j hj
    refine WpR.of_vc ?_
    by_cases hjl : j < kb
    · have kHj := fun h' => kH2 h' j hjl
      (conv => whnf); (repeat' (first | ((with_reducible refine ifb_mk (fun hc => ?_) (fun hc => ?_)) <;> ((try simp only [decide_eq_true_eq, decide_eq_false_iff_not, Bool.not_eq_true', Bool.not_eq_false', Int.not_lt, Int.not_le, ne_eq, Decidable.not_not, beq_iff_eq, List.cons.injEq, and_true] at hc); (first | (exfalso; omega) | exact absurd True.intro hc | conv => whnf))) | ((with_reducible refine And.intro True.intro ?_); conv => whnf) | ((with_reducible refine grd_and ?_); refine And.intro (hjl) ?_; conv => whnf) | ((with_reducible refine WpR.drawTail (id := 14) mixed 10 [0, 1, 2, 3, 4, 5, 6, 7, 8, 9] [0, 1, 0, 4, 0, 0, 0, 0, 192, 448] ?hh ?hk ?_); (case hh => kernel_rfl); (case hk => kernel_rfl); conv => whnf) | ((with_reducible refine CallX.all ?_); refine CallW.of_ok (kHj _) ?_; conv => whnf) | ((with_reducible refine And.intro ?hh ?_); (case hh => exact condA); conv => whnf) | fail))
      exact ⟨j + 1, [], by omega, by omega, Back.auto⟩
    · have e : j = kb := by omega
      subst e
      cases z with
      | true =>
        rw [if_pos rfl]
        (conv => whnf); (repeat' (first | ((with_reducible refine ifb_mk (fun hc => ?_) (fun hc => ?_)) <;> ((try simp only [decide_eq_true_eq, decide_eq_false_iff_not, Bool.not_eq_true', Bool.not_eq_false', Int.not_lt, Int.not_le, ne_eq, Decidable.not_not, beq_iff_eq, List.cons.injEq, and_true] at hc); (first | (exfalso; omega) | exact absurd True.intro hc | conv => whnf))) | ((with_reducible refine And.intro True.intro ?_); conv => whnf) | ((with_reducible refine grd_and ?_); refine And.intro (hjl) ?_; conv => whnf) | ((with_reducible refine CallX.all ?_); refine CallW.of_ok (kF _) ?_; conv => whnf) | ((with_reducible refine And.intro ?hh ?_); (case hh => exact condA); conv => whnf) | fail))
        (refine ⟨[], ?_, rfl, rfl, trivial, trivs⟩; simp only [renV, renL]; (first | done | rfl | (simp; done) | (simp; omega) | grind))
      | false =>
        rw [if_neg (by decide)]
        (conv => whnf); (repeat' (first | ((with_reducible refine ifb_mk (fun hc => ?_) (fun hc => ?_)) <;> ((try simp only [decide_eq_true_eq, decide_eq_false_iff_not, Bool.not_eq_true', Bool.not_eq_false', Int.not_lt, Int.not_le, ne_eq, Decidable.not_not, beq_iff_eq, List.cons.injEq, and_true] at hc); (first | (exfalso; omega) | exact absurd True.intro hc | conv => whnf))) | ((with_reducible refine And.intro True.intro ?_); conv => whnf) | ((with_reducible refine grd_and ?_); refine And.intro (hjl) ?_; conv => whnf) | ((with_reducible refine CallX.all ?_); refine CallW.of_ok (kF _) ?_; conv => whnf) | ((with_reducible refine And.intro ?hh ?_); (case hh => exact condA); conv => whnf) | fail))
        (refine ⟨[], ?_, rfl, rfl, trivial, trivs⟩; simp only [renV, renL]; (first | done | rfl | (simp; done) | (simp; omega) | grind))
set_option maxHeartbeats 4000000 in
theorem checkBlowsR_bad (h : As.H) (W H : Nat) (hW : 1 ≤ W ∧ W ≤ 6) (hH : 1 ≤ H ∧ H ≤ 6) (ex : Bool) (k : Nat) (d : Nat → Int) (hk : k = W * H) (hd : ∀ i, i < k → 0 ≤ d i ∧ d i ≤ 30) (ex2 : Bool) (kb : Nat) (bl : Nat → Int) (hkl : kb ≤ 9223372036854775807) (hbad : kb ≠ W * H ∨ wiR 0 1000000 kb bl = false) :
    CallOk Try.prog 26 [plV W H ex k d, .rsl ex2 1 kb (iG bl)] h (.int .i64 (if kb = W * H then 3 else 15)) h := by
  have hwh := wh_le hW hH
  have k1 := fun h' => checkPlateR_ok h' W H ex k d (by omega)
  rw [ckP_v ⟨by omega, by omega⟩ hk hd] at k1
  rw [← hk] at hbad ⊢
  by_cases he : kb = k
  · rw [if_pos he]
    subst he
    have hz : wiR 0 1000000 kb bl = false := by rcases hbad with h | h; exact absurd rfl h; exact h
    unfold wiR at hz
    refine CallOk.run0 Try.func26 rfl rfl rfl rfl rfl (WpR.of_vc ?_)
    (conv => whnf); (repeat' (first | ((with_reducible refine ifb_mk (fun hc => ?_) (fun hc => ?_)) <;> ((try simp only [decide_eq_true_eq, decide_eq_false_iff_not, Bool.not_eq_true', Bool.not_eq_false', Int.not_lt, Int.not_le, ne_eq, Decidable.not_not, beq_iff_eq, List.cons.injEq, and_true] at hc); (first | (exfalso; omega) | exact absurd True.intro hc | conv => whnf))) | ((with_reducible refine And.intro True.intro ?_); conv => whnf) | ((with_reducible refine CallX.all ?_); refine CallW.of_ok (k1 _) ?_; conv => whnf) | ((with_reducible refine And.intro ?hh ?_); (case hh => exact condA); conv => whnf) | fail))
    all_goals try (exfalso; omega)
    refine WpR.loopA (ι := Nat) [] [1, 2] [] [] 1 (fun i => [(5, .int .i64 i)]) (fun _ => []) (fun i => kb - i) (fun i => i ≤ kb ∧ ∀ j, j < i → decide (0 ≤ bl j ∧ bl j ≤ 1000000) = true) ?_ (0) (⟨Nat.zero_le _, fun j hj => by omega⟩) [] Back.auto
    rintro i ⟨hi, hQ⟩
    refine WpR.of_vc ?_
    by_cases hil : i < kb
    · cases ht : decide (0 ≤ bl i ∧ bl i ≤ 1000000) with
      | true =>
        have ht' : 0 ≤ bl i ∧ bl i ≤ 1000000 := of_decide_eq_true ht
        (conv => whnf); (repeat' (first | ((with_reducible refine ifb_mk (fun hc => ?_) (fun hc => ?_)) <;> ((try simp only [decide_eq_true_eq, decide_eq_false_iff_not, Bool.not_eq_true', Bool.not_eq_false', Int.not_lt, Int.not_le, ne_eq, Decidable.not_not, beq_iff_eq, List.cons.injEq, and_true] at hc); (first | (exfalso; omega) | exact absurd True.intro hc | conv => whnf))) | ((with_reducible refine And.intro True.intro ?_); conv => whnf) | ((with_reducible refine grd_and ?_); refine And.intro (hil) ?_; conv => whnf) | ((with_reducible refine And.intro ?hh ?_); (case hh => exact condA); conv => whnf) | fail))
        all_goals first | (exfalso; omega) | exact ⟨i + 1, [], by omega, ⟨by omega, below_succ hQ ht⟩, Back.auto⟩
      | false =>
        have ht' : ¬ (0 ≤ bl i ∧ bl i ≤ 1000000) := of_decide_eq_false ht
        (conv => whnf); (repeat' (first | ((with_reducible refine ifb_mk (fun hc => ?_) (fun hc => ?_)) <;> ((try simp only [decide_eq_true_eq, decide_eq_false_iff_not, Bool.not_eq_true', Bool.not_eq_false', Int.not_lt, Int.not_le, ne_eq, Decidable.not_not, beq_iff_eq, List.cons.injEq, and_true] at hc); (first | (exfalso; omega) | exact absurd True.intro hc | conv => whnf))) | ((with_reducible refine And.intro True.intro ?_); conv => whnf) | ((with_reducible refine grd_and ?_); refine And.intro (hil) ?_; conv => whnf) | ((with_reducible refine And.intro ?hh ?_); (case hh => exact condA); conv => whnf) | fail))
        all_goals first | (refine ⟨[], ?_, rfl, rfl, trivial, trivs⟩; simp only [renV, renL]; (first | done | rfl | (simp; done) | (simp; omega) | grind)) | (exfalso; omega)
    · exfalso
      have := allF_t (n := kb) (p := fun i => decide (0 ≤ bl i ∧ bl i ≤ 1000000)) fun j hj => hQ j (by omega)
      rw [hz] at this
      cases this
  · rw [if_neg he]
    refine CallOk.run0 Try.func26 rfl rfl rfl rfl rfl (WpR.of_vc ?_)
    (conv => whnf); (repeat' (first | ((with_reducible refine ifb_mk (fun hc => ?_) (fun hc => ?_)) <;> ((try simp only [decide_eq_true_eq, decide_eq_false_iff_not, Bool.not_eq_true', Bool.not_eq_false', Int.not_lt, Int.not_le, ne_eq, Decidable.not_not, beq_iff_eq, List.cons.injEq, and_true] at hc); (first | (exfalso; omega) | exact absurd True.intro hc | conv => whnf))) | ((with_reducible refine And.intro True.intro ?_); conv => whnf) | ((with_reducible refine CallX.all ?_); refine CallW.of_ok (k1 _) ?_; conv => whnf) | ((with_reducible refine And.intro ?hh ?_); (case hh => exact condA); conv => whnf) | fail))
    all_goals first | (refine ⟨[], ?_, rfl, rfl, trivial, trivs⟩; simp only [renV, renL]; (first | done | rfl | (simp; done) | (simp; omega) | grind)) | (exfalso; omega)
set_option maxHeartbeats 2000000 in
theorem checkBlowsR_err (h : As.H) (W H : Int) (ex : Bool) (k : Nat) (d : Nat → Int) (hk : k ≤ 9223372036854775807) (he : ckP W H k d ≠ 0) (ex2 : Bool) (kb : Nat) (bl : Nat → Int) : CallOk Try.prog 26 [plV W H ex k d, .rsl ex2 1 kb (iG bl)] h (.int .i64 (ckP W H k d)) h := by
  have k1 := fun h' => checkPlateR_ok h' W H ex k d hk
  generalize ckP W H k d = e at *
  refine CallOk.run0 Try.func26 rfl rfl rfl rfl rfl (WpR.of_vc ?_)
  (conv => whnf); (repeat' (first | ((with_reducible refine ifb_mk (fun hc => ?_) (fun hc => ?_)) <;> ((try simp only [decide_eq_true_eq, decide_eq_false_iff_not, Bool.not_eq_true', Bool.not_eq_false', Int.not_lt, Int.not_le, ne_eq, Decidable.not_not, beq_iff_eq, List.cons.injEq, and_true] at hc); (first | (exfalso; omega) | exact absurd True.intro hc | conv => whnf))) | ((with_reducible refine And.intro True.intro ?_); conv => whnf) | ((with_reducible refine CallX.all ?_); refine CallW.of_ok (k1 _) ?_; conv => whnf) | ((with_reducible refine And.intro ?hh ?_); (case hh => exact condA); conv => whnf) | fail))
  all_goals first | (refine ⟨[], ?_, rfl, rfl, trivial, trivs⟩; simp only [renV, renL]; (first | done | rfl | (simp; done) | (simp; omega) | grind)) | exact absurd (by assumption) he
/-! ### Whether lists are equal -/
def eqB (n : Nat) (a : Nat → Int) (m : Nat) (b : Nat → Int) : Bool := decide (n = m) && allF n fun i => decide (a i = b i)
theorem eqB_t {n m : Nat} {a b : Nat → Int} (h : n = m) (h2 : ∀ i, i < n → a i = b i) : eqB n a m b = true := by unfold eqB; rw [decide_eq_true h, allF_t fun i hi => decide_eq_true (h2 i hi)]; rfl
theorem eqB_of {n m : Nat} {a b : Nat → Int} (h : eqB n a m b = true) : n = m ∧ ∀ i, i < n → a i = b i := by
  unfold eqB at h
  rw [Bool.and_eq_true] at h
  exact ⟨of_decide_eq_true h.1, fun i hi => of_decide_eq_true (allF_iff.1 h.2 i hi)⟩
set_option maxHeartbeats 2000000 in
theorem longs_ok (h : As.H) (e1 e2 : Bool) (n m : Nat) (a b : Nat → Int) (hn : n ≤ 9223372036854775807) (hm : m ≤ 9223372036854775807) : CallOk Try.prog 24 [.rsl e1 1 n (iG a), .rsl e2 1 m (iG b)] h (.bool (eqB n a m b)) h := by
  refine CallOk.run0 Try.func24 rfl rfl rfl rfl rfl (WpR.of_vc ?_)
  by_cases he : n = m
  · subst he
    (conv => whnf); (repeat' (first | ((with_reducible refine ifb_mk (fun hc => ?_) (fun hc => ?_)) <;> ((try simp only [decide_eq_true_eq, decide_eq_false_iff_not, Bool.not_eq_true', Bool.not_eq_false', Int.not_lt, Int.not_le, ne_eq, Decidable.not_not, beq_iff_eq, List.cons.injEq, and_true] at hc); (first | (exfalso; omega) | exact absurd True.intro hc | conv => whnf))) | ((with_reducible refine And.intro True.intro ?_); conv => whnf) | ((with_reducible refine And.intro ?hh ?_); (case hh => exact condA); conv => whnf) | fail))
    all_goals try (exfalso; omega)
    refine WpR.loopA (ι := Nat) [] [0, 1] [] [] 0 (fun i => [(5, .int .i64 i)]) (fun _ => []) (fun i => n - i) (fun i => i ≤ n ∧ ∀ j, j < i → decide (a j = b j) = true) ?_ (0) (⟨Nat.zero_le _, fun j hj => by omega⟩) [] Back.auto
    rintro i ⟨hi, hQ⟩
    refine WpR.of_vc ?_
    by_cases hil : i < n
    · cases ht : decide (a i = b i) with
      | true =>
        have ht' : a i = b i := of_decide_eq_true ht
        (conv => whnf); (repeat' (first | ((with_reducible refine ifb_mk (fun hc => ?_) (fun hc => ?_)) <;> ((try simp only [decide_eq_true_eq, decide_eq_false_iff_not, Bool.not_eq_true', Bool.not_eq_false', Int.not_lt, Int.not_le, ne_eq, Decidable.not_not, beq_iff_eq, List.cons.injEq, and_true] at hc); (first | (exfalso; omega) | exact absurd True.intro hc | conv => whnf))) | ((with_reducible refine And.intro True.intro ?_); conv => whnf) | ((with_reducible refine grd_and ?_); refine And.intro (hil) ?_; conv => whnf) | ((with_reducible refine WpR.draw (id := 6) mixed [0, 1, 2, 3, 4, 5, 6, 7, 8] [0, 0, 3, 7, 0, 0, 48, 112, 255] ?hh ?_); (case hh => kernel_rfl); conv => whnf) | ((with_reducible refine And.intro ?hh ?_); (case hh => exact condA); conv => whnf) | fail))
        all_goals first | (exfalso; omega) | exact ⟨i + 1, [], by omega, ⟨by omega, below_succ hQ ht⟩, Back.auto⟩
      | false =>
        have ht' : ¬ a i = b i := of_decide_eq_false ht
        have e : eqB n a n b = false := by unfold eqB; rw [allF_f (p := fun i => decide (a i = b i)) hil ht, Bool.and_false]
        rw [e]
        (conv => whnf); (repeat' (first | ((with_reducible refine ifb_mk (fun hc => ?_) (fun hc => ?_)) <;> ((try simp only [decide_eq_true_eq, decide_eq_false_iff_not, Bool.not_eq_true', Bool.not_eq_false', Int.not_lt, Int.not_le, ne_eq, Decidable.not_not, beq_iff_eq, List.cons.injEq, and_true] at hc); (first | (exfalso; omega) | exact absurd True.intro hc | conv => whnf))) | ((with_reducible refine And.intro True.intro ?_); conv => whnf) | ((with_reducible refine grd_and ?_); refine And.intro (hil) ?_; conv => whnf) | ((with_reducible refine WpR.draw (id := 6) mixed [0, 1, 2, 3, 4, 5, 6, 7, 8] [0, 0, 3, 7, 0, 0, 48, 112, 255] ?hh ?_); (case hh => kernel_rfl); conv => whnf) | ((with_reducible refine And.intro ?hh ?_); (case hh => exact condA); conv => whnf) | fail))
        all_goals first | (refine ⟨[], ?_, rfl, rfl, trivial, trivs⟩; simp only [renV, renL]; (first | done | rfl | (simp; done) | (simp; omega) | grind)) | (exfalso; omega)
    · rw [eqB_t rfl fun j hj => of_decide_eq_true (hQ j (by omega))]
      (conv => whnf); (repeat' (first | ((with_reducible refine ifb_mk (fun hc => ?_) (fun hc => ?_)) <;> ((try simp only [decide_eq_true_eq, decide_eq_false_iff_not, Bool.not_eq_true', Bool.not_eq_false', Int.not_lt, Int.not_le, ne_eq, Decidable.not_not, beq_iff_eq, List.cons.injEq, and_true] at hc); (first | (exfalso; omega) | exact absurd True.intro hc | conv => whnf))) | ((with_reducible refine And.intro True.intro ?_); conv => whnf) | ((with_reducible refine grd_and ?_); refine And.intro (hil) ?_; conv => whnf) | ((with_reducible refine WpR.draw (id := 6) mixed [0, 1, 2, 3, 4, 5, 6, 7, 8] [0, 0, 3, 7, 0, 0, 48, 112, 255] ?hh ?_); (case hh => kernel_rfl); conv => whnf) | ((with_reducible refine And.intro ?hh ?_); (case hh => exact condA); conv => whnf) | fail))
      (refine ⟨[], ?_, rfl, rfl, trivial, trivs⟩; simp only [renV, renL]; (first | done | rfl | (simp; done) | (simp; omega) | grind))
  · have e : eqB n a m b = false := by unfold eqB; rw [decide_eq_false he]; rfl
    rw [e]
    (conv => whnf); (repeat' (first | ((with_reducible refine ifb_mk (fun hc => ?_) (fun hc => ?_)) <;> ((try simp only [decide_eq_true_eq, decide_eq_false_iff_not, Bool.not_eq_true', Bool.not_eq_false', Int.not_lt, Int.not_le, ne_eq, Decidable.not_not, beq_iff_eq, List.cons.injEq, and_true] at hc); (first | (exfalso; omega) | exact absurd True.intro hc | conv => whnf))) | ((with_reducible refine And.intro True.intro ?_); conv => whnf) | ((with_reducible refine And.intro ?hh ?_); (case hh => exact condA); conv => whnf) | fail))
    all_goals first | (refine ⟨[], ?_, rfl, rfl, trivial, trivs⟩; simp only [renV, renL]; (first | done | rfl | (simp; done) | (simp; omega) | grind)) | (exfalso; omega)
set_option maxHeartbeats 2000000 in
theorem ints_ok (h : As.H) (e1 e2 : Bool) (n m : Nat) (a b : Nat → Int) (hn : n ≤ 9223372036854775807) (hm : m ≤ 9223372036854775807) : CallOk Try.prog 35 [.rsl e1 1 n (iG a), .rsl e2 1 m (iG b)] h (.bool (eqB n a m b)) h := by
  refine CallOk.run0 Try.func35 rfl rfl rfl rfl rfl (WpR.of_vc ?_)
  by_cases he : n = m
  · subst he
    (conv => whnf); (repeat' (first | ((with_reducible refine ifb_mk (fun hc => ?_) (fun hc => ?_)) <;> ((try simp only [decide_eq_true_eq, decide_eq_false_iff_not, Bool.not_eq_true', Bool.not_eq_false', Int.not_lt, Int.not_le, ne_eq, Decidable.not_not, beq_iff_eq, List.cons.injEq, and_true] at hc); (first | (exfalso; omega) | exact absurd True.intro hc | conv => whnf))) | ((with_reducible refine And.intro True.intro ?_); conv => whnf) | ((with_reducible refine And.intro ?hh ?_); (case hh => exact condA); conv => whnf) | fail))
    all_goals try (exfalso; omega)
    refine WpR.loopA (ι := Nat) [] [0, 1] [] [] 0 (fun i => [(5, .int .i64 i)]) (fun _ => []) (fun i => n - i) (fun i => i ≤ n ∧ ∀ j, j < i → decide (a j = b j) = true) ?_ (0) (⟨Nat.zero_le _, fun j hj => by omega⟩) [] Back.auto
    rintro i ⟨hi, hQ⟩
    refine WpR.of_vc ?_
    by_cases hil : i < n
    · cases ht : decide (a i = b i) with
      | true =>
        have ht' : a i = b i := of_decide_eq_true ht
        (conv => whnf); (repeat' (first | ((with_reducible refine ifb_mk (fun hc => ?_) (fun hc => ?_)) <;> ((try simp only [decide_eq_true_eq, decide_eq_false_iff_not, Bool.not_eq_true', Bool.not_eq_false', Int.not_lt, Int.not_le, ne_eq, Decidable.not_not, beq_iff_eq, List.cons.injEq, and_true] at hc); (first | (exfalso; omega) | exact absurd True.intro hc | conv => whnf))) | ((with_reducible refine And.intro True.intro ?_); conv => whnf) | ((with_reducible refine grd_and ?_); refine And.intro (hil) ?_; conv => whnf) | ((with_reducible refine WpR.draw (id := 6) mixed [0, 1, 2, 3, 4, 5, 6, 7, 8] [0, 0, 3, 7, 0, 0, 48, 112, 255] ?hh ?_); (case hh => kernel_rfl); conv => whnf) | ((with_reducible refine And.intro ?hh ?_); (case hh => exact condA); conv => whnf) | fail))
        all_goals first | (exfalso; omega) | exact ⟨i + 1, [], by omega, ⟨by omega, below_succ hQ ht⟩, Back.auto⟩
      | false =>
        have ht' : ¬ a i = b i := of_decide_eq_false ht
        have e : eqB n a n b = false := by unfold eqB; rw [allF_f (p := fun i => decide (a i = b i)) hil ht, Bool.and_false]
        rw [e]
        (conv => whnf); (repeat' (first | ((with_reducible refine ifb_mk (fun hc => ?_) (fun hc => ?_)) <;> ((try simp only [decide_eq_true_eq, decide_eq_false_iff_not, Bool.not_eq_true', Bool.not_eq_false', Int.not_lt, Int.not_le, ne_eq, Decidable.not_not, beq_iff_eq, List.cons.injEq, and_true] at hc); (first | (exfalso; omega) | exact absurd True.intro hc | conv => whnf))) | ((with_reducible refine And.intro True.intro ?_); conv => whnf) | ((with_reducible refine grd_and ?_); refine And.intro (hil) ?_; conv => whnf) | ((with_reducible refine WpR.draw (id := 6) mixed [0, 1, 2, 3, 4, 5, 6, 7, 8] [0, 0, 3, 7, 0, 0, 48, 112, 255] ?hh ?_); (case hh => kernel_rfl); conv => whnf) | ((with_reducible refine And.intro ?hh ?_); (case hh => exact condA); conv => whnf) | fail))
        all_goals first | (refine ⟨[], ?_, rfl, rfl, trivial, trivs⟩; simp only [renV, renL]; (first | done | rfl | (simp; done) | (simp; omega) | grind)) | (exfalso; omega)
    · rw [eqB_t rfl fun j hj => of_decide_eq_true (hQ j (by omega))]
      (conv => whnf); (repeat' (first | ((with_reducible refine ifb_mk (fun hc => ?_) (fun hc => ?_)) <;> ((try simp only [decide_eq_true_eq, decide_eq_false_iff_not, Bool.not_eq_true', Bool.not_eq_false', Int.not_lt, Int.not_le, ne_eq, Decidable.not_not, beq_iff_eq, List.cons.injEq, and_true] at hc); (first | (exfalso; omega) | exact absurd True.intro hc | conv => whnf))) | ((with_reducible refine And.intro True.intro ?_); conv => whnf) | ((with_reducible refine grd_and ?_); refine And.intro (hil) ?_; conv => whnf) | ((with_reducible refine WpR.draw (id := 6) mixed [0, 1, 2, 3, 4, 5, 6, 7, 8] [0, 0, 3, 7, 0, 0, 48, 112, 255] ?hh ?_); (case hh => kernel_rfl); conv => whnf) | ((with_reducible refine And.intro ?hh ?_); (case hh => exact condA); conv => whnf) | fail))
      (refine ⟨[], ?_, rfl, rfl, trivial, trivs⟩; simp only [renV, renL]; (first | done | rfl | (simp; done) | (simp; omega) | grind))
  · have e : eqB n a m b = false := by unfold eqB; rw [decide_eq_false he]; rfl
    rw [e]
    (conv => whnf); (repeat' (first | ((with_reducible refine ifb_mk (fun hc => ?_) (fun hc => ?_)) <;> ((try simp only [decide_eq_true_eq, decide_eq_false_iff_not, Bool.not_eq_true', Bool.not_eq_false', Int.not_lt, Int.not_le, ne_eq, Decidable.not_not, beq_iff_eq, List.cons.injEq, and_true] at hc); (first | (exfalso; omega) | exact absurd True.intro hc | conv => whnf))) | ((with_reducible refine And.intro True.intro ?_); conv => whnf) | ((with_reducible refine And.intro ?hh ?_); (case hh => exact condA); conv => whnf) | fail))
    all_goals first | (refine ⟨[], ?_, rfl, rfl, trivial, trivs⟩; simp only [renV, renL]; (first | done | rfl | (simp; done) | (simp; omega) | grind)) | (exfalso; omega)
theorem great_ok (h : As.H) (W H : Int) (ex : Bool) (k : Nat) (d : Nat → Int) (hk : k ≤ 9223372036854775807) : CallOk Try.prog 18 [plV W H ex k d] h (.bool (decide (50 < k))) h := by
  refine CallOk.run0 Try.func18 rfl rfl rfl rfl rfl (WpR.of_vc ?_)
  by_cases hc : 50 < k
  · rw [decide_eq_true hc]
    (conv => whnf); (repeat' (first | ((with_reducible refine ifb_mk (fun hc => ?_) (fun hc => ?_)) <;> ((try simp only [decide_eq_true_eq, decide_eq_false_iff_not, Bool.not_eq_true', Bool.not_eq_false', Int.not_lt, Int.not_le, ne_eq, Decidable.not_not, beq_iff_eq, List.cons.injEq, and_true] at hc); (first | (exfalso; omega) | exact absurd True.intro hc | conv => whnf))) | ((with_reducible refine And.intro True.intro ?_); conv => whnf) | ((with_reducible refine And.intro ?hh ?_); (case hh => exact condA); conv => whnf) | fail))
    all_goals first | (refine ⟨[], ?_, rfl, rfl, trivial, trivs⟩; simp only [renV, renL]; (first | done | rfl | (simp; done) | (simp; omega) | grind)) | (exfalso; omega) | (refine ⟨[], ?_, rfl, rfl, trivial, trivs⟩; simp only [renV]; rw [decide_eq_true (by omega)])
  · rw [decide_eq_false hc]
    (conv => whnf); (repeat' (first | ((with_reducible refine ifb_mk (fun hc => ?_) (fun hc => ?_)) <;> ((try simp only [decide_eq_true_eq, decide_eq_false_iff_not, Bool.not_eq_true', Bool.not_eq_false', Int.not_lt, Int.not_le, ne_eq, Decidable.not_not, beq_iff_eq, List.cons.injEq, and_true] at hc); (first | (exfalso; omega) | exact absurd True.intro hc | conv => whnf))) | ((with_reducible refine And.intro True.intro ?_); conv => whnf) | ((with_reducible refine And.intro ?hh ?_); (case hh => exact condA); conv => whnf) | fail))
    all_goals first | (refine ⟨[], ?_, rfl, rfl, trivial, trivs⟩; simp only [renV, renL]; (first | done | rfl | (simp; done) | (simp; omega) | grind)) | (exfalso; omega) | (refine ⟨[], ?_, rfl, rfl, trivial, trivs⟩; simp only [renV]; rw [decide_eq_false (by omega)])
end Go.Proofs.H
