/- What the functions answer that the laws call, one after another (Nb). -/
import Derived.Test.YtgopneibaajgbaaAs6
import Derived.Test.YtgopneibaajgbaaNa
import Derived.Test.YtgopneibaajgbaaB4

set_option linter.unusedVariables false
namespace Go.Proofs.H
open Go.As
set_option maxRecDepth 20000
set_option linter.unusedVariables false
set_option linter.unusedSimpArgs false

theorem nums_eql {a b : Nat → Int} {x y : Operand} : slow Try.prog .eql 81 x y (.agg (aV a)) (.agg (aV b)) = some (.bool (decide (L36 a = L36 b))) := by
  rw [aV_map, aV_map, slow_eql (k := 36) (by kernel_rfl) (L36 a) (L36 b) (by simp [L36]) (by simp [L36])]
set_option maxHeartbeats 16000000 in
theorem makeN_w (W H : Nat) (hW : 1 ≤ W ∧ W ≤ 6) (hH : 1 ≤ H ∧ H ≤ 6) :
    CallW Try.prog [] 73 [.ptr 0 0] (hp [BB W H .nils z0 z0 1, .map (encM []) 0])
      (LowK (.tup []) [BB W H .nils (neS W H).1 (neS W H).2.1 1, .map (encM []) (neS W H).2.2]) := by
  refine CallW.inline (f := 73) Try.func73 rfl rfl (Nat.le_of_ble_eq_true rfl) (WpR.of_vc ?_)
  have hwh := wh_le hW hH
  obtain ⟨Bs, hBs⟩ : ∃ Bs : (Nat → Int) → (Nat → Int) → Tr V, ∀ a u, Bs a u = BC W H .nils a u 1 := ⟨fun a u => _, fun a u => rfl⟩
  have hstart : BB W H .nils z0 z0 1 = .cells (Bs z0 z0) true none := by rw [hBs]; rfl
  have hfin : ∀ s : S3, SubQ id (BB W H .nils s.1 s.2.1 1) (.cells (Bs s.1 s.2.1) true none) := fun s => by rw [hBs]; exact bb_sub id rfl
  rw [hstart]
  have hlt : ∀ n a u, 1 < n → ltB n (.cells (Bs a u) true none) := fun n a u hn => by rw [hBs]; exact bb_lt rfl hn
  have hg0 : ∀ a u, (Bs a u).get 0 = some (.int .i64 W) := fun a u => by rw [hBs]; exact bc_0
  have hg1 : ∀ a u, (Bs a u).get 1 = some (.int .i64 H) := fun a u => by rw [hBs]; exact bc_1
  have hga : ∀ a u, getN (Bs a u) 36 3 = some (aV a) := fun a u => by rw [hBs]; exact bc_ga
  have kZ := fun (h' : As.H) a u (hs : h'.get 0 = some (.cells (Bs a u) true none)) => size_ok h' 0 W H hW hH hs (hg0 a u) (hg1 a u)
  have kA := fun (h' : As.H) i a u (hs : h'.get 0 = some (.cells (Bs a u) true none)) hi => spotAt_ok h' 0 W H i hW hs (hg0 a u) (hg1 a u) hi
  have kH : ∀ (s : S3) (v : Nat → Int), Rd W H s v → ∀ j, j < W * H → ∀ h' : As.H, h'.get 0 = some (.cells (Bs (hA W H s.1 j) (hU s.2.1 j)) true none) → h'.get 1 = some (.map (encM (hM W H s.1 [] s.2.2 j).1) (hM W H s.1 [] s.2.2 j).2) →
      CallOk Try.prog 57 [.ptr 0 0, spV (j % W : Nat) (j / W : Nat), .int .i64 (-1)] h' (.tup []) ((h'.put 0 (.cells (Bs (hA W H s.1 (j + 1)) (hU s.2.1 (j + 1))) true none)).put 1 (.map (encM (hM W H s.1 [] s.2.2 (j + 1)).1) (hM W H s.1 [] s.2.2 (j + 1)).2)) := fun s v r j hj h' hs he => by
    have hsum := r.nv.sum hW hH rfl
    have hv : ∀ k, k < W * H → 0 ≤ v k ∧ v k ≤ 1296 := fun k hk => ⟨r.nv.vn k hk, by have := sm_ge r.nv.vn hk; omega⟩
    have := hit_ok h' 0 1 W H j hW hH hj .nils rfl (hA W H s.1 j) (hU s.2.1 j) (hM W H s.1 [] s.2.2 j).1 (hM W H s.1 [] s.2.2 j).2 (-1) (by omega) (fun k hk => by have := hA_rng hW hH rfl r.nv.fl (j := j) (by omega) hk; omega) (fun k hk => by rw [hU_at, r.bl k hk]; have := hv k hk; split <;> omega) hs (fun k => by rw [hBs]) he
    rw [hBs]
    exact this
  have kF : ∀ (s : S3) (v : Nat → Int), Rd W H s v → ∀ h' : As.H, h'.get 0 = some (.cells (Bs (hA W H s.1 (W * H)) (hU s.2.1 (W * H))) true none) → h'.get 1 = some (.map (encM (hM W H s.1 [] s.2.2 (W * H)).1) (hM W H s.1 [] s.2.2 (W * H)).2) →
      CallOk Try.prog 65 [.ptr 0 0] h' (.tup []) ((h'.put 0 (.cells (Bs (rnd W H s).1 (rnd W H s).2.1) true none)).put 1 (.map (encM []) (rnd W H s).2.2)) := fun s v r h' hs he => by
    have hsum := r.nv.sum hW hH rfl
    have hv : ∀ k, k < W * H → 0 ≤ v k ∧ v k ≤ 1296 := fun k hk => ⟨r.nv.vn k hk, by have := sm_ge r.nv.vn hk; omega⟩
    have ha : ∀ k, k < W * H → hA W H s.1 (W * H) k = s.1 k + dl (W * H) (adI W H) (fun _ => 1) k := fun k hk => by
      rw [hA_at hk _ (Nat.le_refl _)]
      rw [dl_congr hk (v := fun _ => 1) fun q hq => if_pos hq]
    have h5 := (r.nv.step hW hH rfl ha).2.2.2.2
    have hm := hM_ok hW hH s.2.2 (MapOk.start (W := W) (n := W * H) (a := s.1) fun k hk => (r.nv.fl k hk).2) (W * H) (Nat.le_refl _)
    have := hammer_ok h' 0 1 W H hW hH .nils rfl (hA W H s.1 (W * H)) (hU s.2.1 (W * H)) (hM W H s.1 [] s.2.2 (W * H)).1 (hM W H s.1 [] s.2.2 (W * H)).2 hm (fun k hk => (h5 k hk).1) (fun k hk => by have := h5 k hk; omega) (fun k hk => by rw [hU_at, r.bl k hk]; have := hv k hk; split <;> omega) hs (fun k => by rw [hBs]) he
    rw [hBs]
    exact this
  have hst := fun (s : S3) (v : Nat → Int) (r : Rd W H s v) => r.step hW hH
  have hrd := rd_0 W H
  have hsm := fun (s : S3) (v : Nat → Int) (r : Rd W H s v) => r.nv.sum hW hH rfl
  have hF : neS W H = itN W H 1297 (z0, z0, 0) := rfl
  have hiS : ∀ m s, itN W H (m + 1) s = if L36 (rnd W H s).1 = L36 s.1 then rnd W H s else itN W H m (rnd W H s) := fun m s => rfl
  have hi0 : ∀ s, itN W H 0 s = s := fun s => rfl
  have hA0 : ∀ c, hA W H c 0 = c := fun c => rfl
  have hU0 : ∀ u, hU u 0 = u := fun u => rfl
  have hM0 : ∀ c cl, hM W H c [] cl 0 = ([], cl) := fun c cl => rfl
  have hz0 : sm (W * H) (fun _ => 0) = 0 := sm_0 _
  generalize neS W H = F at *
  generalize itN W H = it at *
  generalize rnd W H = rn at *
  generalize hA W H = HA at *
  generalize hM W H = HM at *
  generalize hU = HU at *
  generalize W * H = n at *
  have hMap : ∀ a u, ltB 3 (.cells (Bs a u) true none) := fun a u => hlt 3 a u (by omega)
  have hMapB : ∀ a u, ltB 1000 (.cells (Bs a u) true none) := fun a u => hlt 1000 a u (by omega)
  have hMapC : ∀ n c, ltB n (.map (encM []) c) := fun n c => encM_lt
  have hMapD : ∀ n (q : List En × Nat), ltB n (.map (encM q.1) q.2) := fun n q => encM_lt
  (conv => whnf); (repeat' (first | ((with_reducible refine ifb_mk (fun hc => ?_) (fun hc => ?_)) <;> ((try simp only [decide_eq_true_eq, decide_eq_false_iff_not, Bool.not_eq_true', Bool.not_eq_false', Int.not_lt, Int.not_le, ne_eq, Decidable.not_not, beq_iff_eq, List.cons.injEq, and_true] at hc); (first | (exfalso; omega) | exact absurd True.intro hc | conv => whnf))) | ((with_reducible refine And.intro True.intro ?_); conv => whnf) | ((with_reducible refine And.intro ?hh ?_); (case hh => exact condA); conv => whnf) | fail))
  refine WpR.loopGA 1 (ι := S3 × Nat) [] [1] [0, 1] [] 3 (fun _ => []) (fun p => [(0, .cells (Bs p.1.1 p.1.2.1) true none), (1, .map (encM []) p.1.2.2)]) (fun p => p.2) (fun p => (∃ v, Rd W H p.1 v ∧ 1296 - sm n v < p.2) ∧ it p.2 p.1 = F) ?_ (((z0, z0, 0), 1297)) (⟨⟨_, hrd, by rw [hz0]; decide⟩, hF.symm⟩) [] Back.auto
  rintro ⟨s, m⟩ ⟨⟨v, hr, hm⟩, hit⟩
  dsimp only at hr hm hit
  refine WpR.of_vc ?_
  have kHs := kH s v hr
  have kFs := kF s v hr
  have hst := hst s v hr
  clear kH kF
  (conv => whnf); (repeat' (first | ((with_reducible refine ifb_mk (fun hc => ?_) (fun hc => ?_)) <;> ((try simp only [decide_eq_true_eq, decide_eq_false_iff_not, Bool.not_eq_true', Bool.not_eq_false', Int.not_lt, Int.not_le, ne_eq, Decidable.not_not, beq_iff_eq, List.cons.injEq, and_true] at hc); (first | (exfalso; omega) | exact absurd True.intro hc | conv => whnf))) | ((with_reducible refine And.intro True.intro ?_); conv => whnf) | ((with_reducible refine CallX.all (f := 61) ?_); refine CallW.inline Try.func61 rfl rfl (Nat.le_of_ble_eq_true rfl) (WpR.of_vc ?_); conv => whnf) | ((with_reducible refine grd_getN ?_); refine som_mk (a := ?_) ?hh ?_; (case hh => exact hga _ _); conv => whnf) | ((with_reducible refine RangeX.all ?_); conv => whnf) | ((with_reducible refine CallX.all ?_); refine CallW.of_ok (kZ _ _ _ rfl) ?_; conv => whnf) | ((with_reducible refine CallW.inline (f := 78) Try.func78 rfl rfl (Nat.le_of_ble_eq_true rfl) (WpR.of_vc ?_)); conv => whnf) | ((with_reducible refine And.intro ?hh ?_); (case hh => exact condA); conv => whnf) | fail))
  have hMap3 : ∀ a u, ltB 7 (.cells (Bs a u) true none) := fun a u => hlt 7 a u (by omega)
  have hMap := hMap3
  have hb0 : SubQ (rho []) (.cells (Bs (HA s.1 0) (HU s.2.1 0)) true none) (.cells (Bs s.1 s.2.1) true none) := by rw [hA0, hU0]; exact SubQ.same (n := 1000) (Y := []) (fun _ _ _ => rfl) (hMapB _ _) (avB_nil _) rfl
  have hb1 : SubQ (rho []) (.map (encM (HM s.1 [] s.2.2 0).1) (HM s.1 [] s.2.2 0).2) (.map (encM []) s.2.2) := by rw [hM0]; exact encM_sub
  refine WpR.loopA (ι := Nat) [] [0, 1, 5] [0, 1] [] 7 (fun k => [(6, .int .i64 k)]) (fun k => [(0, .cells (Bs (HA s.1 k) (HU s.2.1 k)) true none), (1, .map (encM (HM s.1 [] s.2.2 k).1) (HM s.1 [] s.2.2 k).2)]) (fun k => n - k) (fun k => k ≤ n) ?_ (0) (Nat.zero_le _) [] ⟨rfl, rfl, (by (repeat' (first | exact True.intro | rfl | exact gr_ren rfl | exact aV_ren rfl | exact aW_ren rfl rfl | refine And.intro ?_ ?_))), (by (repeat' (first | exact True.intro | rfl | exact gr_ren rfl | exact aV_ren rfl | exact aW_ren rfl rfl | refine And.intro ?_ ?_))), (by (repeat' (first | exact True.intro | rfl | exact gr_ren rfl | exact aV_ren rfl | exact aW_ren rfl rfl | refine And.intro ?_ ?_))), ⟨.inr ⟨_, rfl, hb0⟩, .inr ⟨_, rfl, hb1⟩, trivial⟩, rfl, rfl⟩
  intro k hk
  refine WpR.of_vc ?_
  by_cases hkl : k < n
  · have kAk := fun h' hs => kA h' k (HA s.1 k) (HU s.2.1 k) hs (by omega)
    have kHk := kHs k hkl
    (conv => whnf); (repeat' (first | ((with_reducible refine ifb_mk (fun hc => ?_) (fun hc => ?_)) <;> ((try simp only [decide_eq_true_eq, decide_eq_false_iff_not, Bool.not_eq_true', Bool.not_eq_false', Int.not_lt, Int.not_le, ne_eq, Decidable.not_not, beq_iff_eq, List.cons.injEq, and_true] at hc); (first | (exfalso; omega) | exact absurd True.intro hc | conv => whnf))) | ((with_reducible refine And.intro True.intro ?_); conv => whnf) | ((with_reducible refine grd_and ?_); refine And.intro (hkl) ?_; conv => whnf) | ((with_reducible refine CallX.all ?_); refine CallW.of_ok (kAk _ rfl) ?_; conv => whnf) | ((with_reducible refine And.intro ?hh ?_); (case hh => exact condA); conv => whnf) | fail))
    refine YldX.all ?_
    refine YldW.inline rfl rfl rfl (WpR.of_vc ?_)
    conv => whnf
    refine ⟨rfl, _, rfl, rfl, WpR.of_vc ?_⟩
    (conv => whnf); (repeat' (first | ((with_reducible refine ifb_mk (fun hc => ?_) (fun hc => ?_)) <;> ((try simp only [decide_eq_true_eq, decide_eq_false_iff_not, Bool.not_eq_true', Bool.not_eq_false', Int.not_lt, Int.not_le, ne_eq, Decidable.not_not, beq_iff_eq, List.cons.injEq, and_true] at hc); (first | (exfalso; omega) | exact absurd True.intro hc | conv => whnf))) | ((with_reducible refine And.intro True.intro ?_); conv => whnf) | ((with_reducible refine grd_and ?_); refine And.intro (hkl) ?_; conv => whnf) | ((with_reducible refine CallX.all ?_); refine CallW.of_ok (kHk _ rfl rfl) ?_; conv => whnf) | ((with_reducible refine And.intro ?hh ?_); (case hh => exact condA); conv => whnf) | fail))
    refine ⟨_, _, rfl, ?_⟩
    (conv => whnf); (repeat' (first | ((with_reducible refine ifb_mk (fun hc => ?_) (fun hc => ?_)) <;> ((try simp only [decide_eq_true_eq, decide_eq_false_iff_not, Bool.not_eq_true', Bool.not_eq_false', Int.not_lt, Int.not_le, ne_eq, Decidable.not_not, beq_iff_eq, List.cons.injEq, and_true] at hc); (first | (exfalso; omega) | exact absurd True.intro hc | conv => whnf))) | ((with_reducible refine And.intro True.intro ?_); conv => whnf) | ((with_reducible refine And.intro ?hh ?_); (case hh => exact condA); conv => whnf) | fail))
    exact ⟨k + 1, [], by omega, by omega, Back.auto⟩
  · have e : k = n := by omega
    subst e
    obtain ⟨v', r1, r2, r3⟩ := hst
    cases m with
    | zero => have := (hsm s v hr).2; exfalso; omega
    | succ m =>
    rw [hiS] at hit
    by_cases he : L36 (rn s).1 = L36 s.1
    · rw [if_pos he] at hit
      have e1 := fun x y => (nums_eql (a := (rn s).1) (b := s.1) (x := x) (y := y)).trans (by rw [decide_eq_true he])
      (conv => whnf); (repeat' (first | ((with_reducible refine ifb_mk (fun hc => ?_) (fun hc => ?_)) <;> ((try simp only [decide_eq_true_eq, decide_eq_false_iff_not, Bool.not_eq_true', Bool.not_eq_false', Int.not_lt, Int.not_le, ne_eq, Decidable.not_not, beq_iff_eq, List.cons.injEq, and_true] at hc); (first | (exfalso; omega) | exact absurd True.intro hc | conv => whnf))) | ((with_reducible refine And.intro True.intro ?_); conv => whnf) | ((with_reducible refine grd_and ?_); refine And.intro (hkl) ?_; conv => whnf) | ((with_reducible refine CallX.all ?_); refine CallW.of_ok (kFs _ rfl rfl) ?_; conv => whnf) | ((with_reducible refine grd_getN ?_); refine som_mk (a := ?_) ?hh ?_; (case hh => exact hga _ _); conv => whnf) | ((with_reducible refine grd_slow ?_); refine som_mk (a := ?_) ?hh ?_; (case hh => exact e1 _ _); conv => whnf) | ((with_reducible refine WpR.draw (id := 6) mixed [0, 1, 2, 3, 4, 5] [0, 1, 3, 7, 0, 31] ?hh ?_); (case hh => kernel_rfl); conv => whnf) | ((with_reducible refine And.intro ?hh ?_); (case hh => exact condA); conv => whnf) | fail))
      rw [← hit]
      exact ⟨rfl, ⟨_, rfl, hfin _⟩, ⟨_, rfl, encM_sub⟩, trivial⟩
    · rw [if_neg he] at hit
      have hlt2 := r3 he
      have e1 := fun x y => (nums_eql (a := (rn s).1) (b := s.1) (x := x) (y := y)).trans (by rw [decide_eq_false he])
      (conv => whnf); (repeat' (first | ((with_reducible refine ifb_mk (fun hc => ?_) (fun hc => ?_)) <;> ((try simp only [decide_eq_true_eq, decide_eq_false_iff_not, Bool.not_eq_true', Bool.not_eq_false', Int.not_lt, Int.not_le, ne_eq, Decidable.not_not, beq_iff_eq, List.cons.injEq, and_true] at hc); (first | (exfalso; omega) | exact absurd True.intro hc | conv => whnf))) | ((with_reducible refine And.intro True.intro ?_); conv => whnf) | ((with_reducible refine grd_and ?_); refine And.intro (hkl) ?_; conv => whnf) | ((with_reducible refine CallX.all ?_); refine CallW.of_ok (kFs _ rfl rfl) ?_; conv => whnf) | ((with_reducible refine grd_getN ?_); refine som_mk (a := ?_) ?hh ?_; (case hh => exact hga _ _); conv => whnf) | ((with_reducible refine grd_slow ?_); refine som_mk (a := ?_) ?hh ?_; (case hh => exact e1 _ _); conv => whnf) | ((with_reducible refine WpR.draw (id := 6) mixed [0, 1, 2, 3, 4, 5] [0, 1, 3, 7, 0, 31] ?hh ?_); (case hh => kernel_rfl); conv => whnf) | ((with_reducible refine And.intro ?hh ?_); (case hh => exact condA); conv => whnf) | fail))
      exact ⟨(rn s, m), [], by dsimp only; omega, ⟨⟨v', r1, by dsimp only; omega⟩, hit⟩, Back.auto⟩
theorem makeN_ok (h : As.H) (s mb W H : Nat) (hW : 1 ≤ W ∧ W ≤ 6) (hH : 1 ≤ H ∧ H ≤ 6)
    {cs : Tr V} (hs : h.get s = some (.cells cs true none)) (hcs : ∀ k, cs.get k = (BC W H .nils z0 z0 mb).get k) (he : h.get mb = some (.map (encM []) 0)) :
    CallOk Try.prog 73 [.ptr s 0] h (.tup []) ((h.put s (BB W H .nils (neS W H).1 (neS W H).2.1 mb)).put mb (.map (encM []) (neS W H).2.2)) :=
  blk_call hs hcs he rfl (argsC := [.ptr 0 0]) rfl rfl rfl (makeN_w W H hW hH)
end Go.Proofs.H

namespace Go.Proofs.H
open Go.As
set_option maxRecDepth 20000
set_option linter.unusedVariables false
set_option linter.unusedSimpArgs false

set_option maxHeartbeats 8000000 in
theorem neutral_ok (h : As.H) (W H : Nat) (hW : 1 ≤ W ∧ W ≤ 6) (hH : 1 ≤ H ∧ H ≤ 6) :
    CallOk Try.prog 38 [.int .i64 W, .int .i64 H] h (.tup [.rsl true 1 (W * H) (iG (neF W H)), .int .i64 0]) h := by
  have k1 := fun h' sv hs => within2_ok h' 1 6 (W : Int) H sv hs
  rw [decide_eq_true (by omega)] at k1
  have kN := fun (h' : As.H) (cs : Tr V) (hs : h'.get 2 = some (.cells cs true none)) (hcs : ∀ k, cs.get k = (BC W H .nils z0 z0 1).get k) (he : h'.get 1 = some (.map (encM []) 0)) => makeN_ok h' 2 1 W H hW hH hs hcs he
  have hne : (neS W H).1 = neF W H := rfl
  rw [hne] at kN
  generalize neF W H = c at *
  generalize (neS W H).2.1 = u at *
  generalize (neS W H).2.2 = cl at *
  unfold BB at kN
  obtain ⟨B2, hB2⟩ : ∃ B2, BC (W : Int) H .nils c u 1 = B2 := ⟨_, rfl⟩
  have g0 : B2.get 0 = some (.int .i64 W) := by rw [← hB2]; exact bc_0
  have g1 : B2.get 1 = some (.int .i64 H) := by rw [← hB2]; exact bc_1
  have ga : getN B2 36 3 = some (aV c) := by rw [← hB2]; exact bc_ga
  rw [hB2] at kN
  have kL := fun (h' : As.H) (hs : h'.get 2 = some (.cells B2 true none)) => list_ok h' 2 W H hW hH c hs g0 g1
  refine CallOk.run0 Try.func38 rfl rfl rfl rfl rfl (WpR.of_vc ?_)
  (conv => whnf); (repeat' (first | ((with_reducible refine ifb_mk (fun hc => ?_) (fun hc => ?_)) <;> ((try simp only [decide_eq_true_eq, decide_eq_false_iff_not, Bool.not_eq_true', Bool.not_eq_false', Int.not_lt, Int.not_le, ne_eq, Decidable.not_not, beq_iff_eq, List.cons.injEq, and_true] at hc); (first | (exfalso; omega) | exact absurd True.intro hc | conv => whnf))) | ((with_reducible refine And.intro True.intro ?_); conv => whnf) | ((with_reducible refine CallX.all ?_); refine CallW.of_ok (k1 _ _ (SlC.own rfl)) ?_; conv => whnf) | ((with_reducible refine CallX.all (f := 72) ?_); refine CallW.inline Try.func72 rfl rfl (Nat.le_of_ble_eq_true rfl) (WpR.of_vc ?_); conv => whnf) | ((with_reducible refine CallX.all ?_); refine CallW.of_ok (kN _ _ rfl (fun j => rfl) rfl) ?_; conv => whnf) | ((with_reducible refine grd_getN ?_); refine som_mk (a := ?_) ?hh ?_; (case hh => exact ga); conv => whnf) | ((with_reducible refine CallX.all ?_); refine CallW.of_ok (kL _ rfl) ?_; conv => whnf) | ((with_reducible refine And.intro ?hh ?_); (case hh => exact condA); conv => whnf) | fail))
  all_goals first | (refine ⟨[], ?_, rfl, rfl, trivial, trivs⟩; simp only [renV, renL]; (first | done | rfl | (simp; done) | (simp; omega) | grind)) | (exfalso; omega)
end Go.Proofs.H

