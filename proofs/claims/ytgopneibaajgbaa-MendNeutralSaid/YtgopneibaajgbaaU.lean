/- What the functions answer that the laws call, one after another (U). -/
import Derived.Test.YtgopneibaajgbaaAs6
import Derived.Test.YtgopneibaajgbaaL3
import Derived.Test.YtgopneibaajgbaaL5
import Derived.Test.YtgopneibaajgbaaG0
import Derived.Test.YtgopneibaajgbaaRead

set_option linter.unusedVariables false
namespace Go.Proofs.H
open Go.As
set_option maxRecDepth 20000
set_option linter.unusedVariables false
set_option linter.unusedSimpArgs false

/-! ### Plates laid upon one another -/

theorem lay2_at {d e : Nat → Int} {n k : Nat} (hk : k < n) : layA (layA z0 d n) e n k = d k + e k := by
  rw [show layA (layA z0 d n) e n k = layA z0 d n k + e k from if_pos hk, lay_at hk]
theorem setD_step {nt d : Nat} {v : V} {t : Tr V} {K : Tr V → Prop} (h1 : Nat.blt d nt = true) (h2 : ∀ t2, t2 = t.set d v → K t2) : setD nt (some d) v t K := by
  unfold setD; simp only [h1]; rw [strictT_eq]; exact h2 _ rfl
set_option maxHeartbeats 8000000 in
theorem upon_v (h : As.H) (W H : Nat) (k : Nat) (d e : Nat → Int) (p : Pv W H k d) (q : Pv W H k e) (W2 H2 : Int) (eW : W2 = W) (eH : H2 = H) :
    CallOk Try.prog 36 [plV W H false k d, plV W2 H2 false k e] h (.tup [.rsl true 1 k (iG (xF W H fun i => d i + e i)), .int .i64 0]) h := by
  have hW := p.hw
  have hH := p.hh
  have hk := p.hn
  have hd := p.hd
  have he := q.hd
  have hwh := wh_le hW hH
  have g := gr_ok hW hH
  have hs2 : ∀ i, i < W * H → 0 ≤ layA (layA z0 d (W * H)) e (W * H) i ∧ layA (layA z0 d (W * H)) e (W * H) i ≤ 60 := fun i hi => by rw [lay2_at hi]; have := hd i (by omega); have := he i (by omega); omega
  refine CallOk.like (v := .tup [.rsl true 1 k (iG (fin (W * H) (adI W H) (wgt W) (layA (layA z0 d (W * H)) e (W * H))).1), .int .i64 0]) ?_ (LkL.tup (.cons (.ints fun i hi => ?_) (.cons (.same _) .nil)))
  rotate_left
  · exact (fin_congr g (b := fun i => d i + e i) (fun j hj => lay2_at hj) (fun j hj => by have := hd j (by omega); have := he j (by omega); (try dsimp only); omega) i (by omega)).1
  have k1 := fun h' => checkPlate_ok h' W2 H2 false k e (by omega)
  rw [show ckP W2 H2 k e = 0 from by rw [eW, eH]; exact q.ck] at k1
  have kB : ∀ (h' : As.H) (s mb : Nat), s = h'.n + 0 → mb = h'.n + 1 → _ := fun h' s mb e1 e2 => by
    have := blockFor_new h' W H hW hH false k d hk hd
    rw [← e1, ← e2] at this
    exact this
  have hm1 := layE_ok (W := W) (n := W * H) (d := e) (c := (layE W z0 d [] 0 (W * H)).2) (lay_map (W := W) (n := W * H) d) (W * H) (Nat.le_refl _)
  have kL := fun (h' : As.H) (cs : Tr V) hs hcs he0 => lay_ok h' 2 3 W H hW hH (.rsl false 1 k (iG d)) rfl (layA z0 d (W * H)) z0 (layE W z0 d [] 0 (W * H)).1 (layE W z0 d [] 0 (W * H)).2 false k hk e (fun j hj => by rw [lay_at hj]; have := hd j (by omega); omega) (fun j hj => by have := he j (by omega); omega) (cs := cs) hs hcs he0
  have kH := fun (h' : As.H) (cs : Tr V) hs hcs he0 => hammer_ok h' 2 3 W H hW hH (.rsl false 1 k (iG d)) rfl (layA (layA z0 d (W * H)) e (W * H)) z0 (layE W (layA z0 d (W * H)) e (layE W z0 d [] 0 (W * H)).1 (layE W z0 d [] 0 (W * H)).2 (W * H)).1 (layE W (layA z0 d (W * H)) e (layE W z0 d [] 0 (W * H)).1 (layE W z0 d [] 0 (W * H)).2 (W * H)).2 hm1 (fun j hj => (hs2 j hj).1) (fun j hj => by have := hs2 j hj; omega) (fun j _ => by unfold z0; omega) (cs := cs) hs hcs he0
  have kI := fun (h' : As.H) a (c : Tr V) hs h0 h1 => list_ok h' 2 W H hW hH a (c := c) (w := true) (g := none) hs h0 h1
  rw [← hk] at kI
  clear hm1 hs2
  generalize (finE W H (layA (layA z0 d (W * H)) e (W * H)) (layE W (layA z0 d (W * H)) e (layE W z0 d [] 0 (W * H)).1 (layE W z0 d [] 0 (W * H)).2 (W * H)).1 (layE W (layA z0 d (W * H)) e (layE W z0 d [] 0 (W * H)).1 (layE W z0 d [] 0 (W * H)).2 (W * H)).2).2.2 = c' at *
  generalize layE W (layA z0 d (W * H)) e (layE W z0 d [] 0 (W * H)).1 (layE W z0 d [] 0 (W * H)).2 (W * H) = X2 at *
  generalize layE W z0 d [] 0 (W * H) = X at *
  generalize layA (layA z0 d (W * H)) e (W * H) = a2 at *
  generalize layA z0 d (W * H) = a0 at *
  generalize (fun k => z0 k + (fin (W * H) (adI W H) (wgt W) a2).2 k) = v at *
  generalize (fin (W * H) (adI W H) (wgt W) a2).1 = x at *
  obtain ⟨B1, hB1⟩ : ∃ B1, BC (W : Int) H (.rsl false 1 k (iG d)) a0 z0 3 = B1 := ⟨_, rfl⟩
  obtain ⟨B2, hB2⟩ : ∃ B2, BC (W : Int) H (.rsl false 1 k (iG d)) a2 z0 3 = B2 := ⟨_, rfl⟩
  obtain ⟨B3, hB3⟩ : ∃ B3, BC (W : Int) H (.rsl false 1 k (iG d)) x v 3 = B3 := ⟨_, rfl⟩
  have f0 : ∀ o, o = 0 → B1.get o = some (.int .i64 W) := fun o ho => by rw [ho, ← hB1]; exact bc_0
  have f1 : ∀ o, o = 1 → B1.get o = some (.int .i64 H) := fun o ho => by rw [ho, ← hB1]; exact bc_1
  have g0 : B3.get 0 = some (.int .i64 W) := by rw [← hB3]; exact bc_0
  have g1 : B3.get 1 = some (.int .i64 H) := by rw [← hB3]; exact bc_1
  have ga : getN B3 36 3 = some (aV x) := by rw [← hB3]; exact bc_ga
  have kB2 := fun (h' : As.H) (e : 2 = h'.n + 0) (e2 : 3 = h'.n + 1) => kB h' 2 3 e e2
  clear kB
  unfold BB at kB2 kL kH
  rw [hB1] at kB2
  rw [hB2] at kL
  rw [hB3] at kH
  have kL2 := fun (h' : As.H) (hs : h'.get 2 = some (.cells B1 true none)) he => kL h' B1 hs (fun j => by rw [hB1]) he
  have kH2 := fun (h' : As.H) (hs : h'.get 2 = some (.cells B2 true none)) he => kH h' B2 hs (fun j => by rw [hB2]) he
  have kI2 := fun (h' : As.H) a (hs : h'.get 2 = some (.cells B3 true none)) => kI h' a B3 hs g0 g1
  clear kL kH kI
  refine CallOk.run0 Try.func36 rfl rfl rfl rfl rfl (WpR.of_vc ?_)
  (conv => whnf); (repeat' (first | ((with_reducible refine ifb_mk (fun hc => ?_) (fun hc => ?_)) <;> ((try simp only [decide_eq_true_eq, decide_eq_false_iff_not, Bool.not_eq_true', Bool.not_eq_false', Int.not_lt, Int.not_le, ne_eq, Decidable.not_not, beq_iff_eq, List.cons.injEq, and_true] at hc); (first | (exfalso; omega) | exact absurd True.intro hc | conv => whnf))) | ((with_reducible refine And.intro True.intro ?_); conv => whnf) | ((with_reducible refine CallX.all ?_); refine CallW.of_ok (kB2 _ (by rfl) (by rfl)) ?_; conv => whnf) | ((with_reducible refine CallX.all ?_); refine CallW.of_ok (k1 _) ?_; conv => whnf) | (refine som_mk (f0 _ (Nat.eq_of_beq_eq_true (by exact rfl))) ?_; conv => whnf) | ((with_reducible refine WpR.draw (id := 7) mixed [0, 1, 2, 3, 4, 5, 6, 7, 8, 9, 10, 11, 12, 13, 14, 15, 16, 17] [0, 1, 0, 4, 12, 28, 60, 127, 255, 511, 1023, 511, 2559, 6655, 14847, 31231, 65535, 131071] ?hh ?_); (case hh => kernel_rfl); conv => whnf) | ((with_reducible refine And.intro ?hh ?_); (case hh => exact condA); conv => whnf) | fail))
  refine som_mk (f1 _ (by decide +kernel)) ?_
  (conv => whnf)
  (with_reducible refine And.intro ?hh ?_)
  (case hh => exact condA)
  conv => whnf
  (with_reducible refine ifb_mk (fun hc => ?_) (fun hc => ?_))
  · exfalso; simp at hc; omega
  obtain ⟨M, hM⟩ : ∃ M, addBs
            {
              t :=
                (Tr.leaf.node (some (Blk.cells (ofL (plV W2 H2 false k e).cells 0) true none, fun (b : Nat) => V.ptr b 0).fst)
                      Tr.leaf).node
                  (some (Blk.cells (ofL (plV (↑W) (↑H) false k d).cells 0) true none, fun (b : Nat) => V.ptr b 0).fst) Tr.leaf,
              n := 0 + 1 + 1, low := 0 }
            [Blk.cells B1 true none, Blk.map (encM X.fst) X.snd] = M := ⟨_, rfl⟩
  have hM1 : M.get 1 = some (Blk.cells (ofL (plV W2 H2 false k e).cells 0) true none) := by rw [← hM]; rfl
  have hq : ∀ o, o = 2 → (ofL (plV W2 H2 false k e).cells 0).get o = some (.rsl false 1 k (iG e)) := fun o ho => by rw [ho]; rfl
  rw [hM]
  generalize ofL (plV W2 H2 false k e).cells 0 = PQ at hM1 hq
  conv => whnf

  refine som_mk hM1 ?_
  conv => whnf
  refine som_mk (hq _ (by decide +kernel)) ?_
  refine setD_step (by kernel_rfl) ?_
  intro t2 ht2
  dsimp only
  unfold vcOps2
  conv => whnf
  subst ht2
  subst hM
  (conv => whnf); (repeat' (first | ((with_reducible refine ifb_mk (fun hc => ?_) (fun hc => ?_)) <;> ((try simp only [decide_eq_true_eq, decide_eq_false_iff_not, Bool.not_eq_true', Bool.not_eq_false', Int.not_lt, Int.not_le, ne_eq, Decidable.not_not, beq_iff_eq, List.cons.injEq, and_true] at hc); (first | (exfalso; omega) | exact absurd True.intro hc | conv => whnf))) | ((with_reducible refine And.intro True.intro ?_); conv => whnf) | ((with_reducible refine CallX.all ?_); refine CallW.of_ok (kL2 _ rfl rfl) ?_; conv => whnf) | ((with_reducible refine CallX.all ?_); refine CallW.of_ok (kH2 _ rfl rfl) ?_; conv => whnf) | ((with_reducible refine grd_ex ?_); refine ex_ok (kI2 _ _ rfl) ?_; conv => whnf) | ((with_reducible refine CallX.all ?_); refine CallW.of_ok (kI2 _ _ rfl) ?_; conv => whnf) | ((with_reducible refine grd_getN ?_); refine som_mk (a := ?_) ?hh ?_; (case hh => exact ga); conv => whnf) | ((with_reducible refine And.intro ?hh ?_); (case hh => exact condA); conv => whnf) | fail))
  all_goals first | (refine ⟨[], ?_, rfl, rfl, trivial, trivs⟩; simp only [renV, renL]; (first | done | rfl | (simp; done) | (simp; omega) | grind)) | (exfalso; omega)
end Go.Proofs.H

namespace Go.Proofs.H
open Go.As
set_option maxRecDepth 20000
set_option linter.unusedVariables false
set_option linter.unusedSimpArgs false

/-! ### The law of plates laid upon one another -/

section
variable {W H n : Nat} {d e : Nat → Int}
theorem sum_mid (p : Pv W H n d) (q : Pv W H n e) : Mid n (adI W H) (wgt W) (fun i => d i + e i) (xF W H (fun i => d i + e i), uF W H (fun i => d i + e i)) := by
  have g := gr_ok p.hw p.hh
  have := fin_mid g (a := fun i => d i + e i) (fun j hj => by have := p.d0 j (by rw [p.hn]; exact hj); have := q.d0 j (by rw [p.hn]; exact hj); (try dsimp only); omega)
  rw [p.hn]
  exact this
theorem sum_flat (p : Pv W H n d) (q : Pv W H n e) : ∀ k, k < n → xF W H (fun i => d i + e i) k ≤ 3 := fun k hk => by
  have g := gr_ok p.hw p.hh
  have := fin_flat g (a := fun i => d i + e i) (fun j hj => by have := p.d0 j (by rw [p.hn]; exact hj); have := q.d0 j (by rw [p.hn]; exact hj); (try dsimp only); omega) k (by rw [← p.hn]; exact hk)
  have e : xF W H (fun i => d i + e i) k = (fin (W * H) (adI W H) (wgt W) (fun i => d i + e i)).1 k := rfl
  omega
theorem Pv.sum (p : Pv W H n d) (q : Pv W H n e) : Pv W H n (xF W H fun i => d i + e i) := ⟨p.hw, p.hh, p.hn, fun i hi => by have := sum_flat p q i hi; have := (sum_mid p q).nn i hi; dsimp only at this; omega⟩
theorem flat_add (p : Pv W H n d) {b : Nat → Int} (hb : ∀ k, k < n → 0 ≤ b k) : ∀ k, k < n → xF W H (fun i => xF W H d i + b i) k = xF W H (fun i => d i + b i) k := fun k hk => by
  have g := gr_ok p.hw p.hh
  have m1 := p.mid.add hb
  have h0 : ∀ j, j < W * H → 0 ≤ xF W H d j + b j := fun j hj => by have := p.mid.nn j (by rw [p.hn]; exact hj); have := hb j (by rw [p.hn]; exact hj); dsimp only at *; omega
  have m2 := fin_mid g (a := fun i => xF W H d i + b i) h0
  have f2 := fin_flat g (a := fun i => xF W H d i + b i) h0
  rw [p.hn] at m1 hk
  have m := m1.trans m2
  have := Mid.uniq g (fun j hj => by have := p.d0 j (by rw [p.hn]; exact hj); have := hb j (by rw [p.hn]; exact hj); (try dsimp only); omega) m f2 k hk
  exact this.1
theorem uponV (p : Pv W H n d) (q : Pv W H n e) (h : As.H) : CallOk Try.prog 36 [plV W H false n d, plV W H false n e] h (.tup [.rsl false 1 n (iG (xF W H fun i => d i + e i)), .int .i64 0]) h :=
  CallOk.weak (upon_v h W H n d e p q W H rfl rfl) (WkL.tup (.cons .rsl (.cons (.same _) .nil)))
set_option maxHeartbeats 8000000 in
theorem uponH (p : Pv W H n d) (q : Pv W H n e) (h : As.H) : CallOk Try.prog 48 [plV W H false n d, plV W H false n e] h (.tup [plV W H false n (xF W H fun i => d i + e i), .bool true]) h := by
  have hle := p.le
  have k1 := fun h' => uponV p q h'
  have k2 := fun h' => ckV (p.sum q) h'
  have k3 := fun h' => isFlatR_ok h' n (xF W H fun i => d i + e i) false (by omega)
  rw [allF_t (p := fun j => decide (xF W H (fun i => d i + e i) j ≤ 3)) fun j hj => decide_eq_true (sum_flat p q j hj)] at k3
  generalize xF W H (fun i => d i + e i) = x at *
  refine CallOk.run0 Try.func48 rfl rfl rfl rfl rfl (WpR.of_vc ?_)
  (conv => whnf); (repeat' (first | ((with_reducible refine ifb_mk (fun hc => ?_) (fun hc => ?_)) <;> ((try simp only [decide_eq_true_eq, decide_eq_false_iff_not, Bool.not_eq_true', Bool.not_eq_false', Int.not_lt, Int.not_le, ne_eq, Decidable.not_not, beq_iff_eq, List.cons.injEq, and_true] at hc); (first | (exfalso; omega) | exact absurd True.intro hc | conv => whnf))) | ((with_reducible refine And.intro True.intro ?_); conv => whnf) | ((with_reducible refine CallX.all ?_); refine CallW.of_ok (k1 _) ?_; conv => whnf) | ((with_reducible refine CallX.all ?_); refine CallW.of_ok (k2 _) ?_; conv => whnf) | ((with_reducible refine CallX.all ?_); refine CallW.of_ok (k3 _) ?_; conv => whnf) | ((with_reducible refine WpR.draw (id := 3) mixed [0, 1, 2, 3, 4, 5, 6, 7, 8, 9, 10, 11, 12, 13] [0, 0, 2, 6, 14, 30, 62, 126, 254, 510, 1022, 2046, 2047, 8191] ?hh ?_); (case hh => kernel_rfl); conv => whnf) | ((with_reducible refine grd_ex ?_); refine ex_ok (k1 _) ?_; conv => whnf) | ((with_reducible refine grd_ex ?_); refine ex_ok (k2 _) ?_; conv => whnf) | ((with_reducible refine grd_ex ?_); refine ex_ok (k3 _) ?_; conv => whnf) | ((with_reducible refine And.intro ?hh ?_); (case hh => exact condA); conv => whnf) | fail))
  all_goals first | (refine ⟨[], ?_, rfl, rfl, trivial, trivs⟩; simp only [renV, renL]; (first | done | rfl | (simp; done) | (simp; omega) | grind)) | (exfalso; omega)
end
end Go.Proofs.H

namespace Go.Proofs.H
open Go.As
set_option maxRecDepth 20000
set_option linter.unusedVariables false
set_option linter.unusedSimpArgs false

end Go.Proofs.H

namespace Go.Proofs.H
open Go.As Go.ChangeShapes Go.WideShapes Go.Deep Go.ChangeAt Go.RowKit
set_option maxRecDepth 20000
set_option linter.unusedVariables false

section
variable {H : Type} {enc : TypeId × Value → H} {P : Program} {w : World}
end
section
variable {H : Type} {enc : TypeId × Value → H} {W : World}
end
end Go.Proofs.H

namespace Go.Proofs.H
open Go.As
set_option maxRecDepth 20000
set_option linter.unusedVariables false
set_option linter.unusedSimpArgs false

end Go.Proofs.H

