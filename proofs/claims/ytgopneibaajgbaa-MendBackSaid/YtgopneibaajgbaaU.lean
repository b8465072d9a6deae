/- What the functions answer that the laws call, one after another (U). -/
import Derived.Test.YtgopneibaajgbaaAs6
import Derived.Test.YtgopneibaajgbaaL3
import Derived.Test.YtgopneibaajgbaaL5
import Derived.Test.YtgopneibaajgbaaG0
import Derived.Test.YtgopneibaajgbaaRead

set_option linter.unusedVariables false
namespace Go.Proofs.H
open Go.As
set_option maxRecDepth 20000
set_option linter.unusedVariables false
set_option linter.unusedSimpArgs false

/-! ### Plates laid upon one another -/

theorem lay2_at {d e : Nat → Int} {n k : Nat} (hk : k < n) : layA (layA z0 d n) e n k = d k + e k := by
  rw [show layA (layA z0 d n) e n k = layA z0 d n k + e k from if_pos hk, lay_at hk]
theorem setD_step {nt d : Nat} {v : V} {t : Tr V} {K : Tr V → Prop} (h1 : Nat.blt d nt = true) (h2 : ∀ t2, t2 = t.set d v → K t2) : setD nt (some d) v t K := by
  unfold setD; simp only [h1]; rw [strictT_eq]; exact h2 _ rfl
set_option maxHeartbeats 8000000 in
theorem upon_v (h : As.H) (W H : Nat) (k : Nat) (d e : Nat → Int) (p : Pv W H k d) (q : Pv W H k e) (W2 H2 : Int) (eW : W2 = W) (eH : H2 = H) :
    CallOk Try.prog 36 [plV W H false k d, plV W2 H2 false k e] h (.tup [.rsl true 1 k (iG (xF W H fun i => d i + e i)), .int .i64 0]) h := by
  have hW := p.hw
  have hH := p.hh
  have hk := p.hn
  have hd := p.hd
  have he := q.hd
  have hwh := wh_le hW hH
  have g := gr_ok hW hH
  have hs2 : ∀ i, i < W * H → 0 ≤ layA (layA z0 d (W * H)) e (W * H) i ∧ layA (layA z0 d (W * H)) e (W * H) i ≤ 60 := fun i hi => by rw [lay2_at hi]; have := hd i (by omega); have := he i (by omega); omega
  refine CallOk.like (v := .tup [.rsl true 1 k (iG (fin (W * H) (adI W H) (wgt W) (layA (layA z0 d (W * H)) e (W * H))).1), .int .i64 0]) ?_ (LkL.tup (.cons (.ints fun i hi => ?_) (.cons (.same _) .nil)))
  rotate_left
  · exact (fin_congr g (b := fun i => d i + e i) (fun j hj => lay2_at hj) (fun j hj => by have := hd j (by omega); have := he j (by omega); (try dsimp only); omega) i (by omega)).1
  have k1 := fun h' => checkPlate_ok h' W2 H2 false k e (by omega)
  rw [show ckP W2 H2 k e = 0 from by rw [eW, eH]; exact q.ck] at k1
  have kB : ∀ (h' : As.H) (s mb : Nat), s = h'.n + 0 → mb = h'.n + 1 → _ := fun h' s mb e1 e2 => by
    have := blockFor_new h' W H hW hH false k d hk hd
    rw [← e1, ← e2] at this
    exact this
  have hm1 := layE_ok (W := W) (n := W * H) (d := e) (c := (layE W z0 d [] 0 (W * H)).2) (lay_map (W := W) (n := W * H) d) (W * H) (Nat.le_refl _)
  have kL := fun (h' : As.H) (cs : Tr V) hs hcs he0 => lay_ok h' 2 3 W H hW hH (.rsl false 1 k (iG d)) rfl (layA z0 d (W * H)) z0 (layE W z0 d [] 0 (W * H)).1 (layE W z0 d [] 0 (W * H)).2 false k hk e (fun j hj => by rw [lay_at hj]; have := hd j (by omega); omega) (fun j hj => by have := he j (by omega); omega) (cs := cs) hs hcs he0
  have kH := fun (h' : As.H) (cs : Tr V) hs hcs he0 => hammer_ok h' 2 3 W H hW hH (.rsl false 1 k (iG d)) rfl (layA (layA z0 d (W * H)) e (W * H)) z0 (layE W (layA z0 d (W * H)) e (layE W z0 d [] 0 (W * H)).1 (layE W z0 d [] 0 (W * H)).2 (W * H)).1 (layE W (layA z0 d (W * H)) e (layE W z0 d [] 0 (W * H)).1 (layE W z0 d [] 0 (W * H)).2 (W * H)).2 hm1 (fun j hj => (hs2 j hj).1) (fun j hj => by have := hs2 j hj; omega) (fun j _ => by unfold z0; omega) (cs := cs) hs hcs he0
  have kI := fun (h' : As.H) a (c : Tr V) hs h0 h1 => list_ok h' 2 W H hW hH a (c := c) (w := true) (g := none) hs h0 h1
  rw [← hk] at kI
  clear hm1 hs2
  generalize (finE W H (layA (layA z0 d (W * H)) e (W * H)) (layE W (layA z0 d (W * H)) e (layE W z0 d [] 0 (W * H)).1 (layE W z0 d [] 0 (W * H)).2 (W * H)).1 (layE W (layA z0 d (W * H)) e (layE W z0 d [] 0 (W * H)).1 (layE W z0 d [] 0 (W * H)).2 (W * H)).2).2.2 = c' at *
  generalize layE W (layA z0 d (W * H)) e (layE W z0 d [] 0 (W * H)).1 (layE W z0 d [] 0 (W * H)).2 (W * H) = X2 at *
  generalize layE W z0 d [] 0 (W * H) = X at *
  generalize layA (layA z0 d (W * H)) e (W * H) = a2 at *
  generalize layA z0 d (W * H) = a0 at *
  generalize (fun k => z0 k + (fin (W * H) (adI W H) (wgt W) a2).2 k) = v at *
  generalize (fin (W * H) (adI W H) (wgt W) a2).1 = x at *
  obtain ⟨B1, hB1⟩ : ∃ B1, BC (W : Int) H (.rsl false 1 k (iG d)) a0 z0 3 = B1 := ⟨_, rfl⟩
  obtain ⟨B2, hB2⟩ : ∃ B2, BC (W : Int) H (.rsl false 1 k (iG d)) a2 z0 3 = B2 := ⟨_, rfl⟩
  obtain ⟨B3, hB3⟩ : ∃ B3, BC (W : Int) H (.rsl false 1 k (iG d)) x v 3 = B3 := ⟨_, rfl⟩
  have f0 : ∀ o, o = 0 → B1.get o = some (.int .i64 W) := fun o ho => by rw [ho, ← hB1]; exact bc_0
  have f1 : ∀ o, o = 1 → B1.get o = some (.int .i64 H) := fun o ho => by rw [ho, ← hB1]; exact bc_1
  have g0 : B3.get 0 = some (.int .i64 W) := by rw [← hB3]; exact bc_0
  have g1 : B3.get 1 = some (.int .i64 H) := by rw [← hB3]; exact bc_1
  have ga : getN B3 36 3 = some (aV x) := by rw [← hB3]; exact bc_ga
  have kB2 := fun (h' : As.H) (e : 2 = h'.n + 0) (e2 : 3 = h'.n + 1) => kB h' 2 3 e e2
  clear kB
  unfold BB at kB2 kL kH
  rw [hB1] at kB2
  rw [hB2] at kL
  rw [hB3] at kH
  have kL2 := fun (h' : As.H) (hs : h'.get 2 = some (.cells B1 true none)) he => kL h' B1 hs (fun j => by rw [hB1]) he
  have kH2 := fun (h' : As.H) (hs : h'.get 2 = some (.cells B2 true none)) he => kH h' B2 hs (fun j => by rw [hB2]) he
  have kI2 := fun (h' : As.H) a (hs : h'.get 2 = some (.cells B3 true none)) => kI h' a B3 hs g0 g1
  clear kL kH kI
  refine CallOk.run0 Try.func36 rfl rfl rfl rfl rfl (WpR.of_vc ?_)
  (conv => whnf); (repeat' (first | ((with_reducible refine ifb_mk (fun hc => ?_) (fun hc => ?_)) <;> ((try simp only [decide_eq_true_eq, decide_eq_false_iff_not, Bool.not_eq_true', Bool.not_eq_false', Int.not_lt, Int.not_le, ne_eq, Decidable.not_not, beq_iff_eq, List.cons.injEq, and_true] at hc); (first | (exfalso; omega) | exact absurd True.intro hc | conv => whnf))) | ((with_reducible refine And.intro True.intro ?_); conv => whnf) | ((with_reducible refine CallX.all ?_); refine CallW.of_ok (kB2 _ (by rfl) (by rfl)) ?_; conv => whnf) | ((with_reducible refine CallX.all ?_); refine CallW.of_ok (k1 _) ?_; conv => whnf) | (refine som_mk (f0 _ (Nat.eq_of_beq_eq_true (by exact rfl))) ?_; conv => whnf) | ((with_reducible refine WpR.draw (id := 7) mixed [0, 1, 2, 3, 4, 5, 6, 7, 8, 9, 10, 11, 12, 13, 14, 15, 16, 17] [0, 1, 0, 4, 12, 28, 60, 127, 255, 511, 1023, 511, 2559, 6655, 14847, 31231, 65535, 131071] ?hh ?_); (case hh => kernel_rfl); conv => whnf) | ((with_reducible refine And.intro ?hh ?_); (case hh => exact condA); conv => whnf) | fail))
  refine som_mk (f1 _ (by decide +kernel)) ?_
  (conv => whnf)
  (with_reducible refine And.intro ?hh ?_)
  (case hh => exact condA)
  conv => whnf
  (with_reducible refine ifb_mk (fun hc => ?_) (fun hc => ?_))
  · exfalso; simp at hc; omega
  obtain ⟨M, hM⟩ : ∃ M, addBs
            {
              t :=
                (Tr.leaf.node (some (Blk.cells (ofL (plV W2 H2 false k e).cells 0) true none, fun (b : Nat) => V.ptr b 0).fst)
                      Tr.leaf).node
                  (some (Blk.cells (ofL (plV (↑W) (↑H) false k d).cells 0) true none, fun (b : Nat) => V.ptr b 0).fst) Tr.leaf,
              n := 0 + 1 + 1, low := 0 }
            [Blk.cells B1 true none, Blk.map (encM X.fst) X.snd] = M := ⟨_, rfl⟩
  have hM1 : M.get 1 = some (Blk.cells (ofL (plV W2 H2 false k e).cells 0) true none) := by rw [← hM]; rfl
  have hq : ∀ o, o = 2 → (ofL (plV W2 H2 false k e).cells 0).get o = some (.rsl false 1 k (iG e)) := fun o ho => by rw [ho]; rfl
  rw [hM]
  generalize ofL (plV W2 H2 false k e).cells 0 = PQ at hM1 hq
  conv => whnf

  refine som_mk hM1 ?_
  conv => whnf
  refine som_mk (hq _ (by decide +kernel)) ?_
  refine setD_step (by kernel_rfl) ?_
  intro t2 ht2
  dsimp only
  unfold vcOps2
  conv => whnf
  subst ht2
  subst hM
  (conv => whnf); (repeat' (first | ((with_reducible refine ifb_mk (fun hc => ?_) (fun hc => ?_)) <;> ((try simp only [decide_eq_true_eq, decide_eq_false_iff_not, Bool.not_eq_true', Bool.not_eq_false', Int.not_lt, Int.not_le, ne_eq, Decidable.not_not, beq_iff_eq, List.cons.injEq, and_true] at hc); (first | (exfalso; omega) | exact absurd True.intro hc | conv => whnf))) | ((with_reducible refine And.intro True.intro ?_); conv => whnf) | ((with_reducible refine CallX.all ?_); refine CallW.of_ok (kL2 _ rfl rfl) ?_; conv => whnf) | ((with_reducible refine CallX.all ?_); refine CallW.of_ok (kH2 _ rfl rfl) ?_; conv => whnf) | ((with_reducible refine grd_ex ?_); refine ex_ok (kI2 _ _ rfl) ?_; conv => whnf) | ((with_reducible refine CallX.all ?_); refine CallW.of_ok (kI2 _ _ rfl) ?_; conv => whnf) | ((with_reducible refine grd_getN ?_); refine som_mk (a := ?_) ?hh ?_; (case hh => exact ga); conv => whnf) | ((with_reducible refine And.intro ?hh ?_); (case hh => exact condA); conv => whnf) | fail))
  all_goals first | (refine ⟨[], ?_, rfl, rfl, trivial, trivs⟩; simp only [renV, renL]; (first | done | rfl | (simp; done) | (simp; omega) | grind)) | (exfalso; omega)
end Go.Proofs.H

namespace Go.Proofs.H
open Go.As
set_option maxRecDepth 20000
set_option linter.unusedVariables false
set_option linter.unusedSimpArgs false

/-! ### The law of plates laid upon one another -/

section
variable {W H n : Nat} {d e : Nat → Int}
theorem sum_mid (p : Pv W H n d) (q : Pv W H n e) : Mid n (adI W H) (wgt W) (fun i => d i + e i) (xF W H (fun i => d i + e i), uF W H (fun i => d i + e i)) := by
  have g := gr_ok p.hw p.hh
  have := fin_mid g (a := fun i => d i + e i) (fun j hj => by have := p.d0 j (by rw [p.hn]; exact hj); have := q.d0 j (by rw [p.hn]; exact hj); (try dsimp only); omega)
  rw [p.hn]
  exact this
theorem sum_flat (p : Pv W H n d) (q : Pv W H n e) : ∀ k, k < n → xF W H (fun i => d i + e i) k ≤ 3 := fun k hk => by
  have g := gr_ok p.hw p.hh
  have := fin_flat g (a := fun i => d i + e i) (fun j hj => by have := p.d0 j (by rw [p.hn]; exact hj); have := q.d0 j (by rw [p.hn]; exact hj); (try dsimp only); omega) k (by rw [← p.hn]; exact hk)
  have e : xF W H (fun i => d i + e i) k = (fin (W * H) (adI W H) (wgt W) (fun i => d i + e i)).1 k := rfl
  omega
theorem Pv.sum (p : Pv W H n d) (q : Pv W H n e) : Pv W H n (xF W H fun i => d i + e i) := ⟨p.hw, p.hh, p.hn, fun i hi => by have := sum_flat p q i hi; have := (sum_mid p q).nn i hi; dsimp only at this; omega⟩
theorem flat_add (p : Pv W H n d) {b : Nat → Int} (hb : ∀ k, k < n → 0 ≤ b k) : ∀ k, k < n → xF W H (fun i => xF W H d i + b i) k = xF W H (fun i => d i + b i) k := fun k hk => by
  have g := gr_ok p.hw p.hh
  have m1 := p.mid.add hb
  have h0 : ∀ j, j < W * H → 0 ≤ xF W H d j + b j := fun j hj => by have := p.mid.nn j (by rw [p.hn]; exact hj); have := hb j (by rw [p.hn]; exact hj); dsimp only at *; omega
  have m2 := fin_mid g (a := fun i => xF W H d i + b i) h0
  have f2 := fin_flat g (a := fun i => xF W H d i + b i) h0
  rw [p.hn] at m1 hk
  have m := m1.trans m2
  have := Mid.uniq g (fun j hj => by have := p.d0 j (by rw [p.hn]; exact hj); have := hb j (by rw [p.hn]; exact hj); (try dsimp only); omega) m f2 k hk
  exact this.1
theorem uponV (p : Pv W H n d) (q : Pv W H n e) (h : As.H) : CallOk Try.prog 36 [plV W H false n d, plV W H false n e] h (.tup [.rsl false 1 n (iG (xF W H fun i => d i + e i)), .int .i64 0]) h :=
  CallOk.weak (upon_v h W H n d e p q W H rfl rfl) (WkL.tup (.cons .rsl (.cons (.same _) .nil)))
set_option maxHeartbeats 8000000 in
theorem uponH (p : Pv W H n d) (q : Pv W H n e) (h : As.H) : CallOk Try.prog 48 [plV W H false n d, plV W H false n e] h (.tup [plV W H false n (xF W H fun i => d i + e i), .bool true]) h := by
  have hle := p.le
  have k1 := fun h' => uponV p q h'
  have k2 := fun h' => ckV (p.sum q) h'
  have k3 := fun h' => isFlatR_ok h' n (xF W H fun i => d i + e i) false (by omega)
  rw [allF_t (p := fun j => decide (xF W H (fun i => d i + e i) j ≤ 3)) fun j hj => decide_eq_true (sum_flat p q j hj)] at k3
  generalize xF W H (fun i => d i + e i) = x at *
  refine CallOk.run0 Try.func48 rfl rfl rfl rfl rfl (WpR.of_vc ?_)
  (conv => whnf); (repeat' (first | ((with_reducible refine ifb_mk (fun hc => ?_) (fun hc => ?_)) <;> ((try simp only [decide_eq_true_eq, decide_eq_false_iff_not, Bool.not_eq_true', Bool.not_eq_false', Int.not_lt, Int.not_le, ne_eq, Decidable.not_not, beq_iff_eq, List.cons.injEq, and_true] at hc); (first | (exfalso; omega) | exact absurd True.intro hc | conv => whnf))) | ((with_reducible refine And.intro True.intro ?_); conv => whnf) | ((with_reducible refine CallX.all ?_); refine CallW.of_ok (k1 _) ?_; conv => whnf) | ((with_reducible refine CallX.all ?_); refine CallW.of_ok (k2 _) ?_; conv => whnf) | ((with_reducible refine CallX.all ?_); refine CallW.of_ok (k3 _) ?_; conv => whnf) | ((with_reducible refine WpR.draw (id := 3) mixed [0, 1, 2, 3, 4, 5, 6, 7, 8, 9, 10, 11, 12, 13] [0, 0, 2, 6, 14, 30, 62, 126, 254, 510, 1022, 2046, 2047, 8191] ?hh ?_); (case hh => kernel_rfl); conv => whnf) | ((with_reducible refine grd_ex ?_); refine ex_ok (k1 _) ?_; conv => whnf) | ((with_reducible refine grd_ex ?_); refine ex_ok (k2 _) ?_; conv => whnf) | ((with_reducible refine grd_ex ?_); refine ex_ok (k3 _) ?_; conv => whnf) | ((with_reducible refine And.intro ?hh ?_); (case hh => exact condA); conv => whnf) | fail))
  all_goals first | (refine ⟨[], ?_, rfl, rfl, trivial, trivs⟩; simp only [renV, renL]; (first | done | rfl | (simp; done) | (simp; omega) | grind)) | (exfalso; omega)
end
end Go.Proofs.H

namespace Go.Proofs.H
open Go.As
set_option maxRecDepth 20000
set_option linter.unusedVariables false
set_option linter.unusedSimpArgs false

/-! ### A plate of the same size, from numbers -/

def bG (b : Nat → Int) (i : Nat) : List V := [.int .u8 (b i)]
def szL (f : Nat → Int) : Nat → List Int
  | 0 => []
  | i + 1 => f i :: szL f i
theorem szL_len (f : Nat → Int) : ∀ i, (szL f i).length = i
  | 0 => rfl
  | i + 1 => by show (szL f i).length + 1 = _; rw [szL_len f i]
theorem szL_at (f : Nat → Int) : ∀ (i j : Nat) (x : Int), (szL f i).reverse[j]? = some x → x = f j
  | 0, j, x, h => by simp [szL] at h
  | i + 1, j, x, h => by
    have e : (szL f (i + 1)).reverse = (szL f i).reverse ++ [f i] := List.reverse_cons
    rw [e] at h
    by_cases hj : j < i
    · rw [List.getElem?_append_left (by rw [List.length_reverse, szL_len]; exact hj)] at h
      exact szL_at f i j x h
    · rw [List.getElem?_append_right (by rw [List.length_reverse, szL_len]; omega), List.length_reverse, szL_len] at h
      by_cases h2 : j = i
      · subst h2; simpa using h.symm
      · rw [List.getElem?_eq_none (by simp; omega)] at h; cases h
def szF (m : Nat) (b : Nat → Int) (mo : Int) (i : Nat) : Int := if 0 < m then (IntKind.i64.wrap (b (i % m))).tmod (mo + 1) else 0
set_option maxHeartbeats 8000000 in
theorem sized_new (h : As.H) (W H : Nat) (n : Nat) (d : Nat → Int) (hn : n ≤ 64) (ex : Bool) (m : Nat) (hm : m ≤ 9223372036854775807) (b : Nat → Int) (hb : ∀ i, i < m → 0 ≤ b i ∧ b i ≤ 255) (mo : Int) (hmo : 0 ≤ mo ∧ mo ≤ 1000) (l : List Int) (hl : l = szL (szF m b mo) n) :
    CallOk Try.prog 47 [plV W H false n d, .rsl ex 1 m (bG b), .int .i64 mo] h (.agg [.int .i64 W, .int .i64 H, grV (h.n + 0) l.length]) (addBs h (gNew 1 eI l)) := by
  have hs := szL_len (szF m b mo)
  have hs0 : szL (szF m b mo) 0 = [] := rfl
  have hss : ∀ i, szL (szF m b mo) (i + 1) = szF m b mo i :: szL (szF m b mo) i := fun i => rfl
  have hf : ∀ i, szF m b mo i = if 0 < m then (IntKind.i64.wrap (b (i % m))).tmod (mo + 1) else 0 := fun i => rfl
  generalize szL (szF m b mo) = SL at *
  generalize szF m b mo = f at *
  refine CallOk.runN Try.func47 rfl rfl (argsC := [plV W H false n d, .rsl ex 1 m (bG b), .int .i64 mo]) (fun N => .agg [.int .i64 W, .int .i64 H, grV (N + 0) l.length]) (fun _ => gNew 1 eI l) (Nat.le_of_ble_eq_true rfl) [] (CaL.lt0 rfl) (viewM0 h)
    (ShV.agg (.cons (.bare rfl) (.cons (.bare rfl) (.cons (grSh _ _ _ 1 0 _ eI l (by simp)) .nil)))) rfl (fun i b hi => ⟨b, hi, grBs eI_bare hi⟩) (WpR.of_vc ?_)
  (conv => whnf); (repeat' (first | ((with_reducible refine ifb_mk (fun hc => ?_) (fun hc => ?_)) <;> ((try simp only [decide_eq_true_eq, decide_eq_false_iff_not, Bool.not_eq_true', Bool.not_eq_false', Int.not_lt, Int.not_le, ne_eq, Decidable.not_not, beq_iff_eq, List.cons.injEq, and_true] at hc); (first | (exfalso; omega) | exact absurd True.intro hc | conv => whnf))) | ((with_reducible refine And.intro True.intro ?_); conv => whnf) | ((with_reducible refine And.intro ?hh ?_); (case hh => exact condA); conv => whnf) | fail))
  have hMap : ∀ i, ltB 4 (.cells (ofL [.int .i64 W, .int .i64 H, grV 3 i] 0) true none) := fun i => ltB_ofL (by intro v hv; (repeat (rcases List.mem_cons.1 hv with rfl | hv; (first | rfl | exact grV_lt rfl i))); cases hv)
  have hMapA : ∀ i, ltB 1000 (.cells (ofL [.int .i64 W, .int .i64 H, grV 3 i] 0) true none) := fun i => ltB_ofL (by intro v hv; (repeat (rcases List.mem_cons.1 hv with rfl | hv; (first | rfl | exact grV_lt rfl i))); cases hv)
  have hMap2 : ∀ l : List Int, ltB 4 (grB 1 (gR eI l) l.length) := fun l => grB_lt (gR_bare eI_bare) _
  refine WpR.loopA (ι := Nat × List Int) [3] [0, 1, 2, 3, 6, 7] [2, 3] [] 4 (fun p => [(8, .int .i64 p.1)]) (fun p => [(2, .cells (ofL [.int .i64 W, .int .i64 H, grV 3 p.2.length] 0) true none), (3, grB 1 (gR eI p.2) p.2.length)]) (fun p => n - p.1) (fun p => p.1 ≤ n ∧ p.2 = SL p.1) ?_ ((0, [])) (⟨Nat.zero_le _, hs0.symm⟩) [] Back.auto
  rintro ⟨i, q⟩ ⟨j1, j2⟩
  dsimp only at j1 j2
  refine WpR.of_vc ?_
  have hql := hs i
  rw [← j2] at hql
  by_cases hi : i < n
  · have e := hss i
    rw [← j2] at e
    by_cases h0 : 0 < m
    · have e2 := hf i
      rw [if_pos h0] at e2
      rw [e2] at e
      have him : i % m < m := Nat.mod_lt _ h0
      have hbi := hb _ him
      have ei : (i : Int).tmod m = ((i % m : Nat) : Int) := by rw [Int.tmod_eq_emod_of_nonneg (by omega)]; omega
      have y0 : (m : Int) ≠ 0 := by omega
      have y1 : InR ((i : Int).tmod m) := by rw [ei]; unfold InR; omega
      have y2 : mo + 1 ≠ 0 := by omega
      have y3 : InR ((IntKind.i64.wrap (b (i % m))).tmod (mo + 1)) := by
        rw [wrap8 hbi, Int.tmod_eq_emod_of_nonneg hbi.1]
        have h2 : 0 ≤ b (i % m) % (mo + 1) := Int.emod_nonneg _ (by omega)
        have h3 : b (i % m) % (mo + 1) < mo + 1 := Int.emod_lt_of_pos _ (by omega)
        unfold InR; omega
      (conv => whnf); (repeat' (first | ((with_reducible refine ifb_mk (fun hc => ?_) (fun hc => ?_)) <;> ((try simp only [decide_eq_true_eq, decide_eq_false_iff_not, Bool.not_eq_true', Bool.not_eq_false', Int.not_lt, Int.not_le, ne_eq, Decidable.not_not, beq_iff_eq, List.cons.injEq, and_true] at hc); (first | (exfalso; omega) | exact absurd True.intro hc | conv => whnf))) | ((with_reducible refine And.intro True.intro ?_); conv => whnf) | ((with_reducible refine grd_and ?_); refine And.intro (hi) ?_; conv => whnf) | ((with_reducible refine grd_and ?_); refine And.intro (y0) ?_; conv => whnf) | ((with_reducible refine grd_and ?_); refine And.intro (y1) ?_; conv => whnf) | ((with_reducible refine grd_and ?_); refine And.intro (y2) ?_; conv => whnf) | ((with_reducible refine grd_and ?_); refine And.intro (y3) ?_; conv => whnf) | ((with_reducible refine grd_and ?_); refine And.intro (him) ?_; conv => whnf) | (((with_reducible refine idxP_mk (k := i % m) ?hh ?_); (case hh => exact ei)); conv => whnf) | (refine AppX.gr (n := 1) (L := gR eI q) (len := q.length) rfl rfl (gI_len q) (gI_one q) Nat.zero_lt_one (by omega) ?_; conv => whnf) | ((with_reducible refine And.intro ?hh ?_); (case hh => exact condA); conv => whnf) | fail))
      all_goals first | (exfalso; omega) | exact ⟨(i + 1, (IntKind.i64.wrap (b (i % m))).tmod (mo + 1) :: q), [(3, 5)], by dsimp only; omega, ⟨by dsimp only; omega, e.symm⟩, Back.auto⟩
    · have e2 := hf i
      rw [if_neg h0] at e2
      rw [e2] at e
      (conv => whnf); (repeat' (first | ((with_reducible refine ifb_mk (fun hc => ?_) (fun hc => ?_)) <;> ((try simp only [decide_eq_true_eq, decide_eq_false_iff_not, Bool.not_eq_true', Bool.not_eq_false', Int.not_lt, Int.not_le, ne_eq, Decidable.not_not, beq_iff_eq, List.cons.injEq, and_true] at hc); (first | (exfalso; omega) | exact absurd True.intro hc | conv => whnf))) | ((with_reducible refine And.intro True.intro ?_); conv => whnf) | ((with_reducible refine grd_and ?_); refine And.intro (hi) ?_; conv => whnf) | (refine AppX.gr (n := 1) (L := gR eI q) (len := q.length) rfl rfl (gI_len q) (gI_one q) Nat.zero_lt_one (by omega) ?_; conv => whnf) | ((with_reducible refine And.intro ?hh ?_); (case hh => exact condA); conv => whnf) | fail))
      all_goals first | (exfalso; omega) | exact ⟨(i + 1, 0 :: q), [(3, 5)], by dsimp only; omega, ⟨by dsimp only; omega, e.symm⟩, Back.auto⟩
  · have ei : i = n := by omega
    rw [ei] at j2
    have el : l = q := by rw [hl, j2]
    subst el
    cases l with
    | nil =>
      (conv => whnf); (repeat' (first | ((with_reducible refine ifb_mk (fun hc => ?_) (fun hc => ?_)) <;> ((try simp only [decide_eq_true_eq, decide_eq_false_iff_not, Bool.not_eq_true', Bool.not_eq_false', Int.not_lt, Int.not_le, ne_eq, Decidable.not_not, beq_iff_eq, List.cons.injEq, and_true] at hc); (first | (exfalso; omega) | exact absurd True.intro hc | conv => whnf))) | ((with_reducible refine And.intro True.intro ?_); conv => whnf) | ((with_reducible refine And.intro ?hh ?_); (case hh => exact condA); conv => whnf) | fail))
      exact ⟨[], rfl, rfl, rfl, trivial, trivs⟩
    | cons y l =>
      (conv => whnf); (repeat' (first | ((with_reducible refine ifb_mk (fun hc => ?_) (fun hc => ?_)) <;> ((try simp only [decide_eq_true_eq, decide_eq_false_iff_not, Bool.not_eq_true', Bool.not_eq_false', Int.not_lt, Int.not_le, ne_eq, Decidable.not_not, beq_iff_eq, List.cons.injEq, and_true] at hc); (first | (exfalso; omega) | exact absurd True.intro hc | conv => whnf))) | ((with_reducible refine And.intro True.intro ?_); conv => whnf) | ((with_reducible refine And.intro ?hh ?_); (case hh => exact condA); conv => whnf) | fail))
      exact ⟨[3], rfl, rfl, rfl, ⟨⟨_, rfl, rfl, SubQ.ofL rfl (gR_bare (l := y :: l) eI_bare) (.inr rfl)⟩, ltB_ofLb (gR_bare (l := y :: l) eI_bare), rfl, trivial⟩, trivs⟩
theorem iszL (f : Nat → Int) (n : Nat) : ∀ j x, (szL f n).reverse[j]? = some x → iG f j = eI x := fun j x h => by rw [szL_at f n j x h]; rfl
theorem szF_b {m : Nat} {b : Nat → Int} (hb : ∀ i, i < m → 0 ≤ b i ∧ b i ≤ 255) {mo : Int} (hmo : 0 ≤ mo ∧ mo ≤ 1000) (i : Nat) : 0 ≤ szF m b mo i ∧ szF m b mo i ≤ mo := by
  unfold szF
  by_cases h0 : 0 < m
  · have hbi := hb _ (Nat.mod_lt i h0)
    rw [if_pos h0, wrap8 hbi, Int.tmod_eq_emod_of_nonneg hbi.1]
    have h2 : 0 ≤ b (i % m) % (mo + 1) := Int.emod_nonneg _ (by omega)
    have h3 : b (i % m) % (mo + 1) < mo + 1 := Int.emod_lt_of_pos _ (by omega)
    omega
  · rw [if_neg h0]; omega
theorem sized_ok {W H n : Nat} {d : Nat → Int} (p : Pv W H n d) (h : As.H) (ex : Bool) (m : Nat) (hm : m ≤ 9223372036854775807) (b : Nat → Int) (hb : ∀ i, i < m → 0 ≤ b i ∧ b i ≤ 255) (mo : Int) (hmo : 0 ≤ mo ∧ mo ≤ 1000) :
    CallOk Try.prog 47 [plV W H false n d, .rsl ex 1 m (bG b), .int .i64 mo] h (plV W H false n (szF m b mo)) h := by
  have hc := sized_new h W H n d (by have := p.le; omega) ex m hm b hb mo hmo _ rfl
  have := CallOk.freeze hc (FzL.agg (.cons (.same rfl) (.cons (.same rfl) (.cons (grFz (i := 0) eI_len eI_bare (fun b hb => hb) (iszL _ n)) .nil)))) gNew_wr
  rwa [szL_len] at this
theorem Pv.sized {W H n : Nat} {d : Nat → Int} (p : Pv W H n d) {m : Nat} {b : Nat → Int} (hb : ∀ i, i < m → 0 ≤ b i ∧ b i ≤ 255) {mo : Int} (hmo : 0 ≤ mo ∧ mo ≤ 30) : Pv W H n (szF m b mo) := ⟨p.hw, p.hh, p.hn, fun i _ => by have := szF_b hb (mo := mo) (by omega) i; omega⟩
end Go.Proofs.H

namespace Go.Proofs.H
open Go.As Go.ChangeShapes Go.WideShapes Go.Deep Go.ChangeAt Go.RowKit
set_option maxRecDepth 20000
set_option linter.unusedVariables false

section
variable {H : Type} {enc : TypeId × Value → H} {P : Program} {w : World}
/-- A slice of bytes. -/
theorem slice_readB {t e : TypeId} {fuel : Nat} {v : Value} {d : DataW H} {ps : List MemPlace} {b0 : Nat} (ht : P.underlying t = some (.slice e)) (hu : P.underlying e = some (.int .u8)) (hk : P.cellsOf e = 1)
    (h : DataW.trod enc P w 0 (fun _ => true) true fuel t [v] = some (d, ps)) (hz : w.noneFrozen ps) (hok : Cell.okWide P w .any b0 t v) :
    v = .slice none 0 0 ∨ ∃ (a : Addr) (len cap : Nat) (f : Nat → Int) (c : Array Value) (et : TypeId) (lo hi : Nat), v = .slice (some ⟨a.block, a.off, none⟩) len cap ∧ len ≤ cap ∧ len ≤ 9223372036854775807 ∧ w.heap[a.block]? = some (.cells c et (lo, hi)) ∧
      ∀ i, i < len → c[a.off + i]? = some (.int .u8 (f i)) ∧ (0 ≤ f i ∧ f i ≤ 255) ∧ ¬(lo ≤ a.off + i ∧ a.off + i < hi) := by
  rcases open_slice ht h with ⟨h1, _⟩ | ⟨a, len, cap, m, q, D, Pl, hcs, _, hl, hm, hmm, hx, hel⟩
  · left; cases h1; rfl
  right
  cases hcs
  cases hx
  have hok' : len ≤ cap ∧ (cap : Int) ≤ IntKind.i64.max ∧ w.has P .any b0 a e cap := by
    simp only [Cell.okWide, ht, Cell.ok] at hok
    exact hok
  obtain ⟨_, _, _, hspot, row, cells, hshape, _⟩ := hok'
  obtain ⟨blk, off, spot⟩ := a
  dsimp only at hspot
  subst hspot
  have hm' : m = cap := hmm
  subst hm'
  unfold World.shape? at hshape
  dsimp only at hshape
  split at hshape
  · rename_i c et fz hb
    obtain ⟨lo, hi⟩ := fz
    have key : ∀ i, ∃ x : Int, i < len → c[off + i]? = some (.int .u8 x) ∧ (0 ≤ x ∧ x ≤ 255) ∧ ¬(lo ≤ off + i ∧ off + i < hi) := by
      intro i
      by_cases hi' : i < len
      · obtain ⟨cs', h1, h2⟩ := hel i (by omega)
        obtain ⟨_, hlen, hg⟩ := World.cells?_some h1
        rw [hk] at hlen hg
        have h3 := hg 0 (by omega)
        rw [Go.Deep.add_add, Addr.add_plain, show i * 1 + 0 = i from by omega] at h3
        obtain ⟨x, hcs, hx, hwf⟩ := DataW.trod_int hu h2
        subst hcs
        have h3' : w.cell? ⟨blk, off + i, none⟩ = some (.int .u8 x) := h3
        refine ⟨x, fun _ => ⟨?_, ?_, ?_⟩⟩
        · unfold World.cell? at h3'
          dsimp only at h3'
          rw [hb] at h3'
          exact h3'
        · simp [Lit.wf, IntKind.min, IntKind.max, IntKind.signed, IntKind.bits] at hwf; omega
        · have hmem : MemPlace.cell blk (off + i) ∈ MemPlace.row ⟨blk, off, none⟩ (m * P.cellsOf e) ++ (List.range m).flatMap Pl := by
            refine List.mem_append_left _ (MemPlace.mem_row.2 ⟨i, ?_, rfl⟩)
            rw [hk]
            omega
          have hfz := hz blk (off + i) hmem
          unfold World.frozen? at hfz
          dsimp only at hfz
          rw [hb] at hfz
          dsimp only at hfz
          intro hc
          rw [Bool.and_eq_false_iff] at hfz
          simp only [decide_eq_false_iff_not] at hfz
          omega
      · exact ⟨0, fun h => absurd h hi'⟩
    refine ⟨⟨blk, off, none⟩, len, m, fun i => Classical.choose (key i), c, et, lo, hi, rfl, hl, ?_, hb, fun i hi' => Classical.choose_spec (key i) hi'⟩
    have : m ≤ maxLen := hm
    unfold maxLen at this
    omega
  · cases hshape
end
section
variable {H : Type} {enc : TypeId × Value → H} {W : World}
theorem bG_fr {W : World} {n : Nat} {f : Nat → Int} {blk off cap : Nat} {c : Array Value} {et : TypeId} {lo hi : Nat} (hle : n ≤ cap) (hb : W.heap[blk]? = some (.cells c et (lo, hi)))
    (hc : ∀ i, i < n → c[off + i]? = some (.int .u8 (f i)) ∧ (0 ≤ f i ∧ f i ≤ 255) ∧ ¬(lo ≤ off + i ∧ off + i < hi)) : FR (zW W) (.rsl false 1 n (bG f)) (.slice (some ⟨blk, off, none⟩) n cap) := by
  refine .rsl (zW_at hb) hle (fun h => by cases h) (fun i hi' => rfl) (fun i hi' j v hv => ?_) (fun i hi' j v x hv hx => ?_)
  · obtain ⟨h1, _, h3⟩ := hc i hi'
    match j with
    | 0 =>
      have hv' : V.int .u8 (f i) = v := by simpa [bG] using hv
      subst hv'
      rw [show off + i * 1 + 0 = off + i from by omega]
      exact ⟨rfl, ⟨_, h1⟩, h3⟩
    | j + 1 => simp [bG] at hv
  · obtain ⟨h1, _, h3⟩ := hc i hi'
    match j with
    | 0 =>
      have hv' : V.int .u8 (f i) = v := by simpa [bG] using hv
      subst hv'
      have hx' : c[off + i]? = some x := by rw [show off + i = off + i * 1 + 0 from by omega]; exact hx
      rw [h1] at hx'
      cases hx'
      exact .int _ _
    | j + 1 => simp [bG] at hv
theorem b_read {fuel : Nat} {v : Value} {d : DataW H} {ps : List MemPlace} {b0 : Nat} (h : DataW.trod enc Try.prog W 0 (fun _ => true) true fuel 48 [v] = some (d, ps)) (hz : W.noneFrozen ps) (hok : Cell.okWide Try.prog W .any b0 48 v) :
    ∃ (n : Nat) (a : Nat → Int), n ≤ 9223372036854775807 ∧ (∀ i, i < n → 0 ≤ a i ∧ a i ≤ 255) ∧ FR (zW W) (.rsl false 1 n (bG a)) v := by
  rcases slice_readB Try.underlying48 Try.underlying5 (by kernel_rfl) h hz hok with rfl | ⟨ad, len, cap, f, c, et, flo, fhi, rfl, hlc, hlm, hb, hcs⟩
  · exact ⟨0, fun _ => 0, by simp, fun i hi => absurd hi (Nat.not_lt_zero i), .rsl0⟩
  · exact ⟨len, f, hlm, fun i hi => (hcs i hi).2.1, bG_fr hlc hb hcs⟩
theorem bytes_read {v : Value} {d : DataW H} {ps : List MemPlace} {b0 : Nat} (hok : Value.okWide Try.prog W .any b0 48 v) (hd : DataW.Trod enc Try.prog W 0 (fun _ => true) true 48 v d ps) (hz : W.noneFrozen ps) :
    ∃ (n : Nat) (a : Nat → Int), n ≤ 9223372036854775807 ∧ (∀ i, i < n → 0 ≤ a i ∧ a i ≤ 255) ∧ VR (mW W) (.rsl false 1 n (bG a)) v := by
  obtain ⟨fuel, hf⟩ := hd
  have hc : v.cells.toList = [v] ∧ Cell.okWide Try.prog W .any b0 48 v := by
    simp only [Value.okWide, Try.underlying48] at hok
    cases v <;> first | exact ⟨rfl, hok⟩ | (simp [Cell.okWide, Cell.ok, Try.underlying48] at hok)
  have hf' : DataW.trod enc Try.prog W 0 (fun _ => true) true fuel 48 [v] = some (d, ps) := by rw [← hc.1]; exact hf
  obtain ⟨n, a, h1, h2, h3⟩ := b_read hf' hz hc.2
  exact ⟨n, a, h1, h2, h3.vr⟩
end
end Go.Proofs.H

namespace Go.Proofs.H
open Go.As
set_option maxRecDepth 20000
set_option linter.unusedVariables false
set_option linter.unusedSimpArgs false

end Go.Proofs.H

