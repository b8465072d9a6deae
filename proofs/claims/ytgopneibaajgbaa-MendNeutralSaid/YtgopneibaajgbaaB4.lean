/- What the functions answer that the laws call, one after another (B4). -/
import Derived.Test.YtgopneibaajgbaaAs6
import Derived.Test.YtgopneibaajgbaaB3

set_option linter.unusedVariables false
namespace Go.Proofs.H
open Go.As
set_option maxRecDepth 20000
set_option linter.unusedVariables false
set_option linter.unusedSimpArgs false

/-! ### Answers that read alike -/

theorem rsl_congr {fz : FZ} {ex : Bool} {sz n : Nat} {g g' : Nat → List V} (h : ∀ i, i < n → g i = g' i) {x : Value} (hx : FR fz (.rsl ex sz n g) x) : FR fz (.rsl ex sz n g') x := by
  cases hx with
  | rsl hf hn he hl ho hx => exact .rsl hf hn he (fun i hi => by rw [← h i hi]; exact hl i hi) (fun i hi k v hv => by rw [← h i hi] at hv; exact ho i hi k v hv) (fun i hi k v x hv hx' => by rw [← h i hi] at hv; exact hx i hi k v x hv hx')
  | rsl0 => exact .rsl0
/-- A value that says the same. -/
inductive Lk : V → V → Prop
  | same (v : V) : Lk v v
  | nil {ex : Bool} {sz : Nat} {g : Nat → List V} : Lk .nils (.rsl ex sz 0 g)
  | rsl {ex : Bool} {sz n : Nat} {g g' : Nat → List V} (h : ∀ i, i < n → g i = g' i) : Lk (.rsl ex sz n g) (.rsl ex sz n g')
  | tup {l l' : List V} (hl : l.length = l'.length) (h : ∀ (i : Nat) (v v' : V), l[i]? = some v → l'[i]? = some v' → Lk v v') : Lk (.tup l) (.tup l')
theorem Lk.vr {v v' : V} (h : Lk v v') : ∀ {m : M} {x : Value}, VR m v x → VR m v' x := by
  induction h with
  | same v => exact fun h => h
  | nil => intro m x hx; cases hx; exact .rsl .rsl0
  | rsl h =>
    intro m x hx
    cases hx with
    | rsl hx => exact .rsl (rsl_congr h hx)
  | tup hl _ ih =>
    intro m x hx
    cases hx with
    | tup l hc =>
      refine .tup (by rw [← hl]; exact l) (fun i v x hv hx => ?_)
      have hi := (List.getElem?_eq_some_iff.1 hv).1
      exact ih i _ v (List.getElem?_eq_getElem (by rw [hl]; exact hi)) hv (hc i _ x (List.getElem?_eq_getElem (by rw [hl]; exact hi)) hx)
inductive LkL : List V → List V → Prop
  | nil : LkL [] []
  | cons {v v' : V} {l l' : List V} (h : Lk v v') (hs : LkL l l') : LkL (v :: l) (v' :: l')
theorem LkL.all {l l' : List V} (h : LkL l l') : l.length = l'.length ∧ ∀ (i : Nat) (v v' : V), l[i]? = some v → l'[i]? = some v' → Lk v v' := by
  induction h with
  | nil => exact ⟨rfl, fun i v v' h => by simp at h⟩
  | cons h _ ih =>
    refine ⟨by simp [ih.1], fun i v v' hv hv' => ?_⟩
    cases i with
    | zero => simp at hv hv'; subst hv; subst hv'; exact h
    | succ i => exact ih.2 i v v' (by simpa using hv) (by simpa using hv')
theorem LkL.tup {l l' : List V} (h : LkL l l') : Lk (.tup l) (.tup l') := .tup h.all.1 h.all.2
theorem Lk.ints {ex : Bool} {n : Nat} {a b : Nat → Int} (h : ∀ i, i < n → a i = b i) : Lk (.rsl ex 1 n (iG a)) (.rsl ex 1 n (iG b)) := .rsl fun i hi => by unfold iG; rw [h i hi]
theorem CallOk.like {f : FuncId} {args : List V} {h h' : As.H} {v v' : V} (hc : CallOk Try.prog f args h v h') (hl : Lk v v') : CallOk Try.prog f args h v' h' := by
  intro base m w xs hr hB hvs
  obtain ⟨h1, h2⟩ := hc base m w xs hr hB hvs
  refine ⟨h1, CallsIn.mono h2 ?_⟩
  rintro e w' ⟨m', x, rfl, hs, hv⟩
  exact ⟨m', x, rfl, hs, hl.vr hv⟩

/-! ### A plate hammered flat -/

section
variable {n : Nat} {A : Nat → Nat → Int} {w : Nat → Int}
theorem pt_congr {a b : Nat → Int} (h : ∀ k, k < n → a k = b k) : pt n w a = pt n w b := sm_congr fun k hk => by rw [h k hk]
theorem fin_congr (g : Gr n A w) {a b : Nat → Int} (h : ∀ k, k < n → a k = b k) (h0 : ∀ k, k < n → 0 ≤ b k) : ∀ k, k < n → (fin n A w a).1 k = (fin n A w b).1 k ∧ (fin n A w a).2 k = (fin n A w b).2 k := by
  have h0' : ∀ k, k < n → 0 ≤ a k := fun k hk => by rw [h k hk]; exact h0 k hk
  have m := fin_mid g h0'
  have f := fin_flat g h0'
  refine Mid.uniq g h0 (s := fin n A w a) ⟨m.nn, fun k hk => by rw [← h k hk]; exact m.eq k hk, m.vn, fun k hk => by rw [← pt_congr h]; exact m.pv k hk, fun v hv hf k hk => m.least v hv (fun k hk => by rw [h k hk]; exact hf k hk) k hk⟩ f
end
/-- What is left of dents, and the blows. -/
def xF (W H : Nat) (d : Nat → Int) : Nat → Int := (fin (W * H) (adI W H) (wgt W) d).1
def uF (W H : Nat) (d : Nat → Int) : Nat → Int := (fin (W * H) (adI W H) (wgt W) d).2
theorem lay_at {d : Nat → Int} {n k : Nat} (hk : k < n) : layA z0 d n k = d k := by unfold layA z0; rw [if_pos hk]; omega
theorem lay_map {W n : Nat} (d : Nat → Int) : MapOk W n (layA z0 d n) (layE W z0 d [] 0 n).1 := layE_ok (MapOk.start fun i _ => by unfold z0; omega) n (Nat.le_refl _)
theorem bc_ga {W H : Int} {D : V} {a u : Nat → Int} {mb : Nat} : getN (BC W H D a u mb) 36 3 = some (aV a) := getN_arr fun k hk => bc_a rfl hk
theorem bc_gu {W H : Int} {D : V} {a u : Nat → Int} {mb : Nat} : getN (BC W H D a u mb) 36 39 = some (aV u) := getN_arr fun k hk => bc_u rfl hk
set_option maxHeartbeats 8000000 in
theorem flatten_ok (h : As.H) (W H : Nat) (hW : 1 ≤ W ∧ W ≤ 6) (hH : 1 ≤ H ∧ H ≤ 6) (ex : Bool) (k : Nat) (d : Nat → Int) (hk : k = W * H) (hd : ∀ i, i < k → 0 ≤ d i ∧ d i ≤ 30) :
    CallOk Try.prog 27 [plV W H ex k d] h (.tup [.rsl true 1 (W * H) (iG (xF W H d)), .rsl true 1 (W * H) (iG (uF W H d)), .int .i64 0]) h := by
  have hwh := wh_le hW hH
  have g := gr_ok hW hH
  have hd0 : ∀ i, i < W * H → 0 ≤ layA z0 d (W * H) i ∧ layA z0 d (W * H) i ≤ 30 := fun i hi => by rw [lay_at hi]; exact hd i (by omega)
  refine CallOk.like (v := .tup [.rsl true 1 (W * H) (iG (fin (W * H) (adI W H) (wgt W) (layA z0 d (W * H))).1), .rsl true 1 (W * H) (iG fun k => z0 k + (fin (W * H) (adI W H) (wgt W) (layA z0 d (W * H))).2 k), .int .i64 0]) ?_ (LkL.tup (.cons (.ints fun i hi => ?_) (.cons (.ints fun i hi => ?_) (.cons (.same _) .nil))))
  rotate_left
  · exact (fin_congr g (fun j hj => lay_at hj) (fun j hj => (hd j (by omega)).1) i hi).1
  · show 0 + _ = _
    rw [Int.zero_add]
    exact (fin_congr g (fun j hj => lay_at hj) (fun j hj => (hd j (by omega)).1) i hi).2
  have kB : ∀ (h' : As.H) (s mb : Nat), s = h'.n + 0 → mb = h'.n + 1 → _ := fun h' s mb e1 e2 => by
    have := blockFor_new h' W H hW hH ex k d hk hd
    rw [← e1, ← e2] at this
    exact this
  have kH := fun (h' : As.H) (cs : Tr V) hs hcs he => hammer_ok h' 1 2 W H hW hH (.rsl ex 1 k (iG d)) rfl (layA z0 d (W * H)) z0 (layE W z0 d [] 0 (W * H)).1 (layE W z0 d [] 0 (W * H)).2 (lay_map (W := W) d) (fun j hj => (hd0 j hj).1) (fun j hj => by have := hd0 j hj; omega) (fun j _ => by unfold z0; omega) (cs := cs) hs hcs he
  have kL := fun (h' : As.H) a (c : Tr V) hs h0 h1 => list_ok h' 1 W H hW hH a (c := c) (w := true) (g := none) hs h0 h1
  generalize layE W z0 d [] 0 (W * H) = X at *
  generalize (finE W H (layA z0 d (W * H)) X.1 X.2).2.2 = c' at *
  generalize layA z0 d (W * H) = a0 at *
  generalize (fin (W * H) (adI W H) (wgt W) a0).1 = x at *
  generalize (fun k => z0 k + (fin (W * H) (adI W H) (wgt W) a0).2 k) = v at *
  obtain ⟨B1, hB1⟩ : ∃ B1, BC (W : Int) H (.rsl ex 1 k (iG d)) a0 z0 2 = B1 := ⟨_, rfl⟩
  obtain ⟨B2, hB2⟩ : ∃ B2, BC (W : Int) H (.rsl ex 1 k (iG d)) x v 2 = B2 := ⟨_, rfl⟩
  have g0 : B2.get 0 = some (.int .i64 W) := by rw [← hB2]; exact bc_0
  have g1 : B2.get 1 = some (.int .i64 H) := by rw [← hB2]; exact bc_1
  have ga : getN B2 36 3 = some (aV x) := by rw [← hB2]; exact bc_ga
  have gu : getN B2 36 39 = some (aV v) := by rw [← hB2]; exact bc_gu
  have kB := fun (h' : As.H) (e : 1 = h'.n + 0) (e2 : 2 = h'.n + 1) => kB h' 1 2 e e2
  unfold BB at kB kH
  rw [hB1] at kB
  rw [hB2] at kH
  have kH := fun (h' : As.H) (hs : h'.get 1 = some (.cells B1 true none)) he => kH h' B1 hs (fun j => by rw [hB1]) he
  have kL := fun (h' : As.H) a (hs : h'.get 1 = some (.cells B2 true none)) => kL h' a B2 hs g0 g1
  refine CallOk.run0 Try.func27 rfl rfl rfl rfl rfl (WpR.of_vc ?_)
  (conv => whnf); (repeat' (first | ((with_reducible refine ifb_mk (fun hc => ?_) (fun hc => ?_)) <;> ((try simp only [decide_eq_true_eq, decide_eq_false_iff_not, Bool.not_eq_true', Bool.not_eq_false', Int.not_lt, Int.not_le, ne_eq, Decidable.not_not, beq_iff_eq, List.cons.injEq, and_true] at hc); (first | (exfalso; omega) | exact absurd True.intro hc | conv => whnf))) | ((with_reducible refine And.intro True.intro ?_); conv => whnf) | ((with_reducible refine CallX.all ?_); refine CallW.of_ok (kB _ (by rfl) (by rfl)) ?_; conv => whnf) | ((with_reducible refine CallX.all ?_); refine CallW.of_ok (kH _ rfl rfl) ?_; conv => whnf) | ((with_reducible refine WpR.draw (id := 5) mixed [0, 1, 2, 3, 4, 6, 7, 8, 9, 10, 5, 11, 12, 13, 14] [0, 0, 2, 6, 14, 31, 0, 0, 128, 384, 896, 2047, 4095, 8191, 16383] ?hh ?_); (case hh => kernel_rfl); conv => whnf) | ((with_reducible refine grd_ex ?_); refine ex_ok (kL _ _ rfl) ?_; conv => whnf) | ((with_reducible refine grd_getN ?_); refine som_mk (a := ?_) ?hh ?_; (case hh => exact ga); conv => whnf) | ((with_reducible refine grd_getN ?_); refine som_mk (a := ?_) ?hh ?_; (case hh => exact gu); conv => whnf) | ((with_reducible refine And.intro ?hh ?_); (case hh => exact condA); conv => whnf) | fail))
  (refine ⟨[], ?_, rfl, rfl, trivial, trivs⟩; simp only [renV, renL]; (first | done | rfl | (simp; done) | (simp; omega) | grind))
end Go.Proofs.H

namespace Go.Proofs.H
open Go.As
set_option maxRecDepth 20000
set_option linter.unusedVariables false
set_option linter.unusedSimpArgs false

end Go.Proofs.H

namespace Go.Proofs.H
open Go.As
set_option maxRecDepth 20000
set_option linter.unusedVariables false
set_option linter.unusedSimpArgs false

end Go.Proofs.H

namespace Go.Proofs.H
open Go.As
set_option maxRecDepth 20000
set_option linter.unusedVariables false
set_option linter.unusedSimpArgs false

end Go.Proofs.H

namespace Go.Proofs.H
open Go.As
set_option maxRecDepth 20000
set_option linter.unusedVariables false
set_option linter.unusedSimpArgs false

/-! ### Any blows -/

theorem isFlat_ok (h : As.H) (s mb W H : Nat) (D : V) (hD : bare0 D = true) (a u : Nat → Int) (E : List En) (c : Nat) (hE : E.length ≤ 1000) {cs : Tr V} (hs : h.get s = some (.cells cs true none)) (hcs : ∀ k, cs.get k = (BC W H D a u mb).get k) (he : h.get mb = some (.map (encM E) c)) :
    CallOk Try.prog 63 [.ptr s 0] h (.bool (decide (E.length = 0))) h := by
  refine blk_read hs hcs he hD (argsC := [.ptr 0 0]) rfl rfl rfl (CallW.inline (f := 63) Try.func63 rfl rfl (Nat.le_of_ble_eq_true rfl) (WpR.of_vc ?_))
  have g75 : (BC W H D a u 1).get 75 = some (.map 1) := bc_75
  have hself : SubQ id (BB W H D a u 1) (BB W H D a u 1) := bb_sub id hD
  generalize hB2 : BB W H D a u 1 = B2 at hself ⊢
  unfold BB at hB2
  subst hB2
  generalize BC W H D a u 1 = B at *
  have e : decide (((encM E).length : Int) = 0) = decide (E.length = 0) := by rw [encM_len]; exact decide_eq_decide.2 ⟨fun h => by omega, fun h => by omega⟩
  have hl := encM_len E
  rw [← e]
  (conv => whnf); (repeat' (first | ((with_reducible refine ifb_mk (fun hc => ?_) (fun hc => ?_)) <;> ((try simp only [decide_eq_true_eq, decide_eq_false_iff_not, Bool.not_eq_true', Bool.not_eq_false', Int.not_lt, Int.not_le, ne_eq, Decidable.not_not, beq_iff_eq, List.cons.injEq, and_true] at hc); (first | (exfalso; omega) | exact absurd True.intro hc | conv => whnf))) | ((with_reducible refine And.intro True.intro ?_); conv => whnf) | (refine som_mk (g75) ?_; conv => whnf) | ((with_reducible refine And.intro ?hh ?_); (case hh => exact condA); conv => whnf) | fail))
  exact ⟨rfl, ⟨_, rfl, hself⟩, ⟨_, rfl, encM_sub⟩, trivial⟩
def hitsQ (W H : Nat) (a : Nat → Int) (E : List En) (c : Nat) (bl : Nat → Int) : Nat → S4
  | 0 => ((a, z0), (E, c))
  | k + 1 => ((hitA (adI W H) (hitsQ W H a E c bl k).1.1 k (bl k), rs (hitsQ W H a E c bl k).1.2 k (bl k)), hitE W H (hitsQ W H a E c bl k).1.1 (hitsQ W H a E c bl k).2.1 (hitsQ W H a E c bl k).2.2 k (bl k) 4)
section
variable {W H : Nat} {a : Nat → Int} {E : List En} {c : Nat} {bl : Nat → Int}
theorem hitsQ_a : ∀ k, k ≤ W * H → ∀ j, (hitsQ W H a E c bl k).1.1 j = a j - dl (W * H) (adI W H) (fun i => if i < k then bl i else 0) j
  | 0, _, j => by
    show a j = _
    rw [show (fun i => if i < 0 then bl i else 0) = fun _ => 0 from funext fun i => if_neg (by omega), dl_0]; omega
  | k + 1, hk, j => by
    show hitA _ _ k (bl k) j = _
    rw [hit_dl _ (show k < W * H by omega), hitsQ_a k (by omega) j, Int.sub_sub, ← dl_add]
    congr 2
    funext i
    unfold ee
    by_cases h : i = k
    · subst h; rw [if_neg (by omega), if_pos rfl, if_pos (by omega)]; omega
    · rw [if_neg h]
      by_cases h2 : i < k
      · rw [if_pos h2, if_pos (by omega)]; omega
      · rw [if_neg h2, if_neg (by omega)]; omega
theorem hitsQ_rng (hb : ∀ k, k < W * H → 0 ≤ bl k ∧ bl k ≤ 1000000) (ha : ∀ k, k < W * H → 0 ≤ a k ∧ a k ≤ 30) : ∀ k : Nat, k ≤ W * H → Sml (W * H) (30 + 8000000 * k) (hitsQ W H a E c bl k).1.1
  | 0, _ => fun j hj => by have := ha j hj; show _ ≤ a j ∧ a j ≤ _; omega
  | k + 1, hk => fun j hj => by
    show _ ≤ hitA _ _ k (bl k) j ∧ hitA _ _ k (bl k) j ≤ _
    rw [← hitJ_4]
    have h1 := hb k (by omega)
    have := hitJ_rng (i := k) (N := bl k) (C := 1000000) (hitsQ_rng hb ha k (by omega)) (by omega) hj (Nat.le_refl 4)
    omega
end
end Go.Proofs.H

