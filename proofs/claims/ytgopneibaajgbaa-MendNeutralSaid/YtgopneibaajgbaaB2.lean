/- What the functions answer that the laws call, one after another (B2). -/
import Derived.Test.YtgopneibaajgbaaAs6
import Derived.Test.YtgopneibaajgbaaB1

set_option linter.unusedVariables false
namespace Go.Proofs.H
open Go.As
set_option maxRecDepth 20000
set_option linter.unusedVariables false
set_option linter.unusedSimpArgs false

/-! ### A place stands up by more -/

theorem idx_eq (W i : Nat) : i / W * W + i % W = i := by rw [Nat.mul_comm]; exact Nat.div_add_mod i W
theorem pos_lt {W H i : Nat} (hW : 1 ≤ W ∧ W ≤ 6) (hH : 1 ≤ H ∧ H ≤ 6) (hi : i < W * H) : i < 36 ∧ i % W < 36 ∧ i / W < 36 ∧ i % W < W ∧ i / W < H := by
  have hwh := wh_le hW hH
  have h1 : i % W ≤ i := Nat.mod_le _ _
  have h2 : i / W ≤ i := Nat.div_le_self _ _
  have h3 : i % W < W := Nat.mod_lt _ (by omega)
  have h4 : i / W < H := Nat.div_lt_of_lt_mul hi
  omega
theorem encM_at {E : List En} {j : Nat} {q : En} (h : E[j]? = some q) : (encM E)[j]? = some (key2 q.1, .bool true, q.2) := by unfold encM; rw [List.getElem?_map, h]; rfl
theorem encM_set {E : List En} {j : Nat} {q : En} (h : E[j]? = some q) : (encM E).set j (key2 q.1, .bool true, q.2) = encM E := by
  refine List.ext_getElem? fun k => ?_
  rw [List.getElem?_set]
  by_cases he : j = k
  · subst he
    rw [if_pos rfl, encM_at h]
    have := (List.getElem?_eq_some_iff.1 (encM_at h)).1
    rw [if_pos this]
  · rw [if_neg he]
theorem encM_erase (E : List En) (j : Nat) : (encM E).eraseIdx j = encM (E.eraseIdx j) := (map_eraseIdx _ _ _).symm
theorem encM_snoc (E : List En) (q : En) : encM E ++ [(key2 q.1, .bool true, q.2)] = encM (E ++ [q]) := by unfold encM; rw [List.map_append]; rfl
theorem encM_len (E : List En) : (encM E).length = E.length := by unfold encM; simp
theorem same_key (p : P2) : Instr.sameBits 10000 (key2 p) (key2 p) = true := by
  simp [Instr.sameBits, key2, intsV]
set_option maxHeartbeats 4000000 in
theorem raise_w (W H i : Nat) (hW : 1 ≤ W ∧ W ≤ 6) (hH : 1 ≤ H ∧ H ≤ 6) (hi : i < W * H) (D : V) (hD : bare0 D = true) (a u : Nat → Int) (E : List En) (c : Nat) (m : Int) (hm : InR (a i + m)) :
    CallW Try.prog [] 76 [.ptr 0 0, spV (i % W : Nat) (i / W : Nat), .int .i64 m] (hp [BB W H D a u 1, .map (encM E) c]) (LowK (.tup []) [BB W H D (rs a i m) u 1, .map (encM (rzE E c (pk W i) (a i + m)).1) (rzE E c (pk W i) (a i + m)).2]) := by
  refine CallW.inline (f := 76) Try.func76 rfl rfl (Nat.le_of_ble_eq_true rfl) (WpR.of_vc ?_)
  obtain ⟨p1, p2, p3, _, _⟩ := pos_lt hW hH hi
  have kI := fun h' (hs : h'.get 0 = some (BB W H D a u 1)) => index_ok h' 0 W H (i % W) (i / W) p2 p3 hW hs bc_0 bc_1
  rw [idx_eq] at kI
  have g75 : (BC W H D a u 1).get 75 = some (.map 1) := bc_75
  have ga : (BC W H D a u 1).get (3 + (i : Int).toNat * 1) = some (.int .i64 (a i)) := bc_a (by omega) p1
  have gp : putN [V.int .i64 (a i + m)] (BC W H D a u 1) (3 + (i : Int).toNat * 1) = some ((BC W H D a u 1).set (3 + (i : Int).toNat * 1) (.int .i64 (a i + m))) := by rw [putN_cons, ga]; rfl
  have ga2 : ((BC W H D a u 1).set (3 + (i : Int).toNat * 1) (.int .i64 (a i + m))).get (3 + (i : Int).toNat * 1) = some (.int .i64 (a i + m)) := by rw [Tr.get_set, if_pos rfl]
  have g752 : ((BC W H D a u 1).set (3 + (i : Int).toNat * 1) (.int .i64 (a i + m))).get 75 = some (.map 1) := by rw [Tr.get_set, if_neg (by omega)]; exact bc_75
  have hend : SubQ id (BB W H D (rs a i m) u 1) (.cells ((BC W H D a u 1).set (3 + (i : Int).toNat * 1) (.int .i64 (a i + m))) true none) := bb_same hD rfl fun k => by
    rw [bc_set (i := i) (by omega) p1]
    have : (fun j => if j = i then a i + m else a j) = rs a i m := by funext j; unfold rs; by_cases h : j = i; (subst h; simp); (rw [if_neg h, if_neg h])
    rw [this]
  unfold BB at kI
  generalize hB2 : BB W H D (rs a i m) u 1 = B2 at hend ⊢
  unfold BB
  generalize BC W H D a u 1 = B at *
  have hf := fun em => findE em E (pk W i)
  have hsame := same_key (pk W i)
  unfold rzE
  cases hfi : (E.map (·.1)).findIdx? (fun x => decide (pk W i = x)) with
  | some j =>
    simp only [hfi] at hf
    dsimp only
    obtain ⟨hj, hp, _⟩ := List.findIdx?_eq_some_iff_getElem.1 hfi
    have hp := of_decide_eq_true hp
    rw [List.length_map] at hj
    rw [List.getElem_map] at hp
    have he := encM_at (List.getElem?_eq_getElem hj)
    have hes := encM_set (List.getElem?_eq_getElem hj)
    rw [← hp] at he hes
    by_cases hv : 3 < a i + m
    · rw [if_pos hv]
      have hq : SubQ id (.map (encM E) c) (.map ((encM E).set j (key2 (pk W i), .bool true, E[j].2)) c) := by rw [hes]; exact encM_sub
      (conv => whnf); (repeat' (first | ((with_reducible refine ifb_mk (fun hc => ?_) (fun hc => ?_)) <;> ((try simp only [decide_eq_true_eq, decide_eq_false_iff_not, Bool.not_eq_true', Bool.not_eq_false', Int.not_lt, Int.not_le, ne_eq, Decidable.not_not, beq_iff_eq, List.cons.injEq, and_true] at hc); (first | (exfalso; omega) | exact absurd True.intro hc | conv => whnf))) | ((with_reducible refine And.intro True.intro ?_); conv => whnf) | ((with_reducible refine CallX.all ?_); refine CallW.of_ok (kI _ rfl) ?_; conv => whnf) | ((with_reducible refine WpR.draw (id := 2) mixed [0, 1, 2, 3, 4, 5, 6, 7, 8, 9, 10, 11] [0, 0, 1, 5, 15, 31, 0, 127, 1, 257, 1023, 2047] ?hh ?_); (case hh => kernel_rfl); conv => whnf) | ((with_reducible refine WpR.draw (id := 4) mixed [0, 1, 2, 3, 4, 5] [0, 1, 3, 7, 0, 31] ?hh ?_); (case hh => kernel_rfl); conv => whnf) | ((with_reducible refine WpR.draw (id := 5) mixed [0, 1, 2, 3, 4, 5] [0, 1, 3, 7, 0, 31] ?hh ?_); (case hh => kernel_rfl); conv => whnf) | ((with_reducible refine grd_and ?_); refine And.intro (hm) ?_; conv => whnf) | ((with_reducible refine grd_and ?_); refine And.intro (hsame) ?_; conv => whnf) | (refine som_mk (g75) ?_; conv => whnf) | (refine som_mk (g752) ?_; conv => whnf) | (refine som_mk (ga2) ?_; conv => whnf) | (refine som_mk (ga) ?_; conv => whnf) | ((with_reducible refine grd_putN ?_); refine som_mk (a := ?_) ?hh ?_; (case hh => exact gp); conv => whnf) | (refine som_mk (hf _) ?_; conv => whnf) | (refine som_mk (he) ?_; conv => whnf) | ((with_reducible refine And.intro ?hh ?_); (case hh => exact condA); conv => whnf) | fail))
      exact ⟨rfl, ⟨_, rfl, hend⟩, ⟨_, rfl, hq⟩, trivial⟩
    · rw [if_neg hv]
      have hq : SubQ id (.map (encM (E.eraseIdx j)) c) (.map ((encM E).eraseIdx j) c) := by rw [encM_erase]; exact encM_sub
      (conv => whnf); (repeat' (first | ((with_reducible refine ifb_mk (fun hc => ?_) (fun hc => ?_)) <;> ((try simp only [decide_eq_true_eq, decide_eq_false_iff_not, Bool.not_eq_true', Bool.not_eq_false', Int.not_lt, Int.not_le, ne_eq, Decidable.not_not, beq_iff_eq, List.cons.injEq, and_true] at hc); (first | (exfalso; omega) | exact absurd True.intro hc | conv => whnf))) | ((with_reducible refine And.intro True.intro ?_); conv => whnf) | ((with_reducible refine CallX.all ?_); refine CallW.of_ok (kI _ rfl) ?_; conv => whnf) | ((with_reducible refine WpR.draw (id := 2) mixed [0, 1, 2, 3, 4, 5, 6, 7, 8, 9, 10, 11] [0, 0, 1, 5, 15, 31, 0, 127, 1, 257, 1023, 2047] ?hh ?_); (case hh => kernel_rfl); conv => whnf) | ((with_reducible refine WpR.draw (id := 4) mixed [0, 1, 2, 3, 4, 5] [0, 1, 3, 7, 0, 31] ?hh ?_); (case hh => kernel_rfl); conv => whnf) | ((with_reducible refine WpR.draw (id := 5) mixed [0, 1, 2, 3, 4, 5] [0, 1, 3, 7, 0, 31] ?hh ?_); (case hh => kernel_rfl); conv => whnf) | ((with_reducible refine grd_and ?_); refine And.intro (hm) ?_; conv => whnf) | ((with_reducible refine grd_and ?_); refine And.intro (hsame) ?_; conv => whnf) | (refine som_mk (g75) ?_; conv => whnf) | (refine som_mk (g752) ?_; conv => whnf) | (refine som_mk (ga2) ?_; conv => whnf) | (refine som_mk (ga) ?_; conv => whnf) | ((with_reducible refine grd_putN ?_); refine som_mk (a := ?_) ?hh ?_; (case hh => exact gp); conv => whnf) | (refine som_mk (hf _) ?_; conv => whnf) | (refine som_mk (he) ?_; conv => whnf) | ((with_reducible refine And.intro ?hh ?_); (case hh => exact condA); conv => whnf) | fail))
      exact ⟨rfl, ⟨_, rfl, hend⟩, ⟨_, rfl, hq⟩, trivial⟩
  | none =>
    simp only [hfi] at hf
    dsimp only
    by_cases hv : 3 < a i + m
    · rw [if_pos hv]
      have hq : SubQ id (.map (encM (E ++ [(pk W i, c)])) (c + 1)) (.map (encM E ++ [(key2 (pk W i), .bool true, c)]) (c + 1)) := by
        have e : encM E ++ [(key2 (pk W i), V.bool true, c)] = encM (E ++ [(pk W i, c)]) := encM_snoc E (pk W i, c)
        rw [e]; exact encM_sub
      (conv => whnf); (repeat' (first | ((with_reducible refine ifb_mk (fun hc => ?_) (fun hc => ?_)) <;> ((try simp only [decide_eq_true_eq, decide_eq_false_iff_not, Bool.not_eq_true', Bool.not_eq_false', Int.not_lt, Int.not_le, ne_eq, Decidable.not_not, beq_iff_eq, List.cons.injEq, and_true] at hc); (first | (exfalso; omega) | exact absurd True.intro hc | conv => whnf))) | ((with_reducible refine And.intro True.intro ?_); conv => whnf) | ((with_reducible refine CallX.all ?_); refine CallW.of_ok (kI _ rfl) ?_; conv => whnf) | ((with_reducible refine WpR.draw (id := 2) mixed [0, 1, 2, 3, 4, 5, 6, 7, 8, 9, 10, 11] [0, 0, 1, 5, 15, 31, 0, 127, 1, 257, 1023, 2047] ?hh ?_); (case hh => kernel_rfl); conv => whnf) | ((with_reducible refine WpR.draw (id := 4) mixed [0, 1, 2, 3, 4, 5] [0, 1, 3, 7, 0, 31] ?hh ?_); (case hh => kernel_rfl); conv => whnf) | ((with_reducible refine WpR.draw (id := 5) mixed [0, 1, 2, 3, 4, 5] [0, 1, 3, 7, 0, 31] ?hh ?_); (case hh => kernel_rfl); conv => whnf) | ((with_reducible refine grd_and ?_); refine And.intro (hm) ?_; conv => whnf) | ((with_reducible refine grd_and ?_); refine And.intro (hsame) ?_; conv => whnf) | (refine som_mk (g75) ?_; conv => whnf) | (refine som_mk (g752) ?_; conv => whnf) | (refine som_mk (ga2) ?_; conv => whnf) | (refine som_mk (ga) ?_; conv => whnf) | ((with_reducible refine grd_putN ?_); refine som_mk (a := ?_) ?hh ?_; (case hh => exact gp); conv => whnf) | (refine som_mk (hf _) ?_; conv => whnf) | (refine som_mk (he) ?_; conv => whnf) | ((with_reducible refine And.intro ?hh ?_); (case hh => exact condA); conv => whnf) | fail))
      exact ⟨rfl, ⟨_, rfl, hend⟩, ⟨_, rfl, hq⟩, trivial⟩
    · rw [if_neg hv]
      (conv => whnf); (repeat' (first | ((with_reducible refine ifb_mk (fun hc => ?_) (fun hc => ?_)) <;> ((try simp only [decide_eq_true_eq, decide_eq_false_iff_not, Bool.not_eq_true', Bool.not_eq_false', Int.not_lt, Int.not_le, ne_eq, Decidable.not_not, beq_iff_eq, List.cons.injEq, and_true] at hc); (first | (exfalso; omega) | exact absurd True.intro hc | conv => whnf))) | ((with_reducible refine And.intro True.intro ?_); conv => whnf) | ((with_reducible refine CallX.all ?_); refine CallW.of_ok (kI _ rfl) ?_; conv => whnf) | ((with_reducible refine WpR.draw (id := 2) mixed [0, 1, 2, 3, 4, 5, 6, 7, 8, 9, 10, 11] [0, 0, 1, 5, 15, 31, 0, 127, 1, 257, 1023, 2047] ?hh ?_); (case hh => kernel_rfl); conv => whnf) | ((with_reducible refine WpR.draw (id := 4) mixed [0, 1, 2, 3, 4, 5] [0, 1, 3, 7, 0, 31] ?hh ?_); (case hh => kernel_rfl); conv => whnf) | ((with_reducible refine WpR.draw (id := 5) mixed [0, 1, 2, 3, 4, 5] [0, 1, 3, 7, 0, 31] ?hh ?_); (case hh => kernel_rfl); conv => whnf) | ((with_reducible refine grd_and ?_); refine And.intro (hm) ?_; conv => whnf) | ((with_reducible refine grd_and ?_); refine And.intro (hsame) ?_; conv => whnf) | (refine som_mk (g75) ?_; conv => whnf) | (refine som_mk (g752) ?_; conv => whnf) | (refine som_mk (ga2) ?_; conv => whnf) | (refine som_mk (ga) ?_; conv => whnf) | ((with_reducible refine grd_putN ?_); refine som_mk (a := ?_) ?hh ?_; (case hh => exact gp); conv => whnf) | (refine som_mk (hf _) ?_; conv => whnf) | (refine som_mk (he) ?_; conv => whnf) | ((with_reducible refine And.intro ?hh ?_); (case hh => exact condA); conv => whnf) | fail))
      exact ⟨rfl, ⟨_, rfl, hend⟩, ⟨_, rfl, encM_sub⟩, trivial⟩

theorem raise_ok (h : As.H) (s mb W H i : Nat) (hW : 1 ≤ W ∧ W ≤ 6) (hH : 1 ≤ H ∧ H ≤ 6) (hi : i < W * H) (D : V) (hD : bare0 D = true) (a u : Nat → Int) (E : List En) (c : Nat) (m : Int) (hm : InR (a i + m)) {cs : Tr V} (hs : h.get s = some (.cells cs true none)) (hcs : ∀ k, cs.get k = (BC W H D a u mb).get k) (he : h.get mb = some (.map (encM E) c)) :
    CallOk Try.prog 76 [.ptr s 0, spV (i % W : Nat) (i / W : Nat), .int .i64 m] h (.tup []) ((h.put s (BB W H D (rs a i m) u mb)).put mb (.map (encM (rzE E c (pk W i) (a i + m)).1) (rzE E c (pk W i) (a i + m)).2)) :=
  blk_call hs hcs he hD rfl rfl rfl (raise_w W H i hW hH hi D hD a u E c m hm)
end Go.Proofs.H

namespace Go.Proofs.H
open Go.As
set_option maxRecDepth 20000
set_option linter.unusedVariables false
set_option linter.unusedSimpArgs false

/-! ### Blows -/

def nbX (W i j : Nat) : Int := match j with
  | 0 => (i % W : Nat)
  | 1 => (i % W : Nat) - 1
  | 2 => (i % W : Nat) + 1
  | _ => (i % W : Nat)
def nbY (W i j : Nat) : Int := match j with
  | 0 => (i / W : Nat) - 1
  | 1 => (i / W : Nat)
  | 2 => (i / W : Nat)
  | _ => (i / W : Nat) + 1
theorem nb_in {W H i j : Nat} (hW : 1 ≤ W ∧ W ≤ 6) (hH : 1 ≤ H ∧ H ≤ 6) (hi : i < W * H) (hj : j < 4) : nbP W H i j = decide ((0 ≤ nbX W i j ∧ nbX W i j ≤ (W : Int) - 1) ∧ 0 ≤ nbY W i j ∧ nbY W i j ≤ (H : Int) - 1) := by
  obtain ⟨p1, p2, p3, p4, p5⟩ := pos_lt hW hH hi
  match j, hj with
  | 0, _ => simp only [nbP, nbX, nbY]; rw [Bool.eq_iff_iff, decide_eq_true_eq, Nat.blt_eq]; generalize i % W = x at *; generalize i / W = y at *; omega
  | 1, _ => simp only [nbP, nbX, nbY]; rw [Bool.eq_iff_iff, decide_eq_true_eq, Nat.blt_eq]; generalize i % W = x at *; generalize i / W = y at *; omega
  | 2, _ => simp only [nbP, nbX, nbY]; rw [Bool.eq_iff_iff, decide_eq_true_eq, Nat.blt_eq]; generalize i % W = x at *; generalize i / W = y at *; omega
  | 3, _ => simp only [nbP, nbX, nbY]; rw [Bool.eq_iff_iff, decide_eq_true_eq, Nat.blt_eq]; generalize i % W = x at *; generalize i / W = y at *; omega
theorem nb_at {W H i j : Nat} (hW : 1 ≤ W ∧ W ≤ 6) (hH : 1 ≤ H ∧ H ≤ 6) (hi : i < W * H) (hj : j < 4) (hp : nbP W H i j = true) : nbI W i j < W * H ∧ nbX W i j = (nbI W i j % W : Nat) ∧ nbY W i j = (nbI W i j / W : Nat) := by
  refine ⟨(grid_at hW hH hi).2.2.2.2.2.2 j hj hp, ?_⟩
  obtain ⟨p1, p2, p3, p4, p5⟩ := pos_lt hW hH hi
  have e := idx_eq W i
  have key : ∀ x y k : Nat, x < W → k = y * W + x → k % W = x ∧ k / W = y := fun x y k hx hk => by
    subst hk
    rw [Nat.mul_comm]
    exact ⟨by rw [Nat.mul_add_mod, Nat.mod_eq_of_lt hx], by rw [Nat.mul_add_div (by omega), Nat.div_eq_of_lt hx]; rfl⟩
  match j, hj with
  | 0, _ =>
    simp only [nbP, nbX, nbY, nbI] at hp ⊢
    generalize i % W = x at *
    generalize i / W = y at *
    rw [Nat.blt_eq] at hp
    obtain ⟨y, rfl⟩ : ∃ y', y = y' + 1 := ⟨y - 1, by omega⟩
    rw [Nat.succ_mul] at e
    obtain ⟨h1, h2⟩ := key x y (i - W) p4 (by omega)
    rw [h1, h2]; omega
  | 1, _ =>
    simp only [nbP, nbX, nbY, nbI] at hp ⊢
    generalize i % W = x at *
    generalize i / W = y at *
    rw [Nat.blt_eq] at hp
    obtain ⟨h1, h2⟩ := key (x - 1) y (i - 1) (by omega) (by omega)
    rw [h1, h2]; omega
  | 2, _ =>
    simp only [nbP, nbX, nbY, nbI] at hp ⊢
    generalize i % W = x at *
    generalize i / W = y at *
    rw [Nat.blt_eq] at hp
    obtain ⟨h1, h2⟩ := key (x + 1) y (i + 1) (by omega) (by omega)
    rw [h1, h2]; omega
  | 3, _ =>
    simp only [nbP, nbX, nbY, nbI] at hp ⊢
    generalize i % W = x at *
    generalize i / W = y at *
    rw [Nat.blt_eq] at hp
    obtain ⟨h1, h2⟩ := key x (y + 1) (i + W) (by omega) (by rw [Nat.succ_mul]; omega)
    rw [h1, h2]; omega
/-- Numbers that are not too great. -/
def Sml (n : Nat) (B : Int) (a : Nat → Int) : Prop := ∀ k, k < n → -B ≤ a k ∧ a k ≤ B
theorem hitJ_rng {W H : Nat} {a : Nat → Int} {i : Nat} {N B C : Int} (hB : Sml (W * H) B a) (hN : -C ≤ N ∧ N ≤ C) {k : Nat} (hk : k < W * H) {j : Nat} (hj : j ≤ 4) : -B - 8 * C ≤ hitJ W H a i N j k ∧ hitJ W H a i N j k ≤ B + 8 * C := by
  rw [hitJ_eq]
  have h1 := hB k hk
  have h2 : ∀ j, -(C * j) ≤ sm j (fun j => bI (nbP W H i j && Nat.beq k (nbI W i j)) * N) ∧ sm j (fun j => bI (nbP W H i j && Nat.beq k (nbI W i j)) * N) ≤ C * j := fun j => by
    induction j with
    | zero => simp [sm]
    | succ j ih =>
      rw [sm]
      have e : C * ((j + 1 : Nat) : Int) = C * j + C := by rw [show ((j + 1 : Nat) : Int) = j + 1 from rfl, Int.mul_add, Int.mul_one]
      rw [e]
      cases (nbP W H i j && Nat.beq k (nbI W i j)) with
      | true => show _ ≤ _ + 1 * N ∧ _ + 1 * N ≤ _; omega
      | false => show _ ≤ _ + 0 * N ∧ _ + 0 * N ≤ _; omega
  have h3 := h2 j
  have h4 : C * (j : Int) ≤ C * 4 := Int.mul_le_mul_of_nonneg_left (by omega) (by omega)
  split <;> omega
set_option maxHeartbeats 8000000 in
theorem hit_w (W H i : Nat) (hW : 1 ≤ W ∧ W ≤ 6) (hH : 1 ≤ H ∧ H ≤ 6) (hi : i < W * H) (D : V) (hD : bare0 D = true) (a u : Nat → Int) (E : List En) (c : Nat) (N : Int) (hN : -1099511627776 ≤ N ∧ N ≤ 1099511627776) (ha : Sml (W * H) 1099511627776 a) (hu : Sml (W * H) 1099511627776 u) :
    CallW Try.prog [] 57 [.ptr 0 0, spV (i % W : Nat) (i / W : Nat), .int .i64 N] (hp [BB W H D a u 1, .map (encM E) c]) (LowK (.tup []) [BB W H D (hitJ W H a i N 4) (rs u i N) 1, .map (encM (hitE W H a E c i N 4).1) (hitE W H a E c i N 4).2]) := by
  refine CallW.inline (f := 57) Try.func57 rfl rfl (Nat.le_of_ble_eq_true rfl) (WpR.of_vc ?_)
  obtain ⟨p1, p2, p3, p4, p5⟩ := pos_lt hW hH hi
  have kI := fun h' (hs : h'.get 0 = some (BB W H D a u 1)) => index_ok h' 0 W H (i % W) (i / W) p2 p3 hW hs bc_0 bc_1
  rw [idx_eq] at kI
  have hui := hu i hi
  have hai := ha i hi
  have gu : (BC W H D a u 1).get (39 + (i : Int).toNat * 1) = some (.int .i64 (u i)) := bc_u (by omega) p1
  have gp : putN [V.int .i64 (u i + N)] (BC W H D a u 1) (39 + (i : Int).toNat * 1) = some ((BC W H D a u 1).set (39 + (i : Int).toNat * 1) (.int .i64 (u i + N))) := by rw [putN_cons, gu]; rfl
  have hset : ∀ k, ((BC W H D a u 1).set (39 + (i : Int).toNat * 1) (.int .i64 (u i + N))).get k = (BC W H D a (rs u i N) 1).get k := fun k => by
    rw [bc_setu (i := i) (by omega) p1]
    have : (fun j => if j = i then u i + N else u j) = rs u i N := by funext j; unfold rs; by_cases h : j = i; (subst h; simp); (rw [if_neg h, if_neg h])
    rw [this]
  have kR := fun h' (hs : h'.get 0 = some (.cells ((BC W H D a u 1).set (39 + (i : Int).toNat * 1) (.int .i64 (u i + N))) true none)) (he : h'.get 1 = some (.map (encM E) c)) => raise_ok h' 0 1 W H i hW hH hi D hD a (rs u i N) E c (-N * 4) (by unfold InR; omega) hs hset he
  have e0 : rs a i (-N * 4) = hitJ W H a i N 0 := rfl
  have e1 : rzE E c (pk W i) (a i + -N * 4) = hitE W H a E c i N 0 := rfl
  rw [e0, e1] at kR
  unfold BB at kI kR ⊢
  have hrng := fun k hk j hj => hitJ_rng (i := i) (k := k) (j := j) ha hN hk hj
  have hnb := fun j (hj : j < 4) => nb_in hW hH hi hj
  have hna := fun j (hj : j < 4) hp => nb_at hW hH hi hj hp
  have hJt : ∀ j, nbP W H i j = true → hitJ W H a i N (j + 1) = rs (hitJ W H a i N j) (nbI W i j) N := fun j h => by rw [hitJ, h]
  have hJf : ∀ j, nbP W H i j = false → hitJ W H a i N (j + 1) = hitJ W H a i N j := fun j h => by rw [hitJ, h]
  have hEt : ∀ j, nbP W H i j = true → hitE W H a E c i N (j + 1) = rzE (hitE W H a E c i N j).1 (hitE W H a E c i N j).2 (pk W (nbI W i j)) (hitJ W H a i N j (nbI W i j) + N) := fun j h => by rw [hitE, h]
  have hEf : ∀ j, nbP W H i j = false → hitE W H a E c i N (j + 1) = hitE W H a E c i N j := fun j h => by rw [hitE, h]
  have hpart : ∀ j : Nat, j < 4 → part? Try.prog 75 [.int .i64 (i % W : Nat), .int .i64 ((i / W : Nat) - 1), .int .i64 ((i % W : Nat) - 1), .int .i64 (i / W : Nat), .int .i64 ((i % W : Nat) + 1), .int .i64 (i / W : Nat), .int .i64 (i % W : Nat), .int .i64 ((i / W : Nat) + 1)] ((j : Int).toNat * 2) = some (spV (nbX W i j) (nbY W i j)) := fun j hj => by
    match j, hj with
    | 0, _ => rfl
    | 1, _ => rfl
    | 2, _ => rfl
    | 3, _ => rfl
  obtain ⟨Bj, hBj⟩ : ∃ Bj : Nat → Tr V, ∀ j, Bj j = BC W H D (hitJ W H a i N j) (rs u i N) 1 := ⟨fun j => _, fun j => rfl⟩
  have kRj : ∀ j, j < 4 → nbP W H i j = true → ∀ h' : As.H, h'.get 0 = some (.cells (Bj j) true none) → h'.get 1 = some (.map (encM (hitE W H a E c i N j).1) (hitE W H a E c i N j).2) → CallOk Try.prog 76 [.ptr 0 0, spV (nbX W i j) (nbY W i j), .int .i64 N] h' (.tup [])
      ((h'.put 0 (.cells (Bj (j + 1)) true none)).put 1 (.map (encM (hitE W H a E c i N (j + 1)).1) (hitE W H a E c i N (j + 1)).2)) := fun j hj hp h' hs he => by
    obtain ⟨q1, q2, q3⟩ := hna j hj hp
    have hr := hrng _ q1 j (by omega)
    have := raise_ok h' 0 1 W H (nbI W i j) hW hH q1 D hD (hitJ W H a i N j) (rs u i N) (hitE W H a E c i N j).1 (hitE W H a E c i N j).2 N (by unfold InR; omega) hs (fun k => by rw [hBj]) he
    rw [← hJt j hp, ← hEt j hp, ← q2, ← q3] at this
    rw [hBj (j + 1)]
    exact this
  have hsub : SubQ id (.cells (BC W H D (hitJ W H a i N 4) (rs u i N) 1) true none) (.cells (Bj 4) true none) := by rw [hBj]; exact bb_sub id hD
  have hskip : ∀ j, nbP W H i j = false → Bj (j + 1) = Bj j ∧ hitE W H a E c i N (j + 1) = hitE W H a E c i N j := fun j hp => ⟨by rw [hBj, hBj, hJf j hp], hEf j hp⟩
  have hlt : ∀ n j, 1 < n → ltB n (.cells (Bj j) true none) := fun n j hn => by rw [hBj]; exact bb_lt hD hn
  have hg0 : ∀ j, (Bj j).get 0 = some (.int .i64 W) := fun j => by rw [hBj]; exact bc_0
  have hg1 : ∀ j, (Bj j).get 1 = some (.int .i64 H) := fun j => by rw [hBj]; exact bc_1
  rw [← hBj 0] at kR
  generalize (.cells (BC W H D (hitJ W H a i N 4) (rs u i N) 1) true none : Blk) = Bend at *
  generalize hb0 : BC W H D a u 1 = B0 at *
  clear hJt hJf hEt hEf hna hrng hBj hset e0 e1
  generalize nbX W i = X at *
  generalize nbY W i = Y at *
  generalize i % W = x at *
  generalize i / W = y at *
  generalize hitJ W H a i N = J at *
  generalize hitE W H a E c i N = Z at *
  (conv => whnf); (repeat' (first | ((with_reducible refine ifb_mk (fun hc => ?_) (fun hc => ?_)) <;> ((try simp only [decide_eq_true_eq, decide_eq_false_iff_not, Bool.not_eq_true', Bool.not_eq_false', Int.not_lt, Int.not_le, ne_eq, Decidable.not_not, beq_iff_eq, List.cons.injEq, and_true] at hc); (first | (exfalso; omega) | exact absurd True.intro hc | conv => whnf))) | ((with_reducible refine And.intro True.intro ?_); conv => whnf) | ((with_reducible refine CallX.all ?_); refine CallW.of_ok (kI _ rfl) ?_; conv => whnf) | ((with_reducible refine grd_ex ?_); refine ex_ok (kI _ rfl) ?_; conv => whnf) | ((with_reducible refine CallX.all ?_); refine CallW.of_ok (kR _ rfl rfl) ?_; conv => whnf) | ((with_reducible refine WpR.draw (id := 1) mixed [0, 1, 2, 4, 5, 8, 10, 11, 3, 6, 7, 9, 12, 13] [0, 0, 0, 6, 1, 17, 63, 127, 0, 511, 1, 1025, 4095, 8191] ?hh ?_); (case hh => kernel_rfl); conv => whnf) | (refine som_mk (gu) ?_; conv => whnf) | ((with_reducible refine grd_putN ?_); refine som_mk (a := ?_) ?hh ?_; (case hh => exact gp); conv => whnf) | ((with_reducible refine CallX.all (f := 77) ?_); refine CallW.inline Try.func77 rfl rfl (Nat.le_of_ble_eq_true rfl) (WpR.of_vc ?_); conv => whnf) | ((with_reducible refine RangeX.all ?_); conv => whnf) | ((with_reducible refine CallW.inline (f := 84) Try.func84 rfl rfl (Nat.le_of_ble_eq_true rfl) (WpR.of_vc ?_)); conv => whnf) | ((with_reducible refine And.intro ?hh ?_); (case hh => exact condA); conv => whnf) | fail))
  have hMap : ∀ j, ltB 9 (.cells (Bj j) true none) := fun j => hlt 9 j (by omega)
  have hMapB : ∀ j, ltB 1000 (.cells (Bj j) true none) := fun j => hlt 1000 j (by omega)
  have hMapC : ∀ n j, ltB n (.map (encM (Z j).1) (Z j).2) := fun n j => encM_lt
  refine WpR.loopA (ι := Nat) [] [0, 1, 2, 30] [0, 1] [] 9 (fun j => [(31, .int .i64 j)]) (fun j => [(0, .cells (Bj j) true none), (1, .map (encM (Z j).1) (Z j).2)]) (fun j => 4 - j) (fun j => j ≤ 4) ?_ (0) (Nat.zero_le _) [] Back.auto
  intro j hj
  refine WpR.of_vc ?_
  by_cases hjl : j < 4
  · have hpj := hpart j hjl
    have hwj := hnb j hjl
    have kRk := kRj j hjl
    generalize X j = Xj at *
    generalize Y j = Yj at *
    have kX := fun h' sv hs => within1_ok h' 0 ((W : Int) - 1) Xj sv hs
    have kY := fun h' sv hs => within1_ok h' 0 ((H : Int) - 1) Yj sv hs
    have g0 : (Bj j).get 0 = some (.int .i64 W) := hg0 j
    have g1 : (Bj j).get 1 = some (.int .i64 H) := hg1 j
    by_cases h1 : 0 ≤ Xj ∧ Xj ≤ (W : Int) - 1
    · rw [decide_eq_true h1] at kX
      by_cases h2 : 0 ≤ Yj ∧ Yj ≤ (H : Int) - 1
      · rw [decide_eq_true h2] at kY
        have hp : nbP W H i j = true := by rw [hwj]; exact decide_eq_true ⟨h1, h2⟩
        have kRk := kRk hp
        (conv => whnf); (repeat' (first | ((with_reducible refine ifb_mk (fun hc => ?_) (fun hc => ?_)) <;> ((try simp only [decide_eq_true_eq, decide_eq_false_iff_not, Bool.not_eq_true', Bool.not_eq_false', Int.not_lt, Int.not_le, ne_eq, Decidable.not_not, beq_iff_eq, List.cons.injEq, and_true] at hc); (first | (exfalso; omega) | exact absurd True.intro hc | conv => whnf))) | ((with_reducible refine And.intro True.intro ?_); conv => whnf) | ((with_reducible refine grd_and ?_); refine And.intro (hjl) ?_; conv => whnf) | (refine som_mk (hpj) ?_; conv => whnf) | (refine som_mk (g0) ?_; conv => whnf) | (refine som_mk (g1) ?_; conv => whnf) | ((with_reducible refine WpR.drawTail (id := 3) mixed 25 [0, 1, 2, 3, 4, 5, 6, 7, 8, 9, 10, 11, 12, 13, 14, 15, 16, 17, 18, 19, 20, 21, 22, 23, 24] [0, 1, 3, 7, 15, 31, 0, 64, 192, 511, 1023, 2047, 4095, 8191, 16383, 32767, 65535, 2047, 133119, 395263, 1048575, 2097151, 4194303, 8388607, 8388607] ?hh ?hk ?_); (case hh => kernel_rfl); (case hk => kernel_rfl); conv => whnf) | ((with_reducible refine grd_ex ?_); refine ex_ok (kX _ _ (SlC.own rfl)) ?_; conv => whnf) | ((with_reducible refine grd_ex ?_); refine ex_ok (kY _ _ (SlC.own rfl)) ?_; conv => whnf) | ((with_reducible refine And.intro ?hh ?_); (case hh => exact condA); conv => whnf) | fail))
        refine YldX.all ?_
        refine YldW.inline rfl rfl rfl (WpR.of_vc ?_)
        conv => whnf
        refine ⟨rfl, _, rfl, rfl, WpR.of_vc ?_⟩
        (conv => whnf); (repeat' (first | ((with_reducible refine ifb_mk (fun hc => ?_) (fun hc => ?_)) <;> ((try simp only [decide_eq_true_eq, decide_eq_false_iff_not, Bool.not_eq_true', Bool.not_eq_false', Int.not_lt, Int.not_le, ne_eq, Decidable.not_not, beq_iff_eq, List.cons.injEq, and_true] at hc); (first | (exfalso; omega) | exact absurd True.intro hc | conv => whnf))) | ((with_reducible refine And.intro True.intro ?_); conv => whnf) | ((with_reducible refine CallX.all ?_); refine CallW.of_ok (kRk _ rfl rfl) ?_; conv => whnf) | ((with_reducible refine And.intro ?hh ?_); (case hh => exact condA); conv => whnf) | fail))
        refine ⟨_, _, rfl, ?_⟩
        (conv => whnf); (repeat' (first | ((with_reducible refine ifb_mk (fun hc => ?_) (fun hc => ?_)) <;> ((try simp only [decide_eq_true_eq, decide_eq_false_iff_not, Bool.not_eq_true', Bool.not_eq_false', Int.not_lt, Int.not_le, ne_eq, Decidable.not_not, beq_iff_eq, List.cons.injEq, and_true] at hc); (first | (exfalso; omega) | exact absurd True.intro hc | conv => whnf))) | ((with_reducible refine And.intro True.intro ?_); conv => whnf) | ((with_reducible refine And.intro ?hh ?_); (case hh => exact condA); conv => whnf) | fail))
        exact ⟨j + 1, [], by omega, by omega, Back.auto⟩
      · rw [decide_eq_false h2] at kY
        have hp : nbP W H i j = false := by rw [hwj]; exact decide_eq_false fun hc => h2 hc.2
        obtain ⟨e3, e4⟩ := hskip j hp
        (conv => whnf); (repeat' (first | ((with_reducible refine ifb_mk (fun hc => ?_) (fun hc => ?_)) <;> ((try simp only [decide_eq_true_eq, decide_eq_false_iff_not, Bool.not_eq_true', Bool.not_eq_false', Int.not_lt, Int.not_le, ne_eq, Decidable.not_not, beq_iff_eq, List.cons.injEq, and_true] at hc); (first | (exfalso; omega) | exact absurd True.intro hc | conv => whnf))) | ((with_reducible refine And.intro True.intro ?_); conv => whnf) | ((with_reducible refine grd_and ?_); refine And.intro (hjl) ?_; conv => whnf) | (refine som_mk (hpj) ?_; conv => whnf) | (refine som_mk (g0) ?_; conv => whnf) | (refine som_mk (g1) ?_; conv => whnf) | ((with_reducible refine WpR.drawTail (id := 3) mixed 25 [0, 1, 2, 3, 4, 5, 6, 7, 8, 9, 10, 11, 12, 13, 14, 15, 16, 17, 18, 19, 20, 21, 22, 23, 24] [0, 1, 3, 7, 15, 31, 0, 64, 192, 511, 1023, 2047, 4095, 8191, 16383, 32767, 65535, 2047, 133119, 395263, 1048575, 2097151, 4194303, 8388607, 8388607] ?hh ?hk ?_); (case hh => kernel_rfl); (case hk => kernel_rfl); conv => whnf) | ((with_reducible refine grd_ex ?_); refine ex_ok (kX _ _ (SlC.own rfl)) ?_; conv => whnf) | ((with_reducible refine grd_ex ?_); refine ex_ok (kY _ _ (SlC.own rfl)) ?_; conv => whnf) | ((with_reducible refine And.intro ?hh ?_); (case hh => exact condA); conv => whnf) | fail))
        rw [← e3, ← e4]
        exact ⟨j + 1, [], by omega, by omega, Back.auto⟩
    · rw [decide_eq_false h1] at kX
      have hp : nbP W H i j = false := by rw [hwj]; exact decide_eq_false fun hc => h1 hc.1
      obtain ⟨e3, e4⟩ := hskip j hp
      (conv => whnf); (repeat' (first | ((with_reducible refine ifb_mk (fun hc => ?_) (fun hc => ?_)) <;> ((try simp only [decide_eq_true_eq, decide_eq_false_iff_not, Bool.not_eq_true', Bool.not_eq_false', Int.not_lt, Int.not_le, ne_eq, Decidable.not_not, beq_iff_eq, List.cons.injEq, and_true] at hc); (first | (exfalso; omega) | exact absurd True.intro hc | conv => whnf))) | ((with_reducible refine And.intro True.intro ?_); conv => whnf) | ((with_reducible refine grd_and ?_); refine And.intro (hjl) ?_; conv => whnf) | (refine som_mk (hpj) ?_; conv => whnf) | (refine som_mk (g0) ?_; conv => whnf) | (refine som_mk (g1) ?_; conv => whnf) | ((with_reducible refine WpR.drawTail (id := 3) mixed 25 [0, 1, 2, 3, 4, 5, 6, 7, 8, 9, 10, 11, 12, 13, 14, 15, 16, 17, 18, 19, 20, 21, 22, 23, 24] [0, 1, 3, 7, 15, 31, 0, 64, 192, 511, 1023, 2047, 4095, 8191, 16383, 32767, 65535, 2047, 133119, 395263, 1048575, 2097151, 4194303, 8388607, 8388607] ?hh ?hk ?_); (case hh => kernel_rfl); (case hk => kernel_rfl); conv => whnf) | ((with_reducible refine grd_ex ?_); refine ex_ok (kX _ _ (SlC.own rfl)) ?_; conv => whnf) | ((with_reducible refine grd_ex ?_); refine ex_ok (kY _ _ (SlC.own rfl)) ?_; conv => whnf) | ((with_reducible refine And.intro ?hh ?_); (case hh => exact condA); conv => whnf) | fail))
      rw [← e3, ← e4]
      exact ⟨j + 1, [], by omega, by omega, Back.auto⟩
  · have e : j = 4 := by omega
    subst e
    (conv => whnf); (repeat' (first | ((with_reducible refine ifb_mk (fun hc => ?_) (fun hc => ?_)) <;> ((try simp only [decide_eq_true_eq, decide_eq_false_iff_not, Bool.not_eq_true', Bool.not_eq_false', Int.not_lt, Int.not_le, ne_eq, Decidable.not_not, beq_iff_eq, List.cons.injEq, and_true] at hc); (first | (exfalso; omega) | exact absurd True.intro hc | conv => whnf))) | ((with_reducible refine And.intro True.intro ?_); conv => whnf) | ((with_reducible refine grd_and ?_); refine And.intro (hjl) ?_; conv => whnf) | ((with_reducible refine And.intro ?hh ?_); (case hh => exact condA); conv => whnf) | fail))
    exact ⟨rfl, ⟨_, rfl, hsub⟩, ⟨_, rfl, encM_sub⟩, trivial⟩
theorem hit_ok (h : As.H) (s mb W H i : Nat) (hW : 1 ≤ W ∧ W ≤ 6) (hH : 1 ≤ H ∧ H ≤ 6) (hi : i < W * H) (D : V) (hD : bare0 D = true) (a u : Nat → Int) (E : List En) (c : Nat) (N : Int) (hN : -1099511627776 ≤ N ∧ N ≤ 1099511627776) (ha : Sml (W * H) 1099511627776 a) (hu : Sml (W * H) 1099511627776 u)
    {cs : Tr V} (hs : h.get s = some (.cells cs true none)) (hcs : ∀ k, cs.get k = (BC W H D a u mb).get k) (he : h.get mb = some (.map (encM E) c)) :
    CallOk Try.prog 57 [.ptr s 0, spV (i % W : Nat) (i / W : Nat), .int .i64 N] h (.tup []) ((h.put s (BB W H D (hitA (adI W H) a i N) (rs u i N) mb)).put mb (.map (encM (hitE W H a E c i N 4).1) (hitE W H a E c i N 4).2)) := by
  rw [← hitJ_4]
  exact blk_call hs hcs he hD rfl rfl rfl (hit_w W H i hW hH hi D hD a u E c N hN ha hu)
end Go.Proofs.H

namespace Go.Proofs.H
open Go.As
set_option maxRecDepth 20000
set_option linter.unusedVariables false
set_option linter.unusedSimpArgs false

/-! ### The first place that is not flat -/

theorem find_map {W n : Nat} {a : Nat → Int} {E : List En} (m : MapOk W n a E) {i : Nat} (hi : i < n) :
    (∃ j q, (∀ em, findAt Try.prog em 75 (key2 (pk W i)) (encM E) = some (some j)) ∧ (encM E)[j]? = some q ∧ q.2.1 = .bool true ∧ 3 < a i) ∨ ((∀ em, findAt Try.prog em 75 (key2 (pk W i)) (encM E) = some none) ∧ a i ≤ 3) := by
  cases hf : (E.map (·.1)).findIdx? (fun x => decide (pk W i = x)) with
  | some j =>
    obtain ⟨hj, hp, _⟩ := List.findIdx?_eq_some_iff_getElem.1 hf
    have hp := of_decide_eq_true hp
    refine .inl ⟨j, _, fun em => by rw [findE, hf], encM_at (List.getElem?_eq_getElem (by simpa using hj)), rfl, (m.at' i hi).1 ?_⟩
    rw [hp]
    exact List.getElem_mem hj
  | none =>
    refine .inr ⟨fun em => by rw [findE, hf], Int.not_lt.1 fun hc => ?_⟩
    have := List.findIdx?_eq_none_iff.1 hf _ ((m.at' i hi).2 hc)
    simp at this
theorem stands_ok (h : As.H) (s mb W H i : Nat) (hi : i < W * H) (D : V) (hD : bare0 D = true) (a u : Nat → Int) (E : List En) (c : Nat) (hm : MapOk W (W * H) a E) {cs : Tr V} (hs : h.get s = some (.cells cs true none)) (hcs : ∀ k, cs.get k = (BC W H D a u mb).get k) (he : h.get mb = some (.map (encM E) c)) :
    CallOk Try.prog 56 [.ptr s 0, spV (i % W : Nat) (i / W : Nat)] h (.bool (decide (3 < a i))) h := by
  refine blk_read hs hcs he hD (argsC := [.ptr 0 0, spV (i % W : Nat) (i / W : Nat)]) rfl rfl rfl (CallW.inline (f := 56) Try.func56 rfl rfl (Nat.le_of_ble_eq_true rfl) (WpR.of_vc ?_))
  have g75 : (BC W H D a u 1).get 75 = some (.map 1) := bc_75
  have hself : SubQ id (BB W H D a u 1) (BB W H D a u 1) := bb_sub id hD
  generalize hB2 : BB W H D a u 1 = B2 at hself ⊢
  unfold BB at hB2
  subst hB2
  generalize BC W H D a u 1 = B at *
  rcases find_map hm hi with ⟨j, q, h1, h2, h3, h4⟩ | ⟨h1, h2⟩
  · rw [decide_eq_true h4]
    obtain ⟨q1, q2, q3⟩ := q
    dsimp only at h3
    subst h3
    (conv => whnf); (repeat' (first | ((with_reducible refine ifb_mk (fun hc => ?_) (fun hc => ?_)) <;> ((try simp only [decide_eq_true_eq, decide_eq_false_iff_not, Bool.not_eq_true', Bool.not_eq_false', Int.not_lt, Int.not_le, ne_eq, Decidable.not_not, beq_iff_eq, List.cons.injEq, and_true] at hc); (first | (exfalso; omega) | exact absurd True.intro hc | conv => whnf))) | ((with_reducible refine And.intro True.intro ?_); conv => whnf) | ((with_reducible refine WpR.draw (id := 1) mixed [0, 1, 2, 3, 4, 5, 6] [0, 1, 3, 7, 0, 31, 63] ?hh ?_); (case hh => kernel_rfl); conv => whnf) | (refine som_mk (g75) ?_; conv => whnf) | (refine som_mk (h1 _) ?_; conv => whnf) | (refine som_mk (h2) ?_; conv => whnf) | ((with_reducible refine And.intro ?hh ?_); (case hh => exact condA); conv => whnf) | fail))
    exact ⟨rfl, ⟨_, rfl, hself⟩, ⟨_, rfl, encM_sub⟩, trivial⟩
  · rw [decide_eq_false (by omega)]
    (conv => whnf); (repeat' (first | ((with_reducible refine ifb_mk (fun hc => ?_) (fun hc => ?_)) <;> ((try simp only [decide_eq_true_eq, decide_eq_false_iff_not, Bool.not_eq_true', Bool.not_eq_false', Int.not_lt, Int.not_le, ne_eq, Decidable.not_not, beq_iff_eq, List.cons.injEq, and_true] at hc); (first | (exfalso; omega) | exact absurd True.intro hc | conv => whnf))) | ((with_reducible refine And.intro True.intro ?_); conv => whnf) | ((with_reducible refine WpR.draw (id := 1) mixed [0, 1, 2, 3, 4, 5, 6] [0, 1, 3, 7, 0, 31, 63] ?hh ?_); (case hh => kernel_rfl); conv => whnf) | (refine som_mk (g75) ?_; conv => whnf) | (refine som_mk (h1 _) ?_; conv => whnf) | ((with_reducible refine And.intro ?hh ?_); (case hh => exact condA); conv => whnf) | fail))
    exact ⟨rfl, ⟨_, rfl, hself⟩, ⟨_, rfl, encM_sub⟩, trivial⟩
end Go.Proofs.H

namespace Go.Proofs.H
open Go.As
set_option maxRecDepth 20000
set_option linter.unusedVariables false
set_option linter.unusedSimpArgs false

def r3 (s mb bx : Nat) (k : Nat) : Nat := match k with
  | 0 => s
  | 1 => mb
  | _ => bx
theorem bb_view3 {W H : Int} {D : V} {a u : Nat → Int} {s mb bx : Nat} {cs : Tr V} (hD : bare0 D = true) (hcs : ∀ k, cs.get k = (BC W H D a u mb).get k) : SubQ (r3 s mb bx) (BB W H D a u 1) (.cells cs true none) := by
  refine .cells (fun k v hv => ?_) id (.inr rfl)
  obtain ⟨hk, rfl⟩ := bc_some hv
  rw [hcs, bc_at hk, cellF_ren _ hD]
  rfl
theorem bb_imv3 {W H : Int} {D : V} {a u : Nat → Int} {s mb bx : Nat} {cs : Tr V} (hD : bare0 D = true) (hcs : ∀ k, cs.get k = (BC W H D a u mb).get k) : ImB (r3 s mb bx) (BB W H D a u 1) (.cells cs true none) := by
  refine .cells fun k v' hv => ?_
  rw [hcs] at hv
  obtain ⟨hk, rfl⟩ := bc_some hv
  exact ⟨_, bc_at hk, (cellF_ren (mb := 1) (r3 s mb bx) hD k).symm⟩
def spotsF (bx : Nat) : V := .fn 78 [] [.ptr bx 0]
def standsF (s : Nat) : V := .fn 56 [.ptr s 0] []
def fstV (W n i : Nat) : V := if i < n then .tup [spV (i % W : Nat) (i / W : Nat), .bool true] else .tup [spV 0 0, .bool false]
set_option maxHeartbeats 8000000 in
theorem first_w (W H : Nat) (hW : 1 ≤ W ∧ W ≤ 6) (hH : 1 ≤ H ∧ H ≤ 6) (D : V) (hD : bare0 D = true) (a u : Nat → Int) (E : List En) (c : Nat) (hm : MapOk W (W * H) a E) :
    CallW Try.prog [] 79 [spotsF 2, standsF 0] (hp [BB W H D a u 1, .map (encM E) c, .cells (ofL [.ptr 0 0] 0) true none]) (LowK (fstV W (W * H) (fst4 a (W * H))) [BB W H D a u 1, .map (encM E) c, .cells (ofL [.ptr 0 0] 0) true none]) := by
  refine CallW.inline (f := 79) Try.func79 rfl rfl (Nat.le_of_ble_eq_true rfl) (WpR.of_vc ?_)
  have hwh := wh_le hW hH
  have kZ := fun h' (hs : h'.get 0 = some (BB W H D a u 1)) => size_ok h' 0 W H hW hH hs bc_0 bc_1
  have kA := fun h' i (hs : h'.get 0 = some (BB W H D a u 1)) hi => spotAt_ok h' 0 W H i hW hs bc_0 bc_1 hi
  have kS := fun h' i hi (hs : h'.get 0 = some (BB W H D a u 1)) he => stands_ok h' 0 1 W H i hi D hD a u E c hm hs (fun _ => rfl) he
  have hself : SubQ id (BB W H D a u 1) (BB W H D a u 1) := bb_sub id hD
  have hlt : ∀ n, 1 < n → ltB n (BB W H D a u 1) := fun n hn => bb_lt hD hn
  have hat := fun i hi => @fst4_at a (W * H) i hi
  have hno := @fst4_n a (W * H)
  generalize fst4 a (W * H) = I at *
  generalize hB2 : BB W H D a u 1 = B2 at hself hlt kZ kA kS ⊢
  unfold BB at hB2
  subst hB2
  generalize BC W H D a u 1 = B at *
  generalize W * H = n at *
  unfold spotsF standsF
  (conv => whnf); (repeat' (first | ((with_reducible refine ifb_mk (fun hc => ?_) (fun hc => ?_)) <;> ((try simp only [decide_eq_true_eq, decide_eq_false_iff_not, Bool.not_eq_true', Bool.not_eq_false', Int.not_lt, Int.not_le, ne_eq, Decidable.not_not, beq_iff_eq, List.cons.injEq, and_true] at hc); (first | (exfalso; omega) | exact absurd True.intro hc | conv => whnf))) | ((with_reducible refine And.intro True.intro ?_); conv => whnf) | ((with_reducible refine CallX.all ?_); refine CallW.of_ok (kZ _ rfl) ?_; conv => whnf) | ((with_reducible refine RangeX.all ?_); conv => whnf) | ((with_reducible refine CallW.inline (f := 78) Try.func78 rfl rfl (Nat.le_of_ble_eq_true rfl) (WpR.of_vc ?_)); conv => whnf) | ((with_reducible refine And.intro ?hh ?_); (case hh => exact condA); conv => whnf) | fail))
  have hq1 := hlt 8 (by decide)
  have hq2 : ltB 8 (.map (encM E) c) := encM_lt
  refine WpR.loopA (ι := Nat) [] [0, 1, 5] [] [] 8 (fun k => [(6, .int .i64 k)]) (fun _ => []) (fun k => n - k) (fun k => k ≤ n ∧ ∀ j, j < k → a j ≤ 3) ?_ (0) (⟨Nat.zero_le _, fun j hj => by omega⟩) [] Back.auto
  rintro k ⟨hk, hle⟩
  refine WpR.of_vc ?_
  by_cases hkl : k < n
  · have kSk := fun h' => kS h' k hkl
    have kAk := fun h' hs => kA h' k hs (by omega)
    by_cases h3 : 3 < a k
    · rw [decide_eq_true h3] at kSk
      have eI := hat k hkl h3 hle
      (conv => whnf); (repeat' (first | ((with_reducible refine ifb_mk (fun hc => ?_) (fun hc => ?_)) <;> ((try simp only [decide_eq_true_eq, decide_eq_false_iff_not, Bool.not_eq_true', Bool.not_eq_false', Int.not_lt, Int.not_le, ne_eq, Decidable.not_not, beq_iff_eq, List.cons.injEq, and_true] at hc); (first | (exfalso; omega) | exact absurd True.intro hc | conv => whnf))) | ((with_reducible refine And.intro True.intro ?_); conv => whnf) | ((with_reducible refine grd_and ?_); refine And.intro (hkl) ?_; conv => whnf) | ((with_reducible refine CallX.all ?_); refine CallW.of_ok (kAk _ rfl) ?_; conv => whnf) | ((with_reducible refine CallX.all ?_); refine CallW.of_ok (kSk _ rfl rfl) ?_; conv => whnf) | ((with_reducible refine And.intro ?hh ?_); (case hh => exact condA); conv => whnf) | fail))
      refine YldX.all ?_
      refine YldW.inline rfl rfl rfl (WpR.of_vc ?_)
      conv => whnf
      refine ⟨rfl, _, rfl, rfl, WpR.of_vc ?_⟩
      (conv => whnf); (repeat' (first | ((with_reducible refine ifb_mk (fun hc => ?_) (fun hc => ?_)) <;> ((try simp only [decide_eq_true_eq, decide_eq_false_iff_not, Bool.not_eq_true', Bool.not_eq_false', Int.not_lt, Int.not_le, ne_eq, Decidable.not_not, beq_iff_eq, List.cons.injEq, and_true] at hc); (first | (exfalso; omega) | exact absurd True.intro hc | conv => whnf))) | ((with_reducible refine And.intro True.intro ?_); conv => whnf) | ((with_reducible refine CallX.all ?_); refine CallW.of_ok (kSk _ rfl rfl) ?_; conv => whnf) | ((with_reducible refine And.intro ?hh ?_); (case hh => exact condA); conv => whnf) | fail))
      refine ⟨_, _, rfl, ?_⟩
      (conv => whnf); (repeat' (first | ((with_reducible refine ifb_mk (fun hc => ?_) (fun hc => ?_)) <;> ((try simp only [decide_eq_true_eq, decide_eq_false_iff_not, Bool.not_eq_true', Bool.not_eq_false', Int.not_lt, Int.not_le, ne_eq, Decidable.not_not, beq_iff_eq, List.cons.injEq, and_true] at hc); (first | (exfalso; omega) | exact absurd True.intro hc | conv => whnf))) | ((with_reducible refine And.intro True.intro ?_); conv => whnf) | ((with_reducible refine And.intro ?hh ?_); (case hh => exact condA); conv => whnf) | fail))
      unfold fstV
      rw [eI, if_pos hkl]
      exact ⟨rfl, ⟨_, rfl, hself⟩, ⟨_, rfl, encM_sub⟩, ⟨_, rfl, SubQ.same (n := 2) (Y := []) (fun _ _ _ => rfl) (ltB_all rfl) (avB_nil _) rfl⟩, trivial⟩
    · rw [decide_eq_false h3] at kSk
      (conv => whnf); (repeat' (first | ((with_reducible refine ifb_mk (fun hc => ?_) (fun hc => ?_)) <;> ((try simp only [decide_eq_true_eq, decide_eq_false_iff_not, Bool.not_eq_true', Bool.not_eq_false', Int.not_lt, Int.not_le, ne_eq, Decidable.not_not, beq_iff_eq, List.cons.injEq, and_true] at hc); (first | (exfalso; omega) | exact absurd True.intro hc | conv => whnf))) | ((with_reducible refine And.intro True.intro ?_); conv => whnf) | ((with_reducible refine grd_and ?_); refine And.intro (hkl) ?_; conv => whnf) | ((with_reducible refine CallX.all ?_); refine CallW.of_ok (kAk _ rfl) ?_; conv => whnf) | ((with_reducible refine CallX.all ?_); refine CallW.of_ok (kSk _ rfl rfl) ?_; conv => whnf) | ((with_reducible refine And.intro ?hh ?_); (case hh => exact condA); conv => whnf) | fail))
      refine YldX.all ?_
      refine YldW.inline rfl rfl rfl (WpR.of_vc ?_)
      conv => whnf
      refine ⟨rfl, _, rfl, rfl, WpR.of_vc ?_⟩
      (conv => whnf); (repeat' (first | ((with_reducible refine ifb_mk (fun hc => ?_) (fun hc => ?_)) <;> ((try simp only [decide_eq_true_eq, decide_eq_false_iff_not, Bool.not_eq_true', Bool.not_eq_false', Int.not_lt, Int.not_le, ne_eq, Decidable.not_not, beq_iff_eq, List.cons.injEq, and_true] at hc); (first | (exfalso; omega) | exact absurd True.intro hc | conv => whnf))) | ((with_reducible refine And.intro True.intro ?_); conv => whnf) | ((with_reducible refine CallX.all ?_); refine CallW.of_ok (kSk _ rfl rfl) ?_; conv => whnf) | ((with_reducible refine And.intro ?hh ?_); (case hh => exact condA); conv => whnf) | fail))
      refine ⟨_, _, rfl, ?_⟩
      (conv => whnf); (repeat' (first | ((with_reducible refine ifb_mk (fun hc => ?_) (fun hc => ?_)) <;> ((try simp only [decide_eq_true_eq, decide_eq_false_iff_not, Bool.not_eq_true', Bool.not_eq_false', Int.not_lt, Int.not_le, ne_eq, Decidable.not_not, beq_iff_eq, List.cons.injEq, and_true] at hc); (first | (exfalso; omega) | exact absurd True.intro hc | conv => whnf))) | ((with_reducible refine And.intro True.intro ?_); conv => whnf) | ((with_reducible refine And.intro ?hh ?_); (case hh => exact condA); conv => whnf) | fail))
      exact ⟨k + 1, [], by omega, ⟨by omega, fun j hj => by by_cases he : j = k; (subst he; omega); exact hle j (by omega)⟩, Back.auto⟩
  · have e : I = n := hno fun j hj => hle j (by omega)
    subst e
    unfold fstV
    rw [if_neg (Nat.lt_irrefl _)]
    (conv => whnf); (repeat' (first | ((with_reducible refine ifb_mk (fun hc => ?_) (fun hc => ?_)) <;> ((try simp only [decide_eq_true_eq, decide_eq_false_iff_not, Bool.not_eq_true', Bool.not_eq_false', Int.not_lt, Int.not_le, ne_eq, Decidable.not_not, beq_iff_eq, List.cons.injEq, and_true] at hc); (first | (exfalso; omega) | exact absurd True.intro hc | conv => whnf))) | ((with_reducible refine And.intro True.intro ?_); conv => whnf) | ((with_reducible refine grd_and ?_); refine And.intro (hkl) ?_; conv => whnf) | ((with_reducible refine And.intro ?hh ?_); (case hh => exact condA); conv => whnf) | fail))
    exact ⟨rfl, ⟨_, rfl, hself⟩, ⟨_, rfl, encM_sub⟩, ⟨_, rfl, SubQ.same (n := 2) (Y := []) (fun _ _ _ => rfl) (ltB_all rfl) (avB_nil _) rfl⟩, trivial⟩
theorem one_sub {ρ : Nat → Nat} {j k : Nat} (h : ρ j = k) : SubQ ρ (.cells (ofL [.ptr j 0] 0) true none) (.cells (ofL [.ptr k 0] 0) true none) := by
  refine .cells (fun i v hv => ?_) id (.inr rfl)
  rw [get_ofL, if_pos (Nat.zero_le _), Nat.sub_zero] at hv ⊢
  match i with
  | 0 => simp at hv; subst hv; subst h; rfl
  | i + 1 => simp at hv
theorem one_im {ρ : Nat → Nat} {j k : Nat} (h : ρ j = k) : ImB ρ (.cells (ofL [.ptr j 0] 0) true none) (.cells (ofL [.ptr k 0] 0) true none) := by
  refine .cells fun i v hv => ?_
  rw [get_ofL, if_pos (Nat.zero_le _), Nat.sub_zero] at hv ⊢
  match i with
  | 0 => simp at hv; subst hv; subst h; exact ⟨.ptr j 0, rfl, rfl⟩
  | i + 1 => simp at hv
theorem ptr_of {m : M} {b : Nat} {x : Value} (h : VR m (.ptr b 0) x) : m b ≠ none := by
  cases h with
  | ptr hq => exact fun hc => by rw [hq] at hc; cases hc
theorem fstV_bare (W n i : Nat) : bare (fstV W n i) = true := by unfold fstV; split <;> rfl
theorem first_ok (h : As.H) (s mb bx W H : Nat) (hW : 1 ≤ W ∧ W ≤ 6) (hH : 1 ≤ H ∧ H ≤ 6) (D : V) (hD : bare0 D = true) (a u : Nat → Int) (E : List En) (c : Nat) (hm : MapOk W (W * H) a E)
    {cs : Tr V} (hs : h.get s = some (.cells cs true none)) (hcs : ∀ k, cs.get k = (BC W H D a u mb).get k) (he : h.get mb = some (.map (encM E) c)) (hx : h.get bx = some (.cells (ofL [.ptr s 0] 0) true none)) (hsx : s ≠ bx) :
    CallOk Try.prog 79 [spotsF bx, standsF s] h (fstV W (W * H) (fst4 a (W * H))) h := by
  have hne : s ≠ mb := fun e => by rw [e, he] at hs; cases hs
  have hne2 : mb ≠ bx := fun e => by rw [e, hx] at he; cases he
  refine CallOk.of_at (argsC := [spotsF 2, standsF 0]) (r3 s mb bx) (first_w W H hW hH D hD a u E c hm) rfl (fun i j hi hj e => ?_) (fun k b hk => ?_) (fun k b hk => ?_) (fun i hi => rfl) rfl (Nat.le_refl _) (fun i hi => rfl) rfl (fun base m w xs hr hvs k hk => ?_) (fstV_bare _ _ _)
  · match i, j with
    | 0, 0 => rfl
    | 1, 1 => rfl
    | 2, 2 => rfl
    | 0, 1 => exact absurd e hne
    | 0, 2 => exact absurd e hsx
    | 1, 0 => exact absurd e.symm hne
    | 1, 2 => exact absurd e hne2
    | 2, 0 => exact absurd e.symm hsx
    | 2, 1 => exact absurd e.symm hne2
    | i + 3, _ => simp only [List.length_cons, List.length_nil] at hi; omega
    | 0, j + 3 => simp only [List.length_cons, List.length_nil] at hj; omega
    | 1, j + 3 => simp only [List.length_cons, List.length_nil] at hj; omega
    | 2, j + 3 => simp only [List.length_cons, List.length_nil] at hj; omega
  · match k, hk with
    | 0, hk => cases hk; exact ⟨_, hs, bb_view3 hD hcs, bb_lt hD (Nat.le_of_ble_eq_true rfl), rfl⟩
    | 1, hk => cases hk; exact ⟨_, he, encM_sub, encM_lt, rfl⟩
    | 2, hk => cases hk; exact ⟨_, hx, one_sub rfl, ltB_all rfl, rfl⟩
    | k + 3, hk => simp at hk
  · match k, hk with
    | 0, hk => cases hk; exact ⟨_, hs, bb_imv3 hD hcs, bb_lt hD (Nat.le_of_ble_eq_true rfl)⟩
    | 1, hk => cases hk; exact ⟨_, he, .map (fun e he => by obtain ⟨q, _, rfl⟩ := List.mem_map.1 he; rfl), encM_lt⟩
    | 2, hk => cases hk; exact ⟨_, hx, one_im rfl, ltB_all rfl⟩
    | k + 3, hk => simp at hk
  · obtain ⟨x0, xs', rfl, h0, hr'⟩ := hvs.uncons
    obtain ⟨x1, xs'', rfl, h1, _⟩ := hr'.uncons
    have d2 : m bx ≠ none := by
      cases h0 with
      | fn la ha lb hb =>
        rename_i a' b'
        have hlt : 0 < b'.size := by rw [← lb]; exact Nat.one_pos
        exact ptr_of (hb 0 _ _ rfl (Array.getElem?_eq_getElem hlt))
    have d0 : m s ≠ none := by
      cases h1 with
      | fn la ha lb hb =>
        rename_i a' b'
        have hlt : 0 < a'.size := by rw [← la]; exact Nat.one_pos
        exact ptr_of (ha 0 _ _ rfl (Array.getElem?_eq_getElem hlt))
    match k, hk with
    | 0, _ => exact d0
    | 1, _ => exact blk_dom hs hcs hr d0
    | 2, _ => exact d2
    | k + 3, hk => simp only [List.length_cons, List.length_nil] at hk; omega
end Go.Proofs.H

