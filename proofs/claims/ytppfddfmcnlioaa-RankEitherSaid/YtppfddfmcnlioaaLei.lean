/- What the functions answer that the laws call, one after another (Lei). -/
import Derived.Test.YtppfddfmcnlioaaAs6
import Derived.Test.YtppfddfmcnlioaaWlk
import Derived.Test.YtppfddfmcnlioaaCnt
import Derived.Test.YtppfddfmcnlioaaLb

set_option linter.unusedVariables false
namespace Go.Proofs.J
open Go.As
set_option maxRecDepth 20000
set_option linter.unusedVariables false
set_option linter.unusedSimpArgs false

/-! ### Order, Count, Circle -/

theorem circle_ok (h : As.H) (S : Nat) (ex : Bool) (n : Nat) (a b : Nat → Int) (hv : ckB S n a b = 0) (c : Cy S (loT a b n) (clo (loT a b n))) :
    CallOk Try.prog 30 [bkV S ex n a b] h (.tup [.rsl true 1 (enW1 S (loT a b n) (clo (loT a b n)) - enW0 S (loT a b n) (clo (loT a b n))) (iG fun k => ((wkN S (loT a b n) (clo (loT a b n)) (enW0 S (loT a b n) (clo (loT a b n)) + k) : Nat) : Int)), .int .i64 0]) h :=
  CallOk.freeze (circle_new h S ex n a b hv c) (FzL.tup (.cons (arrFz (fun _ => rfl) rfl fun _ _ => rfl) (.cons (.same rfl) .nil))) (fun b hb => by rw [List.mem_singleton.1 hb]; rfl)
set_option maxHeartbeats 4000000 in
theorem circle_none (h : As.H) (S : Nat) (ex : Bool) (n : Nat) (a b : Nat → Int) (hv : ckB S n a b = 0) (ho : hoB S (clo (loT a b n)) = true) :
    CallOk Try.prog 30 [bkV S ex n a b] h (.tup [.nils, .int .i64 5]) h := by
  obtain ⟨hS, hn, hok⟩ := ckB_fine hv
  have kB : ∀ (h' : As.H) (s : Nat), s = h'.n + 0 → _ := fun h' s e => by
    have := skyFor_new h' S ex n a b hv
    rw [← e] at this
    exact this
  have hTb := clo_tb (loT a b n)
  generalize clo (loT a b n) = br at *
  generalize loT a b n = lk at *
  have kB := fun (h' : As.H) (e : 1 = h'.n + 0) => kB h' 1 e
  have kH := fun (h' : As.H) hs => hasOrder_ok h' 1 S hS (.rsl ex 2 n (lkG a b)) rfl lk br hTb (fun _ => false) (w := true) (g := none) hs
  rw [ho] at kH
  refine CallOk.run0 Try.func30 rfl rfl rfl rfl rfl (WpR.of_vc ?_)
  (conv => whnf); (repeat' (first | ((with_reducible refine ifb_mk (fun hc => ?_) (fun hc => ?_)) <;> ((try simp only [decide_eq_true_eq, decide_eq_false_iff_not, Bool.not_eq_true', Bool.not_eq_false', Int.not_lt, Int.not_le, ne_eq, Decidable.not_not, beq_iff_eq, List.cons.injEq, and_true] at hc); (first | (exfalso; omega) | exact absurd True.intro hc | conv => whnf))) | ((with_reducible refine And.intro True.intro ?_); conv => whnf) | ((with_reducible refine CallX.all ?_); refine CallW.of_ok (kB _ (by rfl)) ?_; conv => whnf) | ((with_reducible refine CallX.all ?_); refine CallW.of_ok (kH _ rfl) ?_; conv => whnf) | ((with_reducible refine And.intro ?hh ?_); (case hh => exact condA); conv => whnf) | fail))
  all_goals first | (refine ⟨[], ?_, rfl, rfl, trivial, trivs⟩; simp only [renV, renL]; (first | done | rfl | (simp; done) | (simp; omega) | grind)) | (exfalso; omega)
set_option maxHeartbeats 4000000 in
theorem count_top (h : As.H) (S : Nat) (ex : Bool) (n : Nat) (a b : Nat → Int) (hv : ckB S n a b = 0) :
    CallOk Try.prog 28 [bkV S ex n a b] h (.tup [.int .i64 (wN (clo (loT a b n)) S S 0), .int .i64 0]) h := by
  obtain ⟨hS, hn, hok⟩ := ckB_fine hv
  have kB : ∀ (h' : As.H) (s : Nat), s = h'.n + 0 → _ := fun h' s e => by
    have := skyFor_new h' S ex n a b hv
    rw [← e] at this
    exact this
  have hTb := clo_tb (loT a b n)
  generalize clo (loT a b n) = br at *
  generalize loT a b n = lk at *
  have kB := fun (h' : As.H) (e : 1 = h'.n + 0) => kB h' 1 e
  have kC := fun (h' : As.H) hs => count_ok h' 1 S hS (.rsl ex 2 n (lkG a b)) rfl lk br hTb (fun _ => false) (w := true) (g := none) hs
  generalize wN br S S 0 = r at *
  refine CallOk.run0 Try.func28 rfl rfl rfl rfl rfl (WpR.of_vc ?_)
  (conv => whnf); (repeat' (first | ((with_reducible refine ifb_mk (fun hc => ?_) (fun hc => ?_)) <;> ((try simp only [decide_eq_true_eq, decide_eq_false_iff_not, Bool.not_eq_true', Bool.not_eq_false', Int.not_lt, Int.not_le, ne_eq, Decidable.not_not, beq_iff_eq, List.cons.injEq, and_true] at hc); (first | (exfalso; omega) | exact absurd True.intro hc | conv => whnf))) | ((with_reducible refine And.intro True.intro ?_); conv => whnf) | ((with_reducible refine CallX.all ?_); refine CallW.of_ok (kB _ (by rfl)) ?_; conv => whnf) | ((with_reducible refine CallX.all ?_); refine CallW.of_ok (kC _ rfl) ?_; conv => whnf) | ((with_reducible refine And.intro ?hh ?_); (case hh => exact condA); conv => whnf) | fail))
  all_goals first | (refine ⟨[], ?_, rfl, rfl, trivial, trivs⟩; simp only [renV, renL]; (first | done | rfl | (simp; done) | (simp; omega) | grind)) | (exfalso; omega)
set_option maxHeartbeats 4000000 in
theorem order_top (h : As.H) (S : Nat) (ex : Bool) (n : Nat) (a b : Nat → Int) (hv : ckB S n a b = 0) (c : Ac S (clo (loT a b n))) (ho : hoB S (clo (loT a b n)) = true) :
    CallOk Try.prog 26 [bkV S ex n a b] h (.tup [.rsl true 1 S (iG fun k => ((stN S (clo (loT a b n)) k : Nat) : Int)), .int .i64 0]) h := by
  obtain ⟨hS, hn, hok⟩ := ckB_fine hv
  have kB : ∀ (h' : As.H) (s : Nat), s = h'.n + 0 → _ := fun h' s e => by
    have := ordSky_new h' S ex n a b hv ho
    rw [← e] at this
    exact this
  generalize clo (loT a b n) = br at *
  generalize loT a b n = lk at *
  have kB := fun (h' : As.H) (e : 1 = h'.n + 0) => kB h' 1 e
  have kO := fun (h' : As.H) hs => order_ok h' 1 S hS (.rsl ex 2 n (lkG a b)) rfl lk br c (fun _ => false) (w := true) (g := none) hs
  generalize stN S br = st at *
  refine CallOk.run0 Try.func26 rfl rfl rfl rfl rfl (WpR.of_vc ?_)
  (conv => whnf); (repeat' (first | ((with_reducible refine ifb_mk (fun hc => ?_) (fun hc => ?_)) <;> ((try simp only [decide_eq_true_eq, decide_eq_false_iff_not, Bool.not_eq_true', Bool.not_eq_false', Int.not_lt, Int.not_le, ne_eq, Decidable.not_not, beq_iff_eq, List.cons.injEq, and_true] at hc); (first | (exfalso; omega) | exact absurd True.intro hc | conv => whnf))) | ((with_reducible refine And.intro True.intro ?_); conv => whnf) | ((with_reducible refine CallX.all ?_); refine CallW.of_ok (kB _ (by rfl)) ?_; conv => whnf) | ((with_reducible refine CallX.all ?_); refine CallW.of_ok (kO _ rfl) ?_; conv => whnf) | ((with_reducible refine And.intro ?hh ?_); (case hh => exact condA); conv => whnf) | fail))
  all_goals first | (refine ⟨[], ?_, rfl, rfl, trivial, trivs⟩; simp only [renV, renL]; (first | done | rfl | (simp; done) | (simp; omega) | grind)) | (exfalso; omega)
set_option maxHeartbeats 4000000 in
theorem order_rule (h : As.H) (S : Nat) (ex : Bool) (n : Nat) (a b : Nat → Int) (hv : ckB S n a b = 0) (ho : hoB S (clo (loT a b n)) = false) :
    CallOk Try.prog 26 [bkV S ex n a b] h (.tup [.nils, .int .i64 16]) h := by
  obtain ⟨hS, hn, hok⟩ := ckB_fine hv
  have kB := fun h' => ordSky_rule h' S ex n a b hv ho
  refine CallOk.run0 Try.func26 rfl rfl rfl rfl rfl (WpR.of_vc ?_)
  (conv => whnf); (repeat' (first | ((with_reducible refine ifb_mk (fun hc => ?_) (fun hc => ?_)) <;> ((try simp only [decide_eq_true_eq, decide_eq_false_iff_not, Bool.not_eq_true', Bool.not_eq_false', Int.not_lt, Int.not_le, ne_eq, Decidable.not_not, beq_iff_eq, List.cons.injEq, and_true] at hc); (first | (exfalso; omega) | exact absurd True.intro hc | conv => whnf))) | ((with_reducible refine And.intro True.intro ?_); conv => whnf) | ((with_reducible refine CallX.all ?_); refine CallW.of_ok (kB _) ?_; conv => whnf) | ((with_reducible refine And.intro ?hh ?_); (case hh => exact condA); conv => whnf) | fail))
  all_goals first | (refine ⟨[], ?_, rfl, rfl, trivial, trivs⟩; simp only [renV, renL]; (first | done | rfl | (simp; done) | (simp; omega) | grind)) | (exfalso; omega)
end Go.Proofs.J

namespace Go.Proofs.J
open Go.As
set_option maxRecDepth 20000
set_option linter.unusedVariables false
set_option linter.unusedSimpArgs false

/-! ### Either an order or a circle -/

section
variable {S n : Nat} {a b : Nat → Int}
theorem lk_in (hok : ∀ i, i < n → okL S a b i = true) {x y : Nat} (h : (loT a b n y).testBit x = true) : x < S ∧ y < S ∧ x ≠ y := by
  obtain ⟨i, hi, h1, h2⟩ := (loT_bit hok).1 h
  have := of_decide_eq_true (hok i hi)
  omega
theorem rch_in (hok : ∀ i, i < n → okL S a b i = true) {x y : Nat} (r : Rch (loT a b n) x y) : x < S ∧ y < S := by
  induction r with
  | one h => have := lk_in hok h; omega
  | step h r ih => have := lk_in hok h; omega
theorem ho_no {br : Nat → Nat} (h : hoB S br = true) : ∀ i, i < S → (br i).testBit i = false := fun i hi => by
  have := allF_iff.1 h i hi
  rwa [Bool.not_eq_true'] at this
theorem ho_ex {br : Nat → Nat} (h : hoB S br = false) : ∃ x, x < S ∧ (br x).testBit x = true := by
  have h2 : anyF S (fun x => (br x).testBit x) = true := by unfold anyF; unfold hoB at h; rw [h]; rfl
  exact anyF_iff.1 h2
theorem ac_of (hok : ∀ i, i < n → okL S a b i = true) (ho : hoB S (clo (loT a b n)) = true) : Ac S (clo (loT a b n)) where
  tb := clo_tb _
  st := fun i j _ h => (rch_in hok (clo_bit.1 h).2).1
  tr := fun i j _ h k hk => clo_bit.2 ⟨(clo_bit.1 hk).1, (clo_bit.1 hk).2.trans (clo_bit.1 h).2⟩
  no := ho_no ho
theorem cy_of (hS : S ≤ 10) (hok : ∀ i, i < n → okL S a b i = true) (ho : hoB S (clo (loT a b n)) = false) : Cy S (loT a b n) (clo (loT a b n)) where
  tb := loT_tb hS hok
  eq := rfl
  st := fun i j _ h => ⟨(lk_in hok h).1, (lk_in hok h).2.1⟩
  no := fun i _ => by
    cases h : (loT a b n i).testBit i with
    | false => rfl
    | true => exact absurd rfl (lk_in hok h).2.2
  cy := ho
/-- The first order is one. -/
theorem first_ok (hS : S ≤ 10) (c : Ac S (clo (loT a b n))) : coE S n a b S (fun k => ((stN S (clo (loT a b n)) k : Nat) : Int)) = 0 := by
  unfold coE
  have hst := stN_ok hS c
  generalize clo (loT a b n) = br at *
  have hg : gdN S (fun k => ((stN S br k : Nat) : Int)) S = S := gdN_all.2 fun i hi => by
    obtain ⟨h1, h2, _⟩ := hst i hi
    unfold gdP
    rw [decide_eq_true (by show (0 : Int) ≤ ((stN S br i : Nat) : Int) ∧ ((stN S br i : Nat) : Int) ≤ (S : Int) - 1; omega), Bool.true_and, Bool.not_eq_true']
    rw [gG_bit] at h2
    unfold mkF
    rw [← h2]
    refine Bool.eq_iff_iff.2 ?_
    rw [anyF_iff, anyF_iff]
    refine exists_congr fun j => and_congr_right fun _ => ?_
    rw [decide_eq_true_eq, decide_eq_true_eq]
    simp only [Int.toNat_natCast]
    omega
  have ho : orB br (fun k => ((stN S br k : Nat) : Int)) S = true := by
    unfold orB
    refine allF_iff.2 fun i hi => ?_
    obtain ⟨_, _, h3⟩ := hst i hi
    have e : gF (fun k => ((stN S br k : Nat) : Int)) i = gG S br i := Nat.eq_of_testBit_eq fun x => by
      rw [gF_bit, gG_bit]
      rfl
    rw [e]
    exact h3
  rw [if_pos rfl, if_pos hg, if_pos ho]
/-- Where there is an order no star is brighter than itself. -/
theorem order_ho (hok : ∀ i, i < n → okL S a b i = true) {k : Nat} {l : Nat → Int} (h : coE S n a b k l = 0) : hoB S (clo (loT a b n)) = true := by
  unfold coE at h
  (repeat' split at h) <;> first | (cases h; done) | skip
  rename_i hk hg ho
  obtain ⟨hst, hds⟩ := gd_iff.1 hg
  rw [dsB_iff] at hds
  have hst : ∀ i, i < k → 0 ≤ l i ∧ l i < (S : Int) := fun i hi => of_decide_eq_true (allF_iff.1 hst i hi)
  cases hh : hoB S (clo (loT a b n)) with
  | true => rfl
  | false =>
    exfalso
    obtain ⟨x, hx, hxx⟩ := ho_ex hh
    obtain ⟨q, hq, hqx⟩ : ∃ q, q < k ∧ (l q).toNat = x := by
      rw [hk]
      refine php S (fun i => (l i).toNat) (fun i hi => by have := hst i (by omega); (try dsimp only); omega) (fun i j hi hj he => ?_) x hx
      (try dsimp only at he)
      have h1 := hst i (by omega)
      have h2 := hst j (by omega)
      apply Classical.byContradiction
      intro hne
      rcases Nat.lt_or_gt_of_ne hne with hlt | hlt
      · exact hds j i (by omega) hlt (by omega)
      · exact hds i j (by omega) hlt (by omega)
    have hs := allF_iff.1 ho q hq
    rw [hqx, subB_iff (by have := clo_lt (loT a b n) x; omega)] at hs
    have hb := hs x hxx
    rw [gF_bit, anyF_iff] at hb
    obtain ⟨j, hj, he⟩ := hb
    have he := of_decide_eq_true he
    have h1 := hst j (by omega)
    have h2 := hst q hq
    exact hds q j hq hj (by omega)
theorem circle_ho (hok : ∀ i, i < n → okL S a b i = true) (hS : S ≤ 10) {k : Nat} {l : Nat → Int} (h : ciE S n a b k l = 0) : hoB S (clo (loT a b n)) = false := by
  rw [ciE_eq hok] at h
  (repeat' split at h) <;> first | (cases h; done) | skip
  rename_i hk hst hc
  have hst : ∀ i, i < k → 0 ≤ l i ∧ l i < (S : Int) := fun i hi => of_decide_eq_true (allF_iff.1 hst i hi)
  have hl : ∀ i, i < k → (loT a b n (l ((i + 1) % k)).toNat).testBit (l i).toNat = true := fun i hi => by
    have hm : (i + 1) % k < k := Nat.mod_lt _ (by omega)
    rw [lk_bit hok (hst i hi).1 (hst _ hm).1]
    exact allF_iff.1 hc i hi
  have hr : ∀ d, 0 < d → d < k → Rch (loT a b n) (l 0).toNat (l d).toNat := fun d => by
    induction d with
    | zero => intro h; omega
    | succ d ih =>
      intro _ hd
      have h1 := hl d (by omega)
      rw [Nat.mod_eq_of_lt hd] at h1
      by_cases e : d = 0
      · subst e; exact .one h1
      · exact (ih (by omega) (by omega)).trans (.one h1)
  have h1 := hl (k - 1) (by omega)
  rw [show k - 1 + 1 = k from by omega, Nat.mod_self] at h1
  have h2 := (hr (k - 1) (by omega) (by omega)).trans (.one h1)
  have h0 := hst 0 (by omega)
  cases hh : hoB S (clo (loT a b n)) with
  | false => rfl
  | true =>
    have := ho_no hh (l 0).toNat (by omega)
    rw [clo_bit.2 ⟨by omega, h2⟩] at this
    cases this
/-- The walk leads to a circle. -/
theorem walk_ok (hok : ∀ i, i < n → okL S a b i = true) (hS : S ≤ 10) (c : Cy S (loT a b n) (clo (loT a b n))) :
    ciE S n a b (enW1 S (loT a b n) (clo (loT a b n)) - enW0 S (loT a b n) (clo (loT a b n))) (fun k => ((wkN S (loT a b n) (clo (loT a b n)) (enW0 S (loT a b n) (clo (loT a b n)) + k) : Nat) : Int)) = 0 := by
  rw [ciE_eq hok]
  have hw := c.walk hS
  have hs := c.step hS
  obtain ⟨h1, _, _⟩ := c.ends hS
  obtain ⟨h2, h3, _⟩ := c.first hS
  generalize enW1 S (loT a b n) (clo (loT a b n)) = m at *
  generalize enW0 S (loT a b n) (clo (loT a b n)) = d at *
  generalize wkN S (loT a b n) (clo (loT a b n)) = wk at *
  have hcj : cjB n a b (fun k => ((wk (d + k) : Nat) : Int)) (m - d) = true := by
    unfold cjB
    refine allF_iff.2 fun i hi => ?_
    have e : wk (d + (i + 1) % (m - d)) = wk (d + i + 1) := by
      by_cases he : i + 1 = m - d
      · rw [he, Nat.mod_self, Nat.add_zero, h3, show d + i + 1 = m from by omega]
      · rw [Nat.mod_eq_of_lt (by omega), Nat.add_assoc]
    have hb := hs (d + i)
    rw [Bool.and_eq_true] at hb
    rw [← lk_bit hok (by show (0 : Int) ≤ ((wk (d + i) : Nat) : Int); omega) (by show (0 : Int) ≤ ((wk (d + (i + 1) % (m - d)) : Nat) : Int); omega)]
    simp only [Int.toNat_natCast]
    rw [e]
    exact hb.1
  have hst : stB S (fun k => ((wk (d + k) : Nat) : Int)) (m - d) = true := allF_iff.2 fun i _ => decide_eq_true (by have := (hw (d + i)).1; show (0 : Int) ≤ ((wk (d + i) : Nat) : Int) ∧ ((wk (d + i) : Nat) : Int) < (S : Int); omega)
  rw [if_pos (by omega), if_pos hst, if_pos hcj]
end
theorem smZ_pos {f : Nat → Int} {y : Nat} : ∀ n, (∀ k, k < n → 0 ≤ f k) → y < n → 0 < f y → 0 < smZ n f
  | 0, _, hy, _ => by omega
  | n + 1, h, hy, hf => by
    have h0 : 0 ≤ smZ n f := by
      have : ∀ m, m ≤ n → 0 ≤ smZ m f := fun m => by
        induction m with
        | zero => intro _; exact Int.le_refl 0
        | succ m ih => intro hm; unfold smZ; have := ih (by omega); have := h m (by omega); omega
      exact this n (Nat.le_refl _)
    unfold smZ
    by_cases e : y = n
    · subst e; omega
    · have := smZ_pos n (fun k hk => h k (by omega)) (by omega) hf
      have := h n (by omega)
      omega
theorem pcN_all' {g S : Nat} (h : ∀ x, x < S → g.testBit x = true) : pcN g S = S := by
  induction S with
  | zero => rfl
  | succ S ih => unfold pcN; rw [ih fun x hx => h x (by omega), if_pos (h S (by omega))]
theorem ways_pos {br : Nat → Nat} {S : Nat} (hS : S ≤ 10) (c : Ac S br) : ∀ m g, pcN g S + m = S → 0 < wN br S m g
  | 0, g, _ => by unfold wN; decide
  | m + 1, g, h => by
    have hx : ∃ x, x < S ∧ g.testBit x = false := by
      apply Classical.byContradiction
      intro hc
      have : pcN g S = S := pcN_all' fun x hx => by
        cases hb : g.testBit x with
        | true => rfl
        | false => exact absurd ⟨x, hx, hb⟩ hc
      omega
    obtain ⟨x, hx, hg⟩ := hx
    obtain ⟨y, hy, hyb⟩ := next_ex hS c (br x) x hx hg (Nat.le_refl _)
    have hgy : g.testBit y = false := by rw [Bool.and_eq_true, Bool.not_eq_true'] at hyb; exact hyb.1
    unfold wN
    refine smZ_pos (y := y) S (fun k _ => ?_) hy ?_
    · (try dsimp only)
      split
      · exact (wN_rng hS m _).1
      · exact Int.le_refl 0
    · (try dsimp only)
      rw [if_pos (show elB br g y = true from hyb)]
      exact ways_pos hS c m _ (by rw [pcN_with hgy, if_pos hy]; omega)
theorem ways_none {br : Nat → Nat} {S x : Nat} (hx : x < S) (hbl : br x < 65536) (hxx : (br x).testBit x = true) : ∀ m g, pcN g S + m = S → g.testBit x = false → wN br S m g = 0
  | 0, g, h, hg => by have := pcN_all (g := g) (n := S) (by omega) x hx; rw [hg] at this; cases this
  | m + 1, g, h, hg => by
    unfold wN
    refine smZ_zero S fun y hy => ?_
    (try dsimp only)
    split
    · rename_i he
      unfold elB at he
      rw [Bool.and_eq_true, Bool.not_eq_true'] at he
      have hne : x ≠ y := fun e => by
        subst e
        have := (subB_iff hbl).1 he.2 x hxx
        rw [hg] at this; cases this
      refine ways_none hx hbl hxx m _ (by rw [pcN_with he.1, if_pos hy]; omega) ?_
      rw [testBit_with, hg, Bool.false_or]
      exact decide_eq_false hne
    · rfl
end Go.Proofs.J

namespace Go.Proofs.J
open Go.As
set_option maxRecDepth 20000
set_option linter.unusedVariables false
set_option linter.unusedSimpArgs false

theorem fine_ok (h : As.H) (S : Int) (ex : Bool) (n : Nat) (a b : Nat → Int) (hn : n ≤ 9223372036854775807) : CallOk Try.prog 46 [bkV S ex n a b] h (.bool (!decide (50 < n) && decide (ckB S n a b = 0))) h := by
  have kG := fun h' => great_ok h' S ex n a b
  have k2 := fun h' => checkBookR_ok h' S ex n a b hn
  by_cases h1 : 50 < n
  · rw [decide_eq_true h1] at kG
    rw [decide_eq_true h1]
    refine CallOk.run0 Try.func46 rfl rfl rfl rfl rfl (WpR.of_vc ?_)
    (conv => whnf); (repeat' (first | ((with_reducible refine ifb_mk (fun hc => ?_) (fun hc => ?_)) <;> ((try simp only [decide_eq_true_eq, decide_eq_false_iff_not, Bool.not_eq_true', Bool.not_eq_false', Int.not_lt, Int.not_le, ne_eq, Decidable.not_not, beq_iff_eq, List.cons.injEq, and_true] at hc); (first | (exfalso; omega) | exact absurd True.intro hc | conv => whnf))) | ((with_reducible refine And.intro True.intro ?_); conv => whnf) | ((with_reducible refine CallX.all ?_); refine CallW.of_ok (kG _) ?_; conv => whnf) | ((with_reducible refine CallX.all ?_); refine CallW.of_ok (k2 _) ?_; conv => whnf) | ((with_reducible refine And.intro ?hh ?_); (case hh => exact condA); conv => whnf) | fail))
    all_goals first | (refine ⟨[], ?_, rfl, rfl, trivial, trivs⟩; simp only [renV, renL]; (first | done | rfl | (simp; done) | (simp; omega) | grind)) | (exfalso; omega)
  · rw [decide_eq_false h1] at kG
    rw [decide_eq_false h1]
    generalize ckB S n a b = e at *
    by_cases h2 : e = 0
    · rw [decide_eq_true h2]
      refine CallOk.run0 Try.func46 rfl rfl rfl rfl rfl (WpR.of_vc ?_)
      (conv => whnf); (repeat' (first | ((with_reducible refine ifb_mk (fun hc => ?_) (fun hc => ?_)) <;> ((try simp only [decide_eq_true_eq, decide_eq_false_iff_not, Bool.not_eq_true', Bool.not_eq_false', Int.not_lt, Int.not_le, ne_eq, Decidable.not_not, beq_iff_eq, List.cons.injEq, and_true] at hc); (first | (exfalso; omega) | exact absurd True.intro hc | conv => whnf))) | ((with_reducible refine And.intro True.intro ?_); conv => whnf) | ((with_reducible refine CallX.all ?_); refine CallW.of_ok (kG _) ?_; conv => whnf) | ((with_reducible refine CallX.all ?_); refine CallW.of_ok (k2 _) ?_; conv => whnf) | ((with_reducible refine grd_and ?_); refine And.intro (h2) ?_; conv => whnf) | ((with_reducible refine And.intro ?hh ?_); (case hh => exact condA); conv => whnf) | fail))
      all_goals first | (refine ⟨[], ?_, rfl, rfl, trivial, trivs⟩; simp only [renV, renL]; (first | done | rfl | (simp; done) | (simp; omega) | grind)) | (exfalso; omega)
    · rw [decide_eq_false h2]
      refine CallOk.run0 Try.func46 rfl rfl rfl rfl rfl (WpR.of_vc ?_)
      (conv => whnf); (repeat' (first | ((with_reducible refine ifb_mk (fun hc => ?_) (fun hc => ?_)) <;> ((try simp only [decide_eq_true_eq, decide_eq_false_iff_not, Bool.not_eq_true', Bool.not_eq_false', Int.not_lt, Int.not_le, ne_eq, Decidable.not_not, beq_iff_eq, List.cons.injEq, and_true] at hc); (first | (exfalso; omega) | exact absurd True.intro hc | conv => whnf))) | ((with_reducible refine And.intro True.intro ?_); conv => whnf) | ((with_reducible refine CallX.all ?_); refine CallW.of_ok (kG _) ?_; conv => whnf) | ((with_reducible refine CallX.all ?_); refine CallW.of_ok (k2 _) ?_; conv => whnf) | ((with_reducible refine grd_and ?_); refine And.intro (h2) ?_; conv => whnf) | ((with_reducible refine And.intro ?hh ?_); (case hh => exact condA); conv => whnf) | fail))
      all_goals first | (refine ⟨[], ?_, rfl, rfl, trivial, trivs⟩; simp only [renV, renL]; (first | done | rfl | (simp; done) | (simp; omega) | grind)) | (exfalso; omega)
theorem pc_zero : ∀ n, pcN 0 n = 0
  | 0 => rfl
  | n + 1 => by unfold pcN; rw [pc_zero n, Nat.zero_testBit]; rfl
set_option maxHeartbeats 16000000 in
theorem lawEither (h : As.H) (S : Int) (n : Nat) (a b : Nat → Int) (hn : n ≤ 9223372036854775807) (k : Nat) (l : Nat → Int) (hk : k ≤ 9223372036854775807) :
    CallOk Try.prog 8 [bkV S false n a b, .rsl false 1 k (iG l)] h (.bool true) h := by
  have kWk := fun h : As.H => wwhole.everywhere rfl h
  have kG := fun h' => fine_ok h' S false n a b hn
  by_cases h1 : 50 < n ∨ ckB S n a b ≠ 0
  · have e : (!decide (50 < n) && decide (ckB S n a b = 0)) = false := by
      rcases h1 with h1 | h1
      · rw [decide_eq_true h1]; rfl
      · rw [decide_eq_false h1, Bool.and_false]
    rw [e] at kG
    refine CallOk.run0 Try.func8 rfl rfl rfl rfl rfl (WpR.of_vc ?_)
    (conv => whnf); (repeat' (first | ((with_reducible refine ifb_mk (fun hc => ?_) (fun hc => ?_)) <;> ((try simp only [decide_eq_true_eq, decide_eq_false_iff_not, Bool.not_eq_true', Bool.not_eq_false', Int.not_lt, Int.not_le, ne_eq, Decidable.not_not, beq_iff_eq, List.cons.injEq, and_true] at hc); (first | (exfalso; omega) | exact absurd True.intro hc | conv => whnf))) | ((with_reducible refine And.intro True.intro ?_); conv => whnf) | ((with_reducible refine CallX.all ?_); refine CallW.of_ok (kG _) ?_; conv => whnf) | ((with_reducible refine CallX.all ?_); refine CallW.of_ok (kWk _) ?_; conv => whnf) | ((with_reducible refine And.intro ?hh ?_); (case hh => exact condA); conv => whnf) | fail))
    all_goals first | (refine ⟨[], ?_, rfl, rfl, trivial, trivs⟩; simp only [renV, renL]; (first | done | rfl | (simp; done) | (simp; omega) | grind)) | (exfalso; omega)
  have hv : ckB S n a b = 0 := Classical.byContradiction fun hc => h1 (.inr hc)
  have e : (!decide (50 < n) && decide (ckB S n a b = 0)) = true := by rw [decide_eq_false (fun hc => h1 (.inl hc)), decide_eq_true hv]; rfl
  rw [e] at kG
  clear e h1
  by_cases h2 : 20 < k
  · refine CallOk.run0 Try.func8 rfl rfl rfl rfl rfl (WpR.of_vc ?_)
    (conv => whnf); (repeat' (first | ((with_reducible refine ifb_mk (fun hc => ?_) (fun hc => ?_)) <;> ((try simp only [decide_eq_true_eq, decide_eq_false_iff_not, Bool.not_eq_true', Bool.not_eq_false', Int.not_lt, Int.not_le, ne_eq, Decidable.not_not, beq_iff_eq, List.cons.injEq, and_true] at hc); (first | (exfalso; omega) | exact absurd True.intro hc | conv => whnf))) | ((with_reducible refine And.intro True.intro ?_); conv => whnf) | ((with_reducible refine CallX.all ?_); refine CallW.of_ok (kG _) ?_; conv => whnf) | ((with_reducible refine CallX.all ?_); refine CallW.of_ok (kWk _) ?_; conv => whnf) | ((with_reducible refine And.intro ?hh ?_); (case hh => exact condA); conv => whnf) | fail))
    all_goals first | (refine ⟨[], ?_, rfl, rfl, trivial, trivs⟩; simp only [renV, renL]; (first | done | rfl | (simp; done) | (simp; omega) | grind)) | (exfalso; omega)
  obtain ⟨s, rfl⟩ := ckB_nat hv
  obtain ⟨hS, hn4, hok⟩ := ckB_fine hv
  have k5 := fun h' => count_top h' s false n a b hv
  cases ho : hoB s (clo (loT a b n)) with
  | true =>
    have c := ac_of hok ho
    have k1 := fun h' => order_top h' s false n a b hv c ho
    have k2 := fun h' => circle_none h' s false n a b hv ho
    have hw : 0 < wN (clo (loT a b n)) s s 0 := ways_pos hS.2 c s 0 (by rw [pc_zero]; omega)
    have hwr := wN_rng (br := clo (loT a b n)) hS.2 s 0
    have k3 := fun h' => checkOrder_ok h' s false n a b hv true s (by omega) (fun k => ((stN s (clo (loT a b n)) k : Nat) : Int))
    have k4 := fun h' => checkOrderR_ok h' s false n a b hv true s (by omega) (fun k => ((stN s (clo (loT a b n)) k : Nat) : Int))
    rw [first_ok hS.2 c] at k3 k4
    have k6 := fun h' => checkCircle_ok h' s false n a b hv false k hk l
    have hne : ciE s n a b k l ≠ 0 := fun hc => by have := circle_ho hok hS.2 hc; rw [ho] at this; cases this
    generalize ciE s n a b k l = e2 at *
    generalize wN (clo (loT a b n)) s s 0 = w at *
    generalize stN s (clo (loT a b n)) = st at *
    refine CallOk.run0 Try.func8 rfl rfl rfl rfl rfl (WpR.of_vc ?_)
    (conv => whnf); (repeat' (first | ((with_reducible refine ifb_mk (fun hc => ?_) (fun hc => ?_)) <;> ((try simp only [decide_eq_true_eq, decide_eq_false_iff_not, Bool.not_eq_true', Bool.not_eq_false', Int.not_lt, Int.not_le, ne_eq, Decidable.not_not, beq_iff_eq, List.cons.injEq, and_true] at hc); (first | (exfalso; omega) | exact absurd True.intro hc | conv => whnf))) | ((with_reducible refine And.intro True.intro ?_); conv => whnf) | ((with_reducible refine CallX.all ?_); refine CallW.of_ok (kG _) ?_; conv => whnf) | ((with_reducible refine CallX.all ?_); refine CallW.of_ok (k1 _) ?_; conv => whnf) | ((with_reducible refine CallX.all ?_); refine CallW.of_ok (k2 _) ?_; conv => whnf) | ((with_reducible refine CallX.all ?_); refine CallW.of_ok (k3 _) ?_; conv => whnf) | ((with_reducible refine CallX.all ?_); refine CallW.of_ok (k4 _) ?_; conv => whnf) | ((with_reducible refine CallX.all ?_); refine CallW.of_ok (k5 _) ?_; conv => whnf) | ((with_reducible refine CallX.all ?_); refine CallW.of_ok (k6 _) ?_; conv => whnf) | ((with_reducible refine CallX.all ?_); refine CallW.of_ok (kWk _) ?_; conv => whnf) | ((with_reducible refine grd_ex ?_); refine ex_ok (k1 _) ?_; conv => whnf) | ((with_reducible refine grd_ex ?_); refine ex_ok (k2 _) ?_; conv => whnf) | ((with_reducible refine grd_ex ?_); refine ex_ok (k3 _) ?_; conv => whnf) | ((with_reducible refine grd_ex ?_); refine ex_ok (k4 _) ?_; conv => whnf) | ((with_reducible refine grd_ex ?_); refine ex_ok (k5 _) ?_; conv => whnf) | ((with_reducible refine grd_ex ?_); refine ex_ok (k6 _) ?_; conv => whnf) | ((with_reducible refine grd_ex ?_); refine ex_ok (kWk _) ?_; conv => whnf) | ((with_reducible refine And.intro ?hh ?_); (case hh => exact condA); conv => whnf) | fail))
    all_goals first | (refine ⟨[], ?_, rfl, rfl, trivial, trivs⟩; simp only [renV, renL]; (first | done | rfl | (simp; done) | (simp; omega) | grind)) | (exfalso; omega)
  | false =>
    have c := cy_of hS.2 hok ho
    have k1 := fun h' => order_rule h' s false n a b hv ho
    have k2 := fun h' => circle_ok h' s false n a b hv c
    obtain ⟨x, hx, hxx⟩ := ho_ex ho
    have hw : wN (clo (loT a b n)) s s 0 = 0 := ways_none hx (by have := clo_lt (loT a b n) x; omega) hxx s 0 (by rw [pc_zero]; omega) (Nat.zero_testBit x)
    have hd := (c.ends hS.2).1
    have k3 := fun h' => checkCircle_ok h' s false n a b hv true (enW1 s (loT a b n) (clo (loT a b n)) - enW0 s (loT a b n) (clo (loT a b n))) (by omega) (fun k => ((wkN s (loT a b n) (clo (loT a b n)) (enW0 s (loT a b n) (clo (loT a b n)) + k) : Nat) : Int))
    have k4 := fun h' => checkCircleR_ok h' s false n a b hv true (enW1 s (loT a b n) (clo (loT a b n)) - enW0 s (loT a b n) (clo (loT a b n))) (by omega) (fun k => ((wkN s (loT a b n) (clo (loT a b n)) (enW0 s (loT a b n) (clo (loT a b n)) + k) : Nat) : Int))
    rw [walk_ok hok hS.2 c] at k3 k4
    have k6 := fun h' => checkOrder_ok h' s false n a b hv false k hk l
    have hne : coE s n a b k l ≠ 0 := fun hc => by have := order_ho hok hc; rw [ho] at this; cases this
    rw [hw] at k5
    generalize coE s n a b k l = e2 at *
    generalize enW0 s (loT a b n) (clo (loT a b n)) = d at *
    generalize enW1 s (loT a b n) (clo (loT a b n)) = m at *
    generalize wkN s (loT a b n) (clo (loT a b n)) = wk at *
    generalize hmd : m - d = md at *
    refine CallOk.run0 Try.func8 rfl rfl rfl rfl rfl (WpR.of_vc ?_)
    (conv => whnf); (repeat' (first | ((with_reducible refine ifb_mk (fun hc => ?_) (fun hc => ?_)) <;> ((try simp only [decide_eq_true_eq, decide_eq_false_iff_not, Bool.not_eq_true', Bool.not_eq_false', Int.not_lt, Int.not_le, ne_eq, Decidable.not_not, beq_iff_eq, List.cons.injEq, and_true] at hc); (first | (exfalso; omega) | exact absurd True.intro hc | conv => whnf))) | ((with_reducible refine And.intro True.intro ?_); conv => whnf) | ((with_reducible refine CallX.all ?_); refine CallW.of_ok (kG _) ?_; conv => whnf) | ((with_reducible refine CallX.all ?_); refine CallW.of_ok (k1 _) ?_; conv => whnf) | ((with_reducible refine CallX.all ?_); refine CallW.of_ok (k2 _) ?_; conv => whnf) | ((with_reducible refine CallX.all ?_); refine CallW.of_ok (k3 _) ?_; conv => whnf) | ((with_reducible refine CallX.all ?_); refine CallW.of_ok (k4 _) ?_; conv => whnf) | ((with_reducible refine CallX.all ?_); refine CallW.of_ok (k5 _) ?_; conv => whnf) | ((with_reducible refine CallX.all ?_); refine CallW.of_ok (k6 _) ?_; conv => whnf) | ((with_reducible refine CallX.all ?_); refine CallW.of_ok (kWk _) ?_; conv => whnf) | ((with_reducible refine grd_ex ?_); refine ex_ok (k1 _) ?_; conv => whnf) | ((with_reducible refine grd_ex ?_); refine ex_ok (k2 _) ?_; conv => whnf) | ((with_reducible refine grd_ex ?_); refine ex_ok (k3 _) ?_; conv => whnf) | ((with_reducible refine grd_ex ?_); refine ex_ok (k4 _) ?_; conv => whnf) | ((with_reducible refine grd_ex ?_); refine ex_ok (k5 _) ?_; conv => whnf) | ((with_reducible refine grd_ex ?_); refine ex_ok (k6 _) ?_; conv => whnf) | ((with_reducible refine grd_ex ?_); refine ex_ok (kWk _) ?_; conv => whnf) | ((with_reducible refine And.intro ?hh ?_); (case hh => exact condA); conv => whnf) | fail))
    all_goals first | (refine ⟨[], ?_, rfl, rfl, trivial, trivs⟩; simp only [renV, renL]; (first | done | rfl | (simp; done) | (simp; omega) | grind)) | (exfalso; omega)
end Go.Proofs.J

