/- What the functions answer that the laws call, one after another (Pth). -/
import Derived.Test.YtgcnflpgolnjeaaAs6
import Derived.Test.YtgcnflpgolnjeaaMst
set_option linter.unusedVariables false
set_option linter.unusedSimpArgs false
namespace Go.Proofs.K
open Go.As
set_option maxRecDepth 20000
noncomputable def paB (m : Nat) (p : Nat → Int) : Blk := .cells (ofL (arrV m fun k => .int .i64 (p k)) 0) true none
theorem paB_lt {k m : Nat} {p : Nat → Int} : ltB k (paB m p) := ltB_ofLb (arrV_bare fun _ => rfl)
theorem path_new (h : As.H) (p : Nat → Int) (m : Nat) (hm : 1 ≤ m ∧ m ≤ 4) (d : Int) (hd : d + 1 = m) : CallOk Try.prog 58 [crV p, .int .i64 d] h (.sl (h.n + 0) 0 m m true) (addBs h [paB m p]) := by
  obtain ⟨h1, h2⟩ := hm
  have hd' : d = (m : Int) - 1 := by omega
  subst hd'
  clear hd
  refine CallOk.runN Try.func58 rfl rfl (argsC := [crV p, .int .i64 ((m : Int) - 1)]) (fun N => .sl (N + 0) 0 m m true) (fun _ => [paB m p]) (Nat.le_of_ble_eq_true rfl) [] (.cons (.lt0 rfl) (.cons (.bare rfl) .nil)) (viewM0 h) (.sl (i := 0) (Nat.le_of_ble_eq_true rfl) rfl rfl) rfl (fun i b hi => ?_) (WpR.of_vc ?_)
  · match i, hi with
    | 0, hi => cases hi; exact ⟨_, rfl, rfl, .bare (ofL_bare (arrV_bare fun _ => rfl))⟩
    | i + 1, hi => simp at hi
  · match m, h1, h2 with
    | 1, _, _ =>
      (conv => whnf); (repeat' (first | ((with_reducible refine ifb_mk (fun hc => ?_) (fun hc => ?_)) <;> ((try simp only [decide_eq_true_eq, decide_eq_false_iff_not, Bool.not_eq_true', Bool.not_eq_false', Int.not_lt, Int.not_le, ne_eq, Decidable.not_not, beq_iff_eq, List.cons.injEq, and_true] at hc); (first | (exfalso; omega) | exact absurd True.intro hc | conv => whnf))) | ((with_reducible refine And.intro True.intro ?_); conv => whnf) | ((with_reducible refine WpR.draw (id := 3) mixed [0, 1, 2, 3, 4] [0, 1, 0, 4, 15] ?hh ?_); (case hh => kernel_rfl); conv => whnf) | ((with_reducible refine And.intro ?hh ?_); (case hh => exact condA); conv => whnf) | fail))
      all_goals first | (exfalso; omega) | exact ⟨[1], rfl, rfl, rfl, ⟨⟨_, rfl, rfl, SubQ.fin (by (conv => whnf); (repeat' (first | exact True.intro | rfl | refine And.intro ?_ ?_)); done) (fun h => h) (.inl rfl)⟩, paB_lt, rfl, trivial⟩, trivs⟩
    | 2, _, _ =>
      (conv => whnf); (repeat' (first | ((with_reducible refine ifb_mk (fun hc => ?_) (fun hc => ?_)) <;> ((try simp only [decide_eq_true_eq, decide_eq_false_iff_not, Bool.not_eq_true', Bool.not_eq_false', Int.not_lt, Int.not_le, ne_eq, Decidable.not_not, beq_iff_eq, List.cons.injEq, and_true] at hc); (first | (exfalso; omega) | exact absurd True.intro hc | conv => whnf))) | ((with_reducible refine And.intro True.intro ?_); conv => whnf) | ((with_reducible refine WpR.draw (id := 3) mixed [0, 1, 2, 3, 4] [0, 1, 0, 4, 15] ?hh ?_); (case hh => kernel_rfl); conv => whnf) | ((with_reducible refine And.intro ?hh ?_); (case hh => exact condA); conv => whnf) | fail))
      all_goals first | (exfalso; omega) | exact ⟨[1], rfl, rfl, rfl, ⟨⟨_, rfl, rfl, SubQ.fin (by (conv => whnf); (repeat' (first | exact True.intro | rfl | refine And.intro ?_ ?_)); done) (fun h => h) (.inl rfl)⟩, paB_lt, rfl, trivial⟩, trivs⟩
    | 3, _, _ =>
      (conv => whnf); (repeat' (first | ((with_reducible refine ifb_mk (fun hc => ?_) (fun hc => ?_)) <;> ((try simp only [decide_eq_true_eq, decide_eq_false_iff_not, Bool.not_eq_true', Bool.not_eq_false', Int.not_lt, Int.not_le, ne_eq, Decidable.not_not, beq_iff_eq, List.cons.injEq, and_true] at hc); (first | (exfalso; omega) | exact absurd True.intro hc | conv => whnf))) | ((with_reducible refine And.intro True.intro ?_); conv => whnf) | ((with_reducible refine WpR.draw (id := 3) mixed [0, 1, 2, 3, 4] [0, 1, 0, 4, 15] ?hh ?_); (case hh => kernel_rfl); conv => whnf) | ((with_reducible refine And.intro ?hh ?_); (case hh => exact condA); conv => whnf) | fail))
      all_goals first | (exfalso; omega) | exact ⟨[1], rfl, rfl, rfl, ⟨⟨_, rfl, rfl, SubQ.fin (by (conv => whnf); (repeat' (first | exact True.intro | rfl | refine And.intro ?_ ?_)); done) (fun h => h) (.inl rfl)⟩, paB_lt, rfl, trivial⟩, trivs⟩
    | 4, _, _ =>
      (conv => whnf); (repeat' (first | ((with_reducible refine ifb_mk (fun hc => ?_) (fun hc => ?_)) <;> ((try simp only [decide_eq_true_eq, decide_eq_false_iff_not, Bool.not_eq_true', Bool.not_eq_false', Int.not_lt, Int.not_le, ne_eq, Decidable.not_not, beq_iff_eq, List.cons.injEq, and_true] at hc); (first | (exfalso; omega) | exact absurd True.intro hc | conv => whnf))) | ((with_reducible refine And.intro True.intro ?_); conv => whnf) | ((with_reducible refine WpR.draw (id := 3) mixed [0, 1, 2, 3, 4] [0, 1, 0, 4, 15] ?hh ?_); (case hh => kernel_rfl); conv => whnf) | ((with_reducible refine And.intro ?hh ?_); (case hh => exact condA); conv => whnf) | fail))
      all_goals first | (exfalso; omega) | exact ⟨[1], rfl, rfl, rfl, ⟨⟨_, rfl, rfl, SubQ.fin (by (conv => whnf); (repeat' (first | exact True.intro | rfl | refine And.intro ?_ ?_)); done) (fun h => h) (.inl rfl)⟩, paB_lt, rfl, trivial⟩, trivs⟩
theorem pa_fz {n0 i m : Nat} {p : Nat → Int} {ex : Bool} {news : List Blk} (hn : news[i]? = some (paB m p)) (b : Nat) (hb : b = n0 + i) : Fz n0 news (.sl b 0 m m ex) (.rsl false 1 m (iG p)) :=
  .sl (i := i) hb hn (fun h => by cases h) (Nat.le_refl _) (fun j _ => rfl) (fun j hj k v hv => by
    match k with
    | 0 =>
      have hv' : V.int .i64 (p j) = v := by simpa [iG] using hv
      subst hv'
      exact ⟨arrV_get (by omega) hj, rfl⟩
    | k + 1 => simp [iG] at hv)
theorem path_ok (h : As.H) (p : Nat → Int) (m : Nat) (hm : 1 ≤ m ∧ m ≤ 4) (d : Int) (hd : d + 1 = m) : CallOk Try.prog 58 [crV p, .int .i64 d] h (.rsl false 1 m (iG p)) h :=
  CallOk.freeze (path_new h p m hm d hd) (pa_fz (i := 0) rfl _ rfl) (fun b hb => by rw [List.mem_singleton.1 hb]; rfl)
end Go.Proofs.K
namespace Go.Proofs.K
open Go.As
set_option maxRecDepth 20000
def dfc (p : Nat → Int) : Nat → Int := fun k => cut 3 (fun k => p (k + 1)) k
def shK (p : Nat → Int) : Nat → Nat → Int
  | 0 => p
  | k + 1 => dfc (shK p k)
theorem dfc_sm {p : Nat → Int} {B : Int} (hB : 0 ≤ B) (h : Sm B 4 p) : Sm B 4 (dfc p) := fun k hk => by
  unfold dfc cut
  by_cases e : k < 3
  · rw [if_pos e]; exact h (k + 1) (by omega)
  · rw [if_neg e]; omega
theorem plc4 (q : Nat → Int) (d : Nat) : plc q d 4 = q 0 + q 1 * wy d 1 + q 2 * wy d 2 + q 3 * wy d 3 := by
  have e : plc q d 4 = 0 + q 0 * wy d 0 + q 1 * wy d 1 + q 2 * wy d 2 + q 3 * wy d 3 := rfl
  have e0 : (wy d 0 : Int) = 1 := rfl
  rw [e, e0]
  omega
theorem plc_step (q : Nat → Int) {d : Nat} (hd : d < 100) : plc q (d + 1) 4 - plc q d 4 = plc (dfc q) d 4 := by
  have h0 := (wy_at (k := 0) hd (by omega)).2.2
  have h1 := (wy_at (k := 1) hd (by omega)).2.2
  have h2 := (wy_at (k := 2) hd (by omega)).2.2
  have d0 : dfc q 0 = q 1 := rfl
  have d1 : dfc q 1 = q 2 := rfl
  have d2 : dfc q 2 = q 3 := rfl
  have d3 : dfc q 3 = 0 := rfl
  have w0 : wy d 0 = 1 := rfl
  rw [plc4, plc4, plc4, d0, d1, d2, d3, h0, h1, h2, w0]
  generalize wy d 1 = u1
  generalize wy d 2 = u2
  generalize wy d 3 = u3
  rw [Int.natCast_add, Int.natCast_add, Int.natCast_add, Int.mul_add, Int.mul_add, Int.mul_add]
  simp
  omega
theorem dif_shK (p : Nat → Int) {d : Nat} : ∀ k i, d + i + k < 100 → dif (fun i => plc p (d + i) 4) k i = plc (shK p k) (d + i) 4
  | 0, i, _ => rfl
  | k + 1, i, h => by
    show dif (fun i => plc p (d + i) 4) k (i + 1) - dif (fun i => plc p (d + i) 4) k i = _
    rw [dif_shK p k (i + 1) (by omega), dif_shK p k i (by omega)]
    show plc (shK p k) (d + i + 1) 4 - plc (shK p k) (d + i) 4 = _
    exact plc_step (d := d + i) (shK p k) (by omega)
theorem dif_congr {q r : Nat → Int} : ∀ k i, (∀ j, i ≤ j → j ≤ i + k → q j = r j) → dif q k i = dif r k i
  | 0, i, h => h i (Nat.le_refl _) (Nat.le_refl _)
  | k + 1, i, h => by
    show dif q k (i + 1) - dif q k i = dif r k (i + 1) - dif r k i
    rw [dif_congr k (i + 1) fun j h1 h2 => h j (by omega) (by omega), dif_congr k i fun j h1 h2 => h j (by omega) (by omega)]
def ltP (m : Nat) (a : Nat → Int) (d : Nat) : Nat → Int := fun k => dif (fun i => plc a (d + i) m) k 0
theorem ltP_eq {m : Nat} {a : Nat → Int} {d : Nat} (hm : m ≤ 4) (hd : d ≤ 60) {k : Nat} (hk : k < 4) : plc (shK (cut m a) k) d 4 = ltP m a d k := by
  have := dif_shK (cut m a) (d := d) k 0 (by omega)
  rw [Nat.add_zero] at this
  rw [← this]
  exact dif_congr k 0 fun j _ hj => plc_cut 4 hm
set_option maxHeartbeats 4000000 in
theorem later_ok (h : As.H) (p : Nat → Int) (d : Nat) (hd : d ≤ 60) (hp : Sm 8796093022208 4 p) : CallOk Try.prog 57 [crV p, .int .i64 d] h (crV fun k => plc (shK p k) d 4) h := by
  have k0 := fun h' => place_ok h' p d (by omega) hp
  have s1 := dfc_sm (by decide) hp
  have s2 := dfc_sm (by decide) s1
  have s3 := dfc_sm (by decide) s2
  have k1 := fun h' => place_ok h' _ d (by omega) s1
  have k2 := fun h' => place_ok h' _ d (by omega) s2
  have k3 := fun h' => place_ok h' _ d (by omega) s3
  have c1 : ∀ h' : As.H, CallOk Try.prog 79 [crV p] h' (crV (dfc p)) h' := fun h' => differences_ok h' p
  have c2 : ∀ h' : As.H, CallOk Try.prog 79 [crV (dfc p)] h' (crV (dfc (dfc p))) h' := fun h' => differences_ok h' (dfc p)
  have c3 : ∀ h' : As.H, CallOk Try.prog 79 [crV (dfc (dfc p))] h' (crV (dfc (dfc (dfc p)))) h' := fun h' => differences_ok h' (dfc (dfc p))
  have hr : crV (fun k => plc (shK p k) d 4) = .agg [.int .i64 (plc p d 4), .int .i64 (plc (dfc p) d 4), .int .i64 (plc (dfc (dfc p)) d 4), .int .i64 (plc (dfc (dfc (dfc p))) d 4)] := rfl
  rw [hr]
  clear hr s1 s2 s3
  generalize dfc (dfc (dfc p)) = q3 at *
  generalize dfc (dfc p) = q2 at *
  generalize dfc p = q1 at *
  generalize plc p d 4 = z0 at *
  generalize plc q1 d 4 = z1 at *
  generalize plc q2 d 4 = z2 at *
  generalize plc q3 d 4 = z3 at *
  refine CallOk.run0 Try.func57 rfl rfl rfl rfl rfl (WpR.of_vc ?_)
  (conv => whnf); (repeat' (first | ((with_reducible refine ifb_mk (fun hc => ?_) (fun hc => ?_)) <;> ((try simp only [decide_eq_true_eq, decide_eq_false_iff_not, Bool.not_eq_true', Bool.not_eq_false', Int.not_lt, Int.not_le, ne_eq, Decidable.not_not, beq_iff_eq, List.cons.injEq, and_true] at hc); (first | (exfalso; omega) | exact absurd True.intro hc | conv => whnf))) | ((with_reducible refine And.intro True.intro ?_); conv => whnf) | ((with_reducible refine CallX.all ?_); refine CallW.of_ok (k0 _) ?_; conv => whnf) | ((with_reducible refine CallX.all ?_); refine CallW.of_ok (c1 _) ?_; conv => whnf) | ((with_reducible refine CallX.all ?_); refine CallW.of_ok (c2 _) ?_; conv => whnf) | ((with_reducible refine CallX.all ?_); refine CallW.of_ok (c3 _) ?_; conv => whnf) | ((with_reducible refine CallX.all ?_); refine CallW.of_ok (k1 _) ?_; conv => whnf) | ((with_reducible refine CallX.all ?_); refine CallW.of_ok (k2 _) ?_; conv => whnf) | ((with_reducible refine CallX.all ?_); refine CallW.of_ok (k3 _) ?_; conv => whnf) | ((with_reducible refine WpR.loopU 4 ?_); conv => whnf) | ((with_reducible refine And.intro ?hh ?_); (case hh => exact condA); conv => whnf) | fail))
  all_goals first | (refine ⟨[], ?_, rfl, rfl, trivial, trivs⟩; simp only [renV, renL]; (first | done | rfl | (simp; done) | (simp; omega) | grind)) | (exfalso; omega)
theorem path_ok2 (h : As.H) (p p' : Nat → Int) (m : Nat) (hm : 1 ≤ m ∧ m ≤ 4) (hp : ∀ k, k < m → p k = p' k) (d : Int) (hd : d + 1 = m) : CallOk Try.prog 58 [crV p, .int .i64 d] h (.rsl false 1 m (iG p')) h := by
  have e : paB m p = paB m p' := by
    unfold paB
    rw [arrV_eq fun k hk => by rw [hp k hk]]
  have := path_new h p m hm d hd
  rw [e] at this
  exact CallOk.freeze this (pa_fz (i := 0) rfl _ rfl) (fun b hb => by rw [List.mem_singleton.1 hb]; rfl)
theorem laterP_ok (h : As.H) (ex : Bool) (m : Nat) (a : Nat → Int) (d : Int) (hm : m ≤ 9223372036854775807) : CallOk Try.prog 19 [.rsl ex 1 m (iG a), .int .i64 d] h (.tup [if ckC m a d = 0 then .rsl false 1 m (iG (ltP m a d.toNat)) else .nils, .int .i64 (ckC m a d)]) h := by
  have k1 := fun h' => courseFor_ok h' ex m a d hm
  by_cases hc : ckC m a d = 0
  · rw [if_pos hc] at k1 ⊢
    obtain ⟨h1, h2, h3⟩ := ckC_ok hc
    rw [hc] at k1 ⊢
    obtain ⟨d, rfl⟩ : ∃ e : Nat, d = e := ⟨d.toNat, by omega⟩
    have k2 := fun h' => later_ok h' (cut m a) d (by omega) (cut_sm (by decide) fun i hi => by have := h3 i hi; omega)
    have k3 := fun h' => path_ok2 h' (fun k => plc (shK (cut m a) k) d 4) (ltP m a d) m h1 (fun k hk => ltP_eq h1.2 (by omega) (by omega)) ((m : Int) - 1) (by omega)
    rw [show (d : Int).toNat = d from rfl]
    generalize ltP m a d = z at *
    generalize (fun k => plc (shK (cut m a) k) d 4) = y at *
    generalize cut m a = p at *
    refine CallOk.run0 Try.func19 rfl rfl rfl rfl rfl (WpR.of_vc ?_)
    (conv => whnf); (repeat' (first | ((with_reducible refine ifb_mk (fun hc => ?_) (fun hc => ?_)) <;> ((try simp only [decide_eq_true_eq, decide_eq_false_iff_not, Bool.not_eq_true', Bool.not_eq_false', Int.not_lt, Int.not_le, ne_eq, Decidable.not_not, beq_iff_eq, List.cons.injEq, and_true] at hc); (first | (exfalso; omega) | exact absurd True.intro hc | conv => whnf))) | ((with_reducible refine And.intro True.intro ?_); conv => whnf) | ((with_reducible refine CallX.all ?_); refine CallW.of_ok (k1 _) ?_; conv => whnf) | ((with_reducible refine CallX.all ?_); refine CallW.of_ok (k2 _) ?_; conv => whnf) | ((with_reducible refine CallX.all ?_); refine CallW.of_ok (k3 _) ?_; conv => whnf) | ((with_reducible refine grd_ex ?_); refine ex_ok (k1 _) ?_; conv => whnf) | ((with_reducible refine grd_ex ?_); refine ex_ok (k2 _) ?_; conv => whnf) | ((with_reducible refine grd_ex ?_); refine ex_ok (k3 _) ?_; conv => whnf) | ((with_reducible refine And.intro ?hh ?_); (case hh => exact condA); conv => whnf) | fail))
    all_goals first | (refine ⟨[], ?_, rfl, rfl, trivial, trivs⟩; simp only [renV, renL]; (first | done | rfl | (simp; done) | (simp; omega) | grind)) | (exfalso; omega)
  · rw [if_neg hc] at k1 ⊢
    generalize ckC m a d = e at *
    refine CallOk.run0 Try.func19 rfl rfl rfl rfl rfl (WpR.of_vc ?_)
    (conv => whnf); (repeat' (first | ((with_reducible refine ifb_mk (fun hc => ?_) (fun hc => ?_)) <;> ((try simp only [decide_eq_true_eq, decide_eq_false_iff_not, Bool.not_eq_true', Bool.not_eq_false', Int.not_lt, Int.not_le, ne_eq, Decidable.not_not, beq_iff_eq, List.cons.injEq, and_true] at hc); (first | (exfalso; omega) | exact absurd True.intro hc | conv => whnf))) | ((with_reducible refine And.intro True.intro ?_); conv => whnf) | ((with_reducible refine CallX.all ?_); refine CallW.of_ok (k1 _) ?_; conv => whnf) | ((with_reducible refine And.intro ?hh ?_); (case hh => exact condA); conv => whnf) | fail))
    all_goals first | (refine ⟨[], ?_, rfl, rfl, trivial, trivs⟩; simp only [renV, renL]; (first | done | rfl | (simp; done) | (simp; omega) | grind)) | exact absurd (by assumption) hc
end Go.Proofs.K
namespace Go.Proofs.K
open Go.As
set_option maxRecDepth 20000
end Go.Proofs.K
namespace Go.Proofs.K
open Go.As
set_option maxRecDepth 20000
theorem first_of {p : Nat → Bool} : ∀ N, (∀ g, g < N → p g = false) ∨ ∃ g, g < N ∧ p g = true ∧ ∀ g', g' < g → p g' = false
  | 0 => .inl fun g h => absurd h (Nat.not_lt_zero _)
  | N + 1 => by
    rcases first_of (p := p) N with h | ⟨g, h1, h2, h3⟩
    · cases hp : p N with
      | true => exact .inr ⟨N, by omega, hp, h⟩
      | false => exact .inl (below_f h hp)
    · exact .inr ⟨g, by omega, h2, h3⟩
theorem first_one {p : Nat → Bool} {g g' : Nat} (h1 : p g = true) (h2 : ∀ x, x < g → p x = false) (h3 : p g' = true) (h4 : ∀ x, x < g' → p x = false) : g = g' := by
  rcases Nat.lt_trichotomy g g' with h | h | h
  · rw [h4 g h] at h1; cases h1
  · exact h
  · rw [h2 g' h] at h3; cases h3
theorem leavingY (h : As.H) (s D : Nat) (hD : D ≤ 3) (ex : Bool) (n : Nat) (a b : Nat → Int) (l : Lg n a b) (w : Nat) (hw12 : w ≤ 12) (mk : Nat → Bool) {wr : Bool} {gg : Option (Nat × Nat)} (hs : h.get s = some (.cells (ofL (shL D (.rsl ex 2 n (lkG a b)) mk) 0) wr gg)) (g : Nat) (hg : g < 2 ^ n) (h1 : lvG D n a b w g = true) (h2 : ∀ g', g' < g → lvG D n a b w g' = false) :
    CallOk Try.prog 73 [.ptr s 0, .int .i64 w] h (.tup [crV (crG n a b g), .bool true]) h :=
  leaving_ok h s D hD ex n a b l w hw12 mk hs _ (fun g' _ h3 h4 => by rw [first_one h3 h4 h1 h2]; rfl) (fun hall => by rw [hall g hg] at h1; cases h1)
theorem leavingN (h : As.H) (s D : Nat) (hD : D ≤ 3) (ex : Bool) (n : Nat) (a b : Nat → Int) (l : Lg n a b) (w : Nat) (hw12 : w ≤ 12) (mk : Nat → Bool) {wr : Bool} {gg : Option (Nat × Nat)} (hs : h.get s = some (.cells (ofL (shL D (.rsl ex 2 n (lkG a b)) mk) 0) wr gg)) (h1 : ∀ g, g < 2 ^ n → lvG D n a b w g = false) :
    CallOk Try.prog 73 [.ptr s 0, .int .i64 w] h (.tup [crV fun _ => 0, .bool false]) h :=
  leaving_ok h s D hD ex n a b l w hw12 mk hs _ (fun g hg h3 _ => by rw [h1 g hg] at h3; cases h3) (fun _ => rfl)
theorem mpS_mem {D n : Nat} {a b : Nat → Int} {c : C4} : ∀ N, c ∈ mpS D n a b N → ∃ g, g < N ∧ cnF g.testBit n = D + 1 ∧ wkG n a b g = true ∧ c = c4 (crG n a b g)
  | 0, h => by cases h
  | N + 1, h => by
    unfold mpS at h
    split at h
    · rename_i hc
      rcases List.mem_cons.1 h with rfl | h
      · exact ⟨N, by omega, hc.1, hc.2.1, rfl⟩
      · obtain ⟨g, h1, h2⟩ := mpS_mem N h; exact ⟨g, by omega, h2⟩
    · obtain ⟨g, h1, h2⟩ := mpS_mem N h; exact ⟨g, by omega, h2⟩
theorem mpS_all {D n : Nat} {a b : Nat → Int} : ∀ N g, g < N → cnF g.testBit n = D + 1 → wkG n a b g = true → c4 (crG n a b g) ∈ mpS D n a b N
  | 0, g, h, _, _ => absurd h (Nat.not_lt_zero _)
  | N + 1, g, h, h1, h2 => by
    unfold mpS
    by_cases e : g = N
    · subst e
      by_cases hm : c4 (crG n a b g) ∈ mpS D n a b g
      · rw [if_neg (fun hc => hc.2.2 hm)]; exact hm
      · rw [if_pos ⟨h1, h2, hm⟩]; exact List.mem_cons_self
    · have := mpS_all (D := D) (n := n) (a := a) (b := b) N g (by omega) h1 h2
      split
      · exact List.mem_cons_of_mem _ this
      · exact this
theorem best_set {D n : Nat} {a b : Nat → Int} {c : C4} {q : List C4} (hF : mpS D n a b (2 ^ n) = c :: q) :
    mxC (cnC n a b) (prQ (c :: q)) ≤ n ∧ ∃ g, g < 2 ^ n ∧ lvG D n a b (n - mxC (cnC n a b) (prQ (c :: q))) g = true ∧ ∀ g', g' < g → lvG D n a b (n - mxC (cnC n a b) (prQ (c :: q))) g' = false := by
  have hne : prQ (c :: q) ≠ [] := by
    intro h
    have := prQ_len (c :: q)
    rw [h] at this; simp at this
  obtain ⟨e, he, hee⟩ := mxC_at (cn := cnC n a b) hne
  have hle : cnC n a b e.1 ≤ n := cnF_le _ _
  refine ⟨by omega, ?_⟩
  rcases first_of (p := lvG D n a b (n - mxC (cnC n a b) (prQ (c :: q)))) (2 ^ n) with h | h
  · exfalso
    have hm : e.1 ∈ mpS D n a b (2 ^ n) := by rw [hF]; exact prQ_sub he
    obtain ⟨g, h1, h2, h3, h4⟩ := mpS_mem _ hm
    have h5 := h g h1
    unfold lvG at h5
    rw [decide_eq_true h2, h3, Bool.true_and, Bool.true_and, ← cnC_eq, ← h4] at h5
    have := of_decide_eq_false h5
    omega
  · exact h
theorem pathP_new (h : As.H) (D : Nat) (hD : D ≤ 3) (ex : Bool) (n : Nat) (a b : Nat → Int) (hv : ckL D n a b = 0) {c : C4} {q : List C4} (hF : mpS D n a b (2 ^ n) = c :: q) (g : Nat) (hg : g < 2 ^ n) (h1 : lvG D n a b (n - mxC (cnC n a b) (prQ (c :: q))) g = true) (h2 : ∀ g', g' < g → lvG D n a b (n - mxC (cnC n a b) (prQ (c :: q))) g' = false) :
    CallOk Try.prog 35 [lgV D ex n a b] h (.tup [.rsl false 1 (D + 1) (iG (crG n a b g)), .int .i64 0]) h := by
  have l := (ckL_lg hv).2
  have hn := l.le
  have kB := fun h' => bestN_x h' D hD ex n a b hv hF
  have hM := (best_set hF).1
  generalize mkG D n a b (2 ^ n) = mk at *
  generalize mxC (cnC n a b) (prQ (c :: q)) = M at *
  have kL := fun (h' : As.H) (s : Nat) (hs : h'.get s = some (shB D (.rsl ex 2 n (lkG a b)) mk)) => leavingY h' s D hD ex n a b l (n - M) (by omega) mk hs g hg h1 h2
  rw [show ((n - M : Nat) : Int) = (n : Int) - M from by omega] at kL
  have kP := fun h' => path_ok h' (crG n a b g) (D + 1) (by omega) (D : Int) (by omega)
  generalize enL (cnC n a b) (bstL (cnC n a b) (prQ (c :: q))) = E at *
  generalize (c :: q).length = len at *
  generalize crG n a b g = cr at *
  refine CallOk.run0 Try.func35 rfl rfl rfl rfl rfl (WpR.of_vc ?_)
  (conv => whnf); (repeat' (first | ((with_reducible refine ifb_mk (fun hc => ?_) (fun hc => ?_)) <;> ((try simp only [decide_eq_true_eq, decide_eq_false_iff_not, Bool.not_eq_true', Bool.not_eq_false', Int.not_lt, Int.not_le, ne_eq, Decidable.not_not, beq_iff_eq, List.cons.injEq, and_true] at hc); (first | (exfalso; omega) | exact absurd True.intro hc | conv => whnf))) | ((with_reducible refine And.intro True.intro ?_); conv => whnf) | ((with_reducible refine CallX.all ?_); refine CallW.of_ok (kB _ 1 2 3 (by rfl) (by rfl) (by rfl)) ?_; conv => whnf) | ((with_reducible refine WpR.draw (id := 4) mixed [0, 1, 2, 3, 4, 5, 6, 7, 8, 9, 10, 11, 12, 13, 14, 15, 16, 17, 22, 18, 19, 20, 21, 23, 24] [0, 1, 3, 7, 0, 16, 48, 112, 240, 496, 1008, 2032, 4080, 0, 8192, 24576, 57344, 131056, 262143, 524287, 1048575, 1048575, 0, 6291455, 16777215] ?hh ?_); (case hh => kernel_rfl); conv => whnf) | ((with_reducible refine WpR.draw (id := 5) mixed [0, 1, 2, 3, 4, 5, 6, 7, 8, 9, 10, 11] [0, 0, 2, 6, 14, 30, 62, 126, 254, 511, 1023, 2047] ?hh ?_); (case hh => kernel_rfl); conv => whnf) | ((with_reducible refine CallX.all ?_); refine CallW.of_ok (kL _ 2 rfl) ?_; conv => whnf) | ((with_reducible refine grd_ex ?_); refine ex_ok (kL _ 2 rfl) ?_; conv => whnf) | ((with_reducible refine CallX.all ?_); refine CallW.of_ok (kP _) ?_; conv => whnf) | ((with_reducible refine grd_ex ?_); refine ex_ok (kP _) ?_; conv => whnf) | ((with_reducible refine And.intro ?hh ?_); (case hh => exact condA); conv => whnf) | fail))
  all_goals first | (refine ⟨[], ?_, rfl, rfl, trivial, trivs⟩; simp only [renV, renL]; (first | done | rfl | (simp; done) | (simp; omega) | grind)) | (exfalso; omega)
end Go.Proofs.K
