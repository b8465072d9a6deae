/- What the functions answer that the laws call, one after another (Chk). -/
import Derived.Test.YtgcnflpgolnjeaaAs6
import Derived.Test.YtgcnflpgolnjeaaPth
set_option linter.unusedVariables false
set_option linter.unusedSimpArgs false
namespace Go.Proofs.K
open Go.As
set_option maxRecDepth 20000
def ckQ (D : Int) (n : Nat) (a b : Nat → Int) (m : Nat) (p : Nat → Int) : Int := if ckL D n a b = 0 then (if (m : Int) = D + 1 then (if wiR (-1099511627776) 1099511627776 m p = true then 0 else 3) else 15) else ckL D n a b
def cpN (D : Int) (n : Nat) (a b : Nat → Int) (m : Nat) (p : Nat → Int) : Int := if ckQ D n a b m p = 0 then (cnF (psF (cut m p) a b) n : Nat) else 0
theorem checkPathP_ok (h : As.H) (D : Int) (ex ex2 : Bool) (n : Nat) (a b : Nat → Int) (hn9 : n ≤ 9223372036854775807) (m : Nat) (hm : m ≤ 9223372036854775807) (p : Nat → Int) :
    CallOk Try.prog 25 [lgV D ex n a b, .rsl ex2 1 m (iG p)] h (.tup [.int .i64 (cpN D n a b m p), .int .i64 (ckQ D n a b m p)]) h := by
  unfold cpN
  by_cases hv : ckL D n a b = 0
  · obtain ⟨hD, l⟩ := ckL_lg hv
    have kS : ∀ (h' : As.H) (s : Nat), s = h'.n + 0 → CallOk Try.prog 59 [lgV D ex n a b] h' (.tup [.ptr s 0, .int .i64 0]) (addBs h' [shB D (.rsl ex 2 n (lkG a b)) fun _ => false]) := fun h' s e => by subst e; exact sheetFor_new h' D ex n a b hn9 hv
    have hq : ckQ D n a b m p = if (m : Int) = D + 1 then (if wiR (-1099511627776) 1099511627776 m p = true then 0 else 3) else 15 := by unfold ckQ; rw [if_pos hv]
    have kW := fun h' => within64R_ok h' (-1099511627776) 1099511627776 m p ex2 hm
    have hself : ∀ ρ : Nat → Nat, SubQ ρ (shB D (.rsl ex 2 n (lkG a b)) fun _ => false) (shB D (.rsl ex 2 n (lkG a b)) fun _ => false) := fun ρ => SubQ.ofL rfl (shL_bare rfl) (.inl rfl)
    by_cases h1 : (m : Int) = D + 1
    · rw [if_pos h1] at hq
      cases h2 : wiR (-1099511627776) 1099511627776 m p with
      | false =>
        rw [h2] at kW hq
        rw [if_neg (by decide)] at hq
        rw [hq, if_neg (by decide)]
        refine CallOk.run0 Try.func25 rfl rfl rfl rfl rfl (WpR.of_vc ?_)
        (conv => whnf); (repeat' (first | ((with_reducible refine ifb_mk (fun hc => ?_) (fun hc => ?_)) <;> ((try simp only [decide_eq_true_eq, decide_eq_false_iff_not, Bool.not_eq_true', Bool.not_eq_false', Int.not_lt, Int.not_le, ne_eq, Decidable.not_not, beq_iff_eq, List.cons.injEq, and_true] at hc); (first | (exfalso; omega) | exact absurd True.intro hc | conv => whnf))) | ((with_reducible refine And.intro True.intro ?_); conv => whnf) | ((with_reducible refine CallX.all ?_); refine CallW.of_ok (kS _ 1 (by rfl)) ?_; conv => whnf) | ((with_reducible refine CallX.all ?_); refine CallW.of_ok (kW _) ?_; conv => whnf) | ((with_reducible refine And.intro ?hh ?_); (case hh => exact condA); conv => whnf) | fail))
        all_goals first | (refine ⟨[], ?_, rfl, rfl, trivial, trivs⟩; simp only [renV, renL]; (first | done | rfl | (simp; done) | (simp; omega) | grind)) | (exfalso; omega)
      | true =>
        rw [h2] at kW hq
        rw [if_pos rfl] at hq
        rw [hq, if_pos rfl]
        have kC := fun h' => courseOfR_ok h' ex2 m p (by omega)
        have hsm := cut_sm (m := m) (a := p) (B := 8796093022208) (by decide) (fun i hi => by have := wiR_at h2 hi; omega)
        have kD := fun (h' : As.H) mk hs => draw_ok h' 1 D ex n l.le a b l.rg (cut m p) hsm mk hs
        generalize cut m p = cr at *
        generalize cnF (psF cr a b) n = z at *
        refine CallOk.run0 Try.func25 rfl rfl rfl rfl rfl (WpR.of_vc ?_)
        (conv => whnf); (repeat' (first | ((with_reducible refine ifb_mk (fun hc => ?_) (fun hc => ?_)) <;> ((try simp only [decide_eq_true_eq, decide_eq_false_iff_not, Bool.not_eq_true', Bool.not_eq_false', Int.not_lt, Int.not_le, ne_eq, Decidable.not_not, beq_iff_eq, List.cons.injEq, and_true] at hc); (first | (exfalso; omega) | exact absurd True.intro hc | conv => whnf))) | ((with_reducible refine And.intro True.intro ?_); conv => whnf) | ((with_reducible refine CallX.all ?_); refine CallW.of_ok (kS _ 1 (by rfl)) ?_; conv => whnf) | ((with_reducible refine CallX.all ?_); refine CallW.of_ok (kW _) ?_; conv => whnf) | ((with_reducible refine CallX.all ?_); refine CallW.of_ok (kC _) ?_; conv => whnf) | ((with_reducible refine CallX.all ?_); refine CallW.of_ok (kD _ _ rfl) ?_; conv => whnf) | ((with_reducible refine And.intro ?hh ?_); (case hh => exact condA); conv => whnf) | fail))
        all_goals first | (refine ⟨[], ?_, rfl, rfl, trivial, trivs⟩; simp only [renV, renL]; (first | done | rfl | (simp; done) | (simp; omega) | grind)) | (exfalso; omega)
    · rw [if_neg h1] at hq
      rw [hq, if_neg (by decide)]
      refine CallOk.run0 Try.func25 rfl rfl rfl rfl rfl (WpR.of_vc ?_)
      (conv => whnf); (repeat' (first | ((with_reducible refine ifb_mk (fun hc => ?_) (fun hc => ?_)) <;> ((try simp only [decide_eq_true_eq, decide_eq_false_iff_not, Bool.not_eq_true', Bool.not_eq_false', Int.not_lt, Int.not_le, ne_eq, Decidable.not_not, beq_iff_eq, List.cons.injEq, and_true] at hc); (first | (exfalso; omega) | exact absurd True.intro hc | conv => whnf))) | ((with_reducible refine And.intro True.intro ?_); conv => whnf) | ((with_reducible refine CallX.all ?_); refine CallW.of_ok (kS _ 1 (by rfl)) ?_; conv => whnf) | ((with_reducible refine And.intro ?hh ?_); (case hh => exact condA); conv => whnf) | fail))
      all_goals first | (refine ⟨[], ?_, rfl, rfl, trivial, trivs⟩; simp only [renV, renL]; (first | done | rfl | (simp; done) | (simp; omega) | grind)) | (exfalso; omega)
  · have hq : ckQ D n a b m p = ckL D n a b := by unfold ckQ; rw [if_neg hv]
    have kE := fun h' => sheetFor_err h' D ex n a b hn9 hv
    rw [hq, if_neg hv]
    generalize ckL D n a b = e at *
    refine CallOk.run0 Try.func25 rfl rfl rfl rfl rfl (WpR.of_vc ?_)
    (conv => whnf); (repeat' (first | ((with_reducible refine ifb_mk (fun hc => ?_) (fun hc => ?_)) <;> ((try simp only [decide_eq_true_eq, decide_eq_false_iff_not, Bool.not_eq_true', Bool.not_eq_false', Int.not_lt, Int.not_le, ne_eq, Decidable.not_not, beq_iff_eq, List.cons.injEq, and_true] at hc); (first | (exfalso; omega) | exact absurd True.intro hc | conv => whnf))) | ((with_reducible refine And.intro True.intro ?_); conv => whnf) | ((with_reducible refine CallX.all ?_); refine CallW.of_ok (kE _) ?_; conv => whnf) | ((with_reducible refine And.intro ?hh ?_); (case hh => exact condA); conv => whnf) | fail))
    all_goals first | (refine ⟨[], ?_, rfl, rfl, trivial, trivs⟩; simp only [renV, renL]; (first | done | rfl | (simp; done) | (simp; omega) | grind)) | exact absurd (by assumption) hv
def ckO (D : Int) (n : Nat) (a b : Nat → Int) (w : Int) : Int := if ckL D n a b = 0 then (if 0 ≤ w ∧ w ≤ 5 then (if (n : Int) < D + 1 + 2 * w then 13 else 0) else 2) else ckL D n a b
theorem onlyP_err (h : As.H) (D : Int) (ex : Bool) (n : Nat) (a b : Nat → Int) (hn9 : n ≤ 9223372036854775807) (w : Int) (he : ckO D n a b w ≠ 0) :
    CallOk Try.prog 36 [lgV D ex n a b, .int .i64 w] h (.tup [.nils, .int .i64 (ckO D n a b w)]) h := by
  unfold ckO at he ⊢
  by_cases hv : ckL D n a b = 0
  · rw [if_pos hv] at he ⊢
    obtain ⟨hD, l⟩ := ckL_lg hv
    have hn := l.le
    have kS : ∀ (h' : As.H) (s : Nat), s = h'.n + 0 → CallOk Try.prog 59 [lgV D ex n a b] h' (.tup [.ptr s 0, .int .i64 0]) (addBs h' [shB D (.rsl ex 2 n (lkG a b)) fun _ => false]) := fun h' s e => by subst e; exact sheetFor_new h' D ex n a b hn9 hv
    have kW := fun h' sv hs => within1_ok h' 0 5 w sv hs
    by_cases h1 : 0 ≤ w ∧ w ≤ 5
    · rw [if_pos h1] at he ⊢
      rw [decide_eq_true h1] at kW
      by_cases h2 : (n : Int) < D + 1 + 2 * w
      · rw [if_pos h2]
        refine CallOk.run0 Try.func36 rfl rfl rfl rfl rfl (WpR.of_vc ?_)
        (conv => whnf); (repeat' (first | ((with_reducible refine ifb_mk (fun hc => ?_) (fun hc => ?_)) <;> ((try simp only [decide_eq_true_eq, decide_eq_false_iff_not, Bool.not_eq_true', Bool.not_eq_false', Int.not_lt, Int.not_le, ne_eq, Decidable.not_not, beq_iff_eq, List.cons.injEq, and_true] at hc); (first | (exfalso; omega) | exact absurd True.intro hc | conv => whnf))) | ((with_reducible refine And.intro True.intro ?_); conv => whnf) | ((with_reducible refine CallX.all ?_); refine CallW.of_ok (kS _ 1 (by rfl)) ?_; conv => whnf) | ((with_reducible refine CallX.all ?_); refine CallW.of_ok (kW _ _ (SlC.own rfl)) ?_; conv => whnf) | ((with_reducible refine WpR.draw (id := 6) mixed [0, 1, 2, 3, 4, 5, 6, 7, 8, 9, 10, 11, 12, 13, 14, 15] [0, 1, 3, 7, 15, 31, 0, 64, 192, 448, 960, 1984, 0, 4096, 16320, 32767] ?hh ?_); (case hh => kernel_rfl); conv => whnf) | ((with_reducible refine WpR.draw (id := 11) mixed [0, 1, 2, 3, 4, 5, 6, 7, 8] [0, 0, 2, 6, 14, 30, 63, 127, 255] ?hh ?_); (case hh => kernel_rfl); conv => whnf) | ((with_reducible refine And.intro ?hh ?_); (case hh => exact condA); conv => whnf) | fail))
        all_goals first | (refine ⟨[], ?_, rfl, rfl, trivial, trivs⟩; simp only [renV, renL]; (first | done | rfl | (simp; done) | (simp; omega) | grind)) | (exfalso; omega)
      · rw [if_neg h2] at he; exact absurd rfl he
    · rw [if_neg h1]
      rw [decide_eq_false h1] at kW
      refine CallOk.run0 Try.func36 rfl rfl rfl rfl rfl (WpR.of_vc ?_)
      (conv => whnf); (repeat' (first | ((with_reducible refine ifb_mk (fun hc => ?_) (fun hc => ?_)) <;> ((try simp only [decide_eq_true_eq, decide_eq_false_iff_not, Bool.not_eq_true', Bool.not_eq_false', Int.not_lt, Int.not_le, ne_eq, Decidable.not_not, beq_iff_eq, List.cons.injEq, and_true] at hc); (first | (exfalso; omega) | exact absurd True.intro hc | conv => whnf))) | ((with_reducible refine And.intro True.intro ?_); conv => whnf) | ((with_reducible refine CallX.all ?_); refine CallW.of_ok (kS _ 1 (by rfl)) ?_; conv => whnf) | ((with_reducible refine CallX.all ?_); refine CallW.of_ok (kW _ _ (SlC.own rfl)) ?_; conv => whnf) | ((with_reducible refine And.intro ?hh ?_); (case hh => exact condA); conv => whnf) | fail))
      all_goals first | (refine ⟨[], ?_, rfl, rfl, trivial, trivs⟩; simp only [renV, renL]; (first | done | rfl | (simp; done) | (simp; omega) | grind)) | (exfalso; omega)
  · have kE := fun h' => sheetFor_err h' D ex n a b hn9 hv
    rw [if_neg hv]
    generalize ckL D n a b = e at *
    refine CallOk.run0 Try.func36 rfl rfl rfl rfl rfl (WpR.of_vc ?_)
    (conv => whnf); (repeat' (first | ((with_reducible refine ifb_mk (fun hc => ?_) (fun hc => ?_)) <;> ((try simp only [decide_eq_true_eq, decide_eq_false_iff_not, Bool.not_eq_true', Bool.not_eq_false', Int.not_lt, Int.not_le, ne_eq, Decidable.not_not, beq_iff_eq, List.cons.injEq, and_true] at hc); (first | (exfalso; omega) | exact absurd True.intro hc | conv => whnf))) | ((with_reducible refine And.intro True.intro ?_); conv => whnf) | ((with_reducible refine CallX.all ?_); refine CallW.of_ok (kE _) ?_; conv => whnf) | ((with_reducible refine And.intro ?hh ?_); (case hh => exact condA); conv => whnf) | fail))
    all_goals first | (refine ⟨[], ?_, rfl, rfl, trivial, trivs⟩; simp only [renV, renL]; (first | done | rfl | (simp; done) | (simp; omega) | grind)) | exact absurd (by assumption) hv
theorem ckO_ok {D : Int} {n : Nat} {a b : Nat → Int} {w : Int} (h : ckO D n a b w = 0) : ckL D n a b = 0 ∧ (0 ≤ w ∧ w ≤ 5) ∧ D + 1 + 2 * w ≤ n := by
  unfold ckO at h
  by_cases hv : ckL D n a b = 0
  · rw [if_pos hv] at h
    (repeat' split at h) <;> first | (cases h; done) | skip
    rename_i h1 h2
    exact ⟨hv, h1, by omega⟩
  · rw [if_neg hv] at h; exact absurd h hv
theorem onlyP_yes (h : As.H) (D : Nat) (ex : Bool) (n : Nat) (a b : Nat → Int) (w : Nat) (hO : ckO D n a b w = 0) (g : Nat) (hg : g < 2 ^ n) (h1 : lvG D n a b w g = true) (h2 : ∀ g', g' < g → lvG D n a b w g' = false) :
    CallOk Try.prog 36 [lgV D ex n a b, .int .i64 w] h (.tup [.rsl false 1 (D + 1) (iG (crG n a b g)), .int .i64 0]) h := by
  obtain ⟨hv, hw, hpl⟩ := ckO_ok hO
  obtain ⟨hD, l⟩ := ckL_lg hv
  have hn := l.le
  have kS : ∀ (h' : As.H) (s : Nat), s = h'.n + 0 → CallOk Try.prog 59 [lgV D ex n a b] h' (.tup [.ptr s 0, .int .i64 0]) (addBs h' [shB D (.rsl ex 2 n (lkG a b)) fun _ => false]) := fun h' s e => by subst e; exact sheetFor_new h' D ex n a b (by omega) hv
  have kW := fun h' sv hs => within1_ok h' 0 5 (w : Int) sv hs
  rw [decide_eq_true hw] at kW
  have kL := fun (h' : As.H) (hs : h'.get 1 = some (shB D (.rsl ex 2 n (lkG a b)) fun _ => false)) => leavingY h' 1 D (by omega) ex n a b l w (by omega) _ hs g hg h1 h2
  have kP := fun h' => path_ok h' (crG n a b g) (D + 1) (by omega) (D : Int) (by omega)
  generalize crG n a b g = cr at *
  refine CallOk.run0 Try.func36 rfl rfl rfl rfl rfl (WpR.of_vc ?_)
  (conv => whnf); (repeat' (first | ((with_reducible refine ifb_mk (fun hc => ?_) (fun hc => ?_)) <;> ((try simp only [decide_eq_true_eq, decide_eq_false_iff_not, Bool.not_eq_true', Bool.not_eq_false', Int.not_lt, Int.not_le, ne_eq, Decidable.not_not, beq_iff_eq, List.cons.injEq, and_true] at hc); (first | (exfalso; omega) | exact absurd True.intro hc | conv => whnf))) | ((with_reducible refine And.intro True.intro ?_); conv => whnf) | ((with_reducible refine CallX.all ?_); refine CallW.of_ok (kS _ 1 (by rfl)) ?_; conv => whnf) | ((with_reducible refine CallX.all ?_); refine CallW.of_ok (kW _ _ (SlC.own rfl)) ?_; conv => whnf) | ((with_reducible refine WpR.draw (id := 6) mixed [0, 1, 2, 3, 4, 5, 6, 7, 8, 9, 10, 11, 12, 13, 14, 15] [0, 1, 3, 7, 15, 31, 0, 64, 192, 448, 960, 1984, 0, 4096, 16320, 32767] ?hh ?_); (case hh => kernel_rfl); conv => whnf) | ((with_reducible refine WpR.draw (id := 11) mixed [0, 1, 2, 3, 4, 5, 6, 7, 8] [0, 0, 2, 6, 14, 30, 63, 127, 255] ?hh ?_); (case hh => kernel_rfl); conv => whnf) | ((with_reducible refine CallX.all ?_); refine CallW.of_ok (kL _ rfl) ?_; conv => whnf) | ((with_reducible refine grd_ex ?_); refine ex_ok (kL _ rfl) ?_; conv => whnf) | ((with_reducible refine CallX.all ?_); refine CallW.of_ok (kP _) ?_; conv => whnf) | ((with_reducible refine grd_ex ?_); refine ex_ok (kP _) ?_; conv => whnf) | ((with_reducible refine And.intro ?hh ?_); (case hh => exact condA); conv => whnf) | fail))
  all_goals first | (refine ⟨[], ?_, rfl, rfl, trivial, trivs⟩; simp only [renV, renL]; (first | done | rfl | (simp; done) | (simp; omega) | grind)) | (exfalso; omega)
theorem onlyP_no (h : As.H) (D : Nat) (ex : Bool) (n : Nat) (a b : Nat → Int) (w : Nat) (hO : ckO D n a b w = 0) (h1 : ∀ g, g < 2 ^ n → lvG D n a b w g = false) :
    CallOk Try.prog 36 [lgV D ex n a b, .int .i64 w] h (.tup [.nils, .int .i64 23]) h := by
  obtain ⟨hv, hw, hpl⟩ := ckO_ok hO
  obtain ⟨hD, l⟩ := ckL_lg hv
  have hn := l.le
  have kS : ∀ (h' : As.H) (s : Nat), s = h'.n + 0 → CallOk Try.prog 59 [lgV D ex n a b] h' (.tup [.ptr s 0, .int .i64 0]) (addBs h' [shB D (.rsl ex 2 n (lkG a b)) fun _ => false]) := fun h' s e => by subst e; exact sheetFor_new h' D ex n a b (by omega) hv
  have kW := fun h' sv hs => within1_ok h' 0 5 (w : Int) sv hs
  rw [decide_eq_true hw] at kW
  have kL := fun (h' : As.H) (hs : h'.get 1 = some (shB D (.rsl ex 2 n (lkG a b)) fun _ => false)) => leavingN h' 1 D (by omega) ex n a b l w (by omega) _ hs h1
  refine CallOk.run0 Try.func36 rfl rfl rfl rfl rfl (WpR.of_vc ?_)
  (conv => whnf); (repeat' (first | ((with_reducible refine ifb_mk (fun hc => ?_) (fun hc => ?_)) <;> ((try simp only [decide_eq_true_eq, decide_eq_false_iff_not, Bool.not_eq_true', Bool.not_eq_false', Int.not_lt, Int.not_le, ne_eq, Decidable.not_not, beq_iff_eq, List.cons.injEq, and_true] at hc); (first | (exfalso; omega) | exact absurd True.intro hc | conv => whnf))) | ((with_reducible refine And.intro True.intro ?_); conv => whnf) | ((with_reducible refine CallX.all ?_); refine CallW.of_ok (kS _ 1 (by rfl)) ?_; conv => whnf) | ((with_reducible refine CallX.all ?_); refine CallW.of_ok (kW _ _ (SlC.own rfl)) ?_; conv => whnf) | ((with_reducible refine WpR.draw (id := 6) mixed [0, 1, 2, 3, 4, 5, 6, 7, 8, 9, 10, 11, 12, 13, 14, 15] [0, 1, 3, 7, 15, 31, 0, 64, 192, 448, 960, 1984, 0, 4096, 16320, 32767] ?hh ?_); (case hh => kernel_rfl); conv => whnf) | ((with_reducible refine WpR.draw (id := 11) mixed [0, 1, 2, 3, 4, 5, 6, 7, 8] [0, 0, 2, 6, 14, 30, 63, 127, 255] ?hh ?_); (case hh => kernel_rfl); conv => whnf) | ((with_reducible refine CallX.all ?_); refine CallW.of_ok (kL _ rfl) ?_; conv => whnf) | ((with_reducible refine grd_ex ?_); refine ex_ok (kL _ rfl) ?_; conv => whnf) | ((with_reducible refine And.intro ?hh ?_); (case hh => exact condA); conv => whnf) | fail))
  all_goals first | (refine ⟨[], ?_, rfl, rfl, trivial, trivs⟩; simp only [renV, renL]; (first | done | rfl | (simp; done) | (simp; omega) | grind)) | (exfalso; omega)
end Go.Proofs.K
