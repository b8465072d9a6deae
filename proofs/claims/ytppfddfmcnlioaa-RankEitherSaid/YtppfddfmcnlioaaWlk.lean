/- What the functions answer that the laws call, one after another (Wlk). -/
import Derived.Test.YtppfddfmcnlioaaAs6
import Derived.Test.YtppfddfmcnlioaaOrd

set_option linter.unusedVariables false
namespace Go.Proofs.J
open Go.As
set_option maxRecDepth 20000
set_option linter.unusedVariables false
set_option linter.unusedSimpArgs false

/-! ### The walk to a circle -/

/-- The first of n with p, n if there is none. -/
def leF (p : Nat → Bool) : Nat → Nat
  | 0 => 0
  | n + 1 => if leF p n < n then leF p n else (if p n = true then n else n + 1)
theorem leF_spec (p : Nat → Bool) : ∀ n, leF p n ≤ n ∧ (∀ j, j < leF p n → p j = false) ∧ (leF p n < n → p (leF p n) = true)
  | 0 => ⟨Nat.le_refl _, fun j hj => absurd hj (Nat.not_lt_zero _), fun h => absurd h (Nat.lt_irrefl _)⟩
  | n + 1 => by
    obtain ⟨h1, h2, h3⟩ := leF_spec p n
    unfold leF
    by_cases hc : leF p n < n
    · rw [if_pos hc]; exact ⟨by omega, h2, fun _ => h3 hc⟩
    · rw [if_neg hc]
      have e : leF p n = n := by omega
      rw [e] at h2
      by_cases hp : p n = true
      · rw [if_pos hp]; exact ⟨by omega, h2, fun _ => hp⟩
      · rw [if_neg hp]
        refine ⟨by omega, fun j hj => ?_, fun h => by omega⟩
        by_cases ej : j = n
        · subst ej; rwa [Bool.not_eq_true] at hp
        · exact h2 j (by omega)
theorem leF_at {p : Nat → Bool} {n k : Nat} (hk : k < n) (h1 : ∀ j, j < k → p j = false) (h2 : p k = true) : leF p n = k := by
  obtain ⟨a1, a2, a3⟩ := leF_spec p n
  rcases Nat.lt_trichotomy (leF p n) k with h | h | h
  · rw [h1 _ h] at a3; exact absurd (a3 (by omega)) (by decide)
  · exact h
  · rw [a2 k h] at h2; cases h2
theorem leF_lt {p : Nat → Bool} {n k : Nat} (hk : k < n) (h : p k = true) : leF p n < n := by
  obtain ⟨a1, a2, a3⟩ := leF_spec p n
  by_cases e : leF p n = n
  · rw [e] at a2; rw [a2 k hk] at h; cases h
  · omega
/-- The walk: where it is after i steps. -/
def wkN (S : Nat) (lk br : Nat → Nat) : Nat → Nat
  | 0 => leF (fun x => (br x).testBit x) S
  | i + 1 => leF (fun y => (lk y).testBit (wkN S lk br i) && (br (wkN S lk br i)).testBit y) S
/-- Has the walk been at x before step i? -/
def mkW (S : Nat) (lk br : Nat → Nat) (i : Nat) (x : Nat) : Bool := anyF i fun j => decide (wkN S lk br j = x)
/-- The step at which it is somewhere for the second time, and the one at which it was there first. -/
def enW1 (S : Nat) (lk br : Nat → Nat) : Nat := leF (fun i => mkW S lk br i (wkN S lk br i)) (S + 1)
def enW0 (S : Nat) (lk br : Nat → Nat) : Nat := leF (fun j => decide (wkN S lk br j = wkN S lk br (enW1 S lk br))) (enW1 S lk br)
/-- Looks among S stars, none at a star and itself; what follows from them; some star follows from itself. -/
structure Cy (S : Nat) (lk br : Nat → Nat) : Prop where
  tb : Tb lk
  eq : br = clo lk
  st : ∀ i j, i < 10 → (lk i).testBit j = true → j < S ∧ i < S
  no : ∀ i, i < 10 → (lk i).testBit i = false
  cy : hoB S br = false
section
variable {S : Nat} {lk br : Nat → Nat}
theorem Rch.first {t : Nat → Nat} {j i : Nat} (r : Rch t j i) : ∃ y, (t y).testBit j = true ∧ (y = i ∨ Rch t y i) := by
  induction r with
  | one h => exact ⟨_, h, .inl rfl⟩
  | @step m i h r ih =>
    obtain ⟨y, h1, h2⟩ := ih
    refine ⟨y, h1, .inr ?_⟩
    rcases h2 with h2 | h2
    · subst h2; exact .one h
    · exact .step h h2
theorem Cy.walk (hS : S ≤ 10) (c : Cy S lk br) : ∀ i, wkN S lk br i < S ∧ (br (wkN S lk br i)).testBit (wkN S lk br i) = true
  | 0 => by
    have h := c.cy
    unfold hoB at h
    have h2 : anyF S (fun x => (br x).testBit x) = true := by unfold anyF; rw [h]; rfl
    obtain ⟨x, hx, hp⟩ := anyF_iff.1 h2
    have hl := leF_lt (p := fun x => (br x).testBit x) hx hp
    exact ⟨hl, (leF_spec (fun x => (br x).testBit x) S).2.2 hl⟩
  | i + 1 => by
    obtain ⟨h1, h2⟩ := Cy.walk hS c i
    generalize hx : wkN S lk br i = x at *
    have hw : wkN S lk br (i + 1) = leF (fun y => (lk y).testBit x && (br x).testBit y) S := by rw [← hx]; rfl
    rw [hw]
    rw [c.eq] at h2
    have hr := (clo_bit.1 h2).2
    obtain ⟨y, hy, hyx⟩ := hr.first
    have hyr : Rch lk y x := by
      rcases hyx with e | e
      · subst e; exact hr
      · exact e
    have hy10 : y < 10 := hyr.lt c.tb (by omega)
    have hyS := (c.st y x hy10 hy).2
    have ht : ((lk y).testBit x && (br x).testBit y) = true := by rw [hy, c.eq, Bool.true_and]; exact clo_bit.2 ⟨hy10, hyr⟩
    have hl := leF_lt (p := fun y => (lk y).testBit x && (br x).testBit y) hyS ht
    refine ⟨hl, ?_⟩
    have hs := (leF_spec (fun y => (lk y).testBit x && (br x).testBit y) S).2.2 hl
    generalize leF (fun y => (lk y).testBit x && (br x).testBit y) S = z at *
    rw [Bool.and_eq_true, c.eq] at hs
    have hz := (clo_bit.1 hs.2).2
    rw [c.eq]
    exact clo_bit.2 ⟨by omega, hz.trans (Rch.one hs.1)⟩
theorem Cy.step (hS : S ≤ 10) (c : Cy S lk br) (i : Nat) : ((lk (wkN S lk br (i + 1))).testBit (wkN S lk br i) && (br (wkN S lk br i)).testBit (wkN S lk br (i + 1))) = true :=
  (leF_spec (fun y => (lk y).testBit (wkN S lk br i) && (br (wkN S lk br i)).testBit y) S).2.2 (c.walk hS (i + 1)).1
theorem mkW_iff {i x : Nat} : mkW S lk br i x = true ↔ ∃ j, j < i ∧ wkN S lk br j = x := by
  unfold mkW; rw [anyF_iff]; exact ⟨fun ⟨j, h, e⟩ => ⟨j, h, of_decide_eq_true e⟩, fun ⟨j, h, e⟩ => ⟨j, h, decide_eq_true e⟩⟩
theorem mkW_0 (x : Nat) : mkW S lk br 0 x = false := by
  cases h : mkW S lk br 0 x with
  | false => rfl
  | true => obtain ⟨j, hj, _⟩ := mkW_iff.1 h; omega
theorem mkW_succ (i x : Nat) : mkW S lk br (i + 1) x = if x = wkN S lk br i then true else mkW S lk br i x := by
  by_cases e : x = wkN S lk br i
  · rw [if_pos e]; exact mkW_iff.2 ⟨i, by omega, e.symm⟩
  · rw [if_neg e]
    apply Bool.eq_iff_iff.2
    rw [mkW_iff, mkW_iff]
    refine ⟨fun ⟨j, h, hj⟩ => ⟨j, ?_, hj⟩, fun ⟨j, h, hj⟩ => ⟨j, by omega, hj⟩⟩
    by_cases ej : j = i
    · subst ej; exact absurd hj.symm e
    · omega
/-- It is somewhere for the second time, after S steps at the latest. -/
theorem Cy.ends (hS : S ≤ 10) (c : Cy S lk br) : enW1 S lk br ≤ S ∧ mkW S lk br (enW1 S lk br) (wkN S lk br (enW1 S lk br)) = true ∧ ∀ j, j < enW1 S lk br → mkW S lk br j (wkN S lk br j) = false := by
  have hex : ∃ i, i < S + 1 ∧ mkW S lk br i (wkN S lk br i) = true := by
    apply Classical.byContradiction
    intro hc
    have hinj : ∀ i j, i < S → j < S → wkN S lk br i = wkN S lk br j → i = j := fun i j hi hj e => by
      rcases Nat.lt_trichotomy i j with h | h | h
      · exact absurd ⟨j, by omega, mkW_iff.2 ⟨i, h, e⟩⟩ hc
      · exact h
      · exact absurd ⟨i, by omega, mkW_iff.2 ⟨j, h, e.symm⟩⟩ hc
    obtain ⟨i, hi, he⟩ := php S (wkN S lk br) (fun i _ => (c.walk hS i).1) hinj _ (c.walk hS S).1
    exact hc ⟨S, by omega, mkW_iff.2 ⟨i, hi, he⟩⟩
  obtain ⟨i, hi, hp⟩ := hex
  have hl := leF_lt (p := fun i => mkW S lk br i (wkN S lk br i)) hi hp
  obtain ⟨_, a2, a3⟩ := leF_spec (fun i => mkW S lk br i (wkN S lk br i)) (S + 1)
  exact ⟨by unfold enW1; omega, a3 hl, a2⟩
theorem Cy.first (hS : S ≤ 10) (c : Cy S lk br) : enW0 S lk br + 2 ≤ enW1 S lk br ∧ wkN S lk br (enW0 S lk br) = wkN S lk br (enW1 S lk br) ∧ ∀ j, j < enW0 S lk br → wkN S lk br j ≠ wkN S lk br (enW1 S lk br) := by
  obtain ⟨h1, h2, _⟩ := c.ends hS
  obtain ⟨j, hj, he⟩ := mkW_iff.1 h2
  have hl := leF_lt (p := fun j => decide (wkN S lk br j = wkN S lk br (enW1 S lk br))) hj (decide_eq_true he)
  obtain ⟨_, a2, a3⟩ := leF_spec (fun j => decide (wkN S lk br j = wkN S lk br (enW1 S lk br))) (enW1 S lk br)
  have hd : wkN S lk br (enW0 S lk br) = wkN S lk br (enW1 S lk br) := of_decide_eq_true (a3 hl)
  have hl' : enW0 S lk br < enW1 S lk br := hl
  refine ⟨?_, hd, fun j hj e => by have := a2 j hj; rw [decide_eq_true e] at this; cases this⟩
  by_cases e : enW1 S lk br = enW0 S lk br + 1
  · exfalso
    have hs := c.step hS (enW0 S lk br)
    rw [← e, ← hd, Bool.and_eq_true, c.no _ (by have := (c.walk hS (enW0 S lk br)).1; omega)] at hs
    cases hs.1
  · omega
end
end Go.Proofs.J

namespace Go.Proofs.J
open Go.As
set_option maxRecDepth 20000
set_option linter.unusedVariables false
set_option linter.unusedSimpArgs false

/-! ### All stars, the first one that is brighter than itself -/

theorem stars_new (h : As.H) (s : Nat) {L : List V} (hL : ∀ v ∈ L, bare0 v = true) {w : Bool} {g : Option (Nat × Nat)} (hs : h.get s = some (.cells (ofL L 0) w g)) :
    CallOk Try.prog 99 [.ptr s 0] h (.fn 111 [] [.ptr (h.n + 0) 0]) (addBs h [.cells (ofL [.ptr s 0] 0) true none]) := by
  refine CallOk.runN Try.func99 rfl rfl (argsC := [.ptr 0 0]) (fun N => .fn 111 [] [.ptr (N + 0) 0]) (fun _ => [.cells (ofL [.ptr 0 0] 0) true none]) (Nat.le_of_ble_eq_true rfl) [some (s, 0)] (.cons (.ptr (i := 0) rfl) .nil) (one_view hs hL) (ShV.fn .nil (.cons (.ptr (i := 0) (Nat.le_of_ble_eq_true rfl) rfl rfl) .nil)) rfl (fun i b hi => ?_) (WpR.of_vc ?_)
  · match i, hi with
    | 0, hi =>
      cases hi
      refine ⟨_, rfl, rfl, .cells fun j v' hv => ?_⟩
      rw [get_ofL, if_pos (Nat.zero_le _), Nat.sub_zero] at hv
      match j with
      | 0 => simp at hv; subst hv; exact ⟨rfl, .ptr 0 0, rfl, .old (.ptr (i := 0) rfl) rfl⟩
      | j + 1 => simp at hv
    | i + 1, hi => simp at hi
  · (conv => whnf); (repeat' (first | ((with_reducible refine ifb_mk (fun hc => ?_) (fun hc => ?_)) <;> ((try simp only [decide_eq_true_eq, decide_eq_false_iff_not, Bool.not_eq_true', Bool.not_eq_false', Int.not_lt, Int.not_le, ne_eq, Decidable.not_not, beq_iff_eq, List.cons.injEq, and_true] at hc); (first | (exfalso; omega) | exact absurd True.intro hc | conv => whnf))) | ((with_reducible refine And.intro True.intro ?_); conv => whnf) | ((with_reducible refine And.intro ?hh ?_); (case hh => exact condA); conv => whnf) | fail))
    have hq : ∀ (ρ : Nat → Nat), ρ 0 = 0 → SubQ ρ (Blk.cells (ofL [V.ptr 0 0] 0) true none) (Blk.cells (ofL [V.ptr 0 0] 0) true none) := fun ρ h0 => .cells (fun k v hv => by
      have hv2 := hv
      rw [get_ofL, if_pos (Nat.zero_le _), Nat.sub_zero] at hv2
      match k with
      | 0 => simp at hv2; subst hv2; rw [hv]; show _ = some (V.ptr (ρ 0) 0); rw [h0]
      | k + 1 => simp at hv2) (fun h => h) (.inl rfl)
    refine ⟨[1], rfl, rfl, rfl, ⟨⟨_, rfl, rfl, hq _ rfl⟩, fun k v hv => ?_, rfl, trivial⟩, trivs⟩
    rw [get_ofL, if_pos (Nat.zero_le _), Nat.sub_zero] at hv
    match k with
    | 0 => simp at hv; subst hv; rfl
    | k + 1 => simp at hv
theorem two_view {h : As.H} {s q : Nat} {L : List V} {w w2 : Bool} {g g2 : Option (Nat × Nat)} (hL : ∀ v ∈ L, bare0 v = true) (hs : h.get s = some (.cells (ofL L 0) w g)) (hq : h.get q = some (.cells (ofL [.ptr s 0] 0) w2 g2)) :
    ViewM h [some (s, 0), some (q, 0)] [.cells (ofL L 0) false none, .cells (ofL [.ptr 0 0] 0) false none] := by
  refine viewM_of ⟨⟨⟨rfl, rfl⟩, fun j o hj => ?_⟩, ⟨⟨rfl, rfl⟩, fun j o hj => ?_⟩, trivial⟩ (fun k k' j o o' hk hk' hmp => ?_)
  · cases hj
    refine ⟨_, _, _, hs, fun i d hd => ?_⟩
    rw [get_ofL, if_pos (Nat.zero_le _), Nat.sub_zero] at hd
    have hb := hL d (List.mem_of_getElem? hd)
    exact ⟨one_of_bare hb, d, by rw [Nat.zero_add]; exact get_ofL0 hd, .bare hb⟩
  · cases hj
    refine ⟨_, _, _, hq, fun i d hd => ?_⟩
    rw [get_ofL, if_pos (Nat.zero_le _), Nat.sub_zero] at hd
    match i with
    | 0 => simp at hd; subst hd; exact ⟨rfl, .ptr s (0 + 0), rfl, .ptr (i := 0) rfl⟩
    | i + 1 => simp at hd
  · obtain ⟨es, c, hg⟩ := hmp
    match k with
    | 0 => simp at hk; rw [← hk.1, hs] at hg; cases hg
    | 1 => simp at hk; rw [← hk.1, hq] at hg; cases hg
    | k + 2 => simp at hk
set_option maxHeartbeats 8000000 in
theorem firstC_ok (h : As.H) (q s S : Nat) (hS : 1 ≤ S ∧ S ≤ 10) (lv : V) (hl : bare0 lv = true) (lk br : Nat → Nat) (hb : Tb br) (mk : Nat → Bool) {w w2 : Bool} {g g2 : Option (Nat × Nat)} (hs : h.get s = some (.cells (ofL (skL S lv lk br mk) 0) w g)) (hq : h.get q = some (.cells (ofL [.ptr s 0] 0) w2 g2)) (x : Nat) (hx : x < S) (h1 : ∀ j, j < x → (br j).testBit j = false) (h2 : (br x).testBit x = true) :
    CallOk Try.prog 93 [.fn 111 [] [.ptr q 0], .fn 100 [.ptr s 0] []] h (.tup [.int .i64 x, .bool true]) h := by
  have kC := fun x (hx : x < 10) (h' : As.H) (hs : h'.get 0 = some (.cells (ofL (skL S lv lk br mk) 0) false none)) => isCirc_ok h' 0 S lv hl lk br hb mk x hx hs
  have hlt : ∀ n, ltB n (.cells (ofL (skL S lv lk br mk) 0) false none) := fun n => ltB_ofLb (skL_bare hl)
  have hBare : ∀ v ∈ skL S lv lk br mk, bare0 v = true := skL_bare hl
  refine CallOk.run Try.func93 rfl rfl (argsC := [.fn 111 [] [.ptr 1 0], .fn 100 [.ptr 0 0] []]) (Nat.le_of_ble_eq_true rfl) [some (s, 0), some (q, 0)] (.cons (CaL.fn .nil (.cons (.ptr (i := 0) rfl) .nil)) (.cons (CaL.fn (.cons (.ptr (i := 0) rfl) .nil) .nil) .nil)) (two_view (skL_bare hl) hs hq) rfl (WpR.of_vc ?_)
  (conv => whnf); (repeat' (first | ((with_reducible refine ifb_mk (fun hc => ?_) (fun hc => ?_)) <;> ((try simp only [decide_eq_true_eq, decide_eq_false_iff_not, Bool.not_eq_true', Bool.not_eq_false', Int.not_lt, Int.not_le, ne_eq, Decidable.not_not, beq_iff_eq, List.cons.injEq, and_true] at hc); (first | (exfalso; omega) | exact absurd True.intro hc | conv => whnf))) | ((with_reducible refine And.intro True.intro ?_); conv => whnf) | ((with_reducible refine RangeX.all ?_); conv => whnf) | ((with_reducible refine CallW.inline (f := 111) Try.func111 rfl rfl (Nat.le_of_ble_eq_true rfl) (WpR.of_vc ?_)); conv => whnf) | ((with_reducible refine And.intro ?hh ?_); (case hh => exact condA); conv => whnf) | fail))
  have hMap := hlt 7
  have hMapX := hlt 1000
  refine WpR.loopA (ι := Nat) [] [0, 1, 8] [] [] 7 (fun k => [(9, .int .i64 k)]) (fun _ => []) (fun k => S - k) (fun k => k ≤ x) ?_ (0) (Nat.zero_le _) [] Back.auto
  intro k j1
  refine WpR.of_vc ?_
  have hk : k < S := by omega
  have kCk := kC k (by omega)
  by_cases e : k = x
  · subst e
    rw [h2] at kCk
    (conv => whnf); (repeat' (first | ((with_reducible refine ifb_mk (fun hc => ?_) (fun hc => ?_)) <;> ((try simp only [decide_eq_true_eq, decide_eq_false_iff_not, Bool.not_eq_true', Bool.not_eq_false', Int.not_lt, Int.not_le, ne_eq, Decidable.not_not, beq_iff_eq, List.cons.injEq, and_true] at hc); (first | (exfalso; omega) | exact absurd True.intro hc | conv => whnf))) | ((with_reducible refine And.intro True.intro ?_); conv => whnf) | ((with_reducible refine grd_and ?_); refine And.intro (hk) ?_; conv => whnf) | ((with_reducible refine And.intro ?hh ?_); (case hh => exact condA); conv => whnf) | fail))
    refine YldX.all ?_
    refine YldW.inline rfl rfl rfl (WpR.of_vc ?_)
    conv => whnf
    refine ⟨rfl, _, rfl, rfl, WpR.of_vc ?_⟩
    (conv => whnf); (repeat' (first | ((with_reducible refine ifb_mk (fun hc => ?_) (fun hc => ?_)) <;> ((try simp only [decide_eq_true_eq, decide_eq_false_iff_not, Bool.not_eq_true', Bool.not_eq_false', Int.not_lt, Int.not_le, ne_eq, Decidable.not_not, beq_iff_eq, List.cons.injEq, and_true] at hc); (first | (exfalso; omega) | exact absurd True.intro hc | conv => whnf))) | ((with_reducible refine And.intro True.intro ?_); conv => whnf) | ((with_reducible refine CallX.all ?_); refine CallW.of_ok (kCk _ rfl) ?_; conv => whnf) | ((with_reducible refine And.intro ?hh ?_); (case hh => exact condA); conv => whnf) | fail))
    refine ⟨_, _, rfl, ?_⟩
    (conv => whnf); (repeat' (first | ((with_reducible refine ifb_mk (fun hc => ?_) (fun hc => ?_)) <;> ((try simp only [decide_eq_true_eq, decide_eq_false_iff_not, Bool.not_eq_true', Bool.not_eq_false', Int.not_lt, Int.not_le, ne_eq, Decidable.not_not, beq_iff_eq, List.cons.injEq, and_true] at hc); (first | (exfalso; omega) | exact absurd True.intro hc | conv => whnf))) | ((with_reducible refine And.intro True.intro ?_); conv => whnf) | ((with_reducible refine And.intro ?hh ?_); (case hh => exact condA); conv => whnf) | fail))
    all_goals (refine ⟨[], ?_, rfl, rfl, trivial, trivs⟩; simp only [renV, renL]; (first | done | rfl))
  · rw [h1 k (by omega)] at kCk
    (conv => whnf); (repeat' (first | ((with_reducible refine ifb_mk (fun hc => ?_) (fun hc => ?_)) <;> ((try simp only [decide_eq_true_eq, decide_eq_false_iff_not, Bool.not_eq_true', Bool.not_eq_false', Int.not_lt, Int.not_le, ne_eq, Decidable.not_not, beq_iff_eq, List.cons.injEq, and_true] at hc); (first | (exfalso; omega) | exact absurd True.intro hc | conv => whnf))) | ((with_reducible refine And.intro True.intro ?_); conv => whnf) | ((with_reducible refine grd_and ?_); refine And.intro (hk) ?_; conv => whnf) | ((with_reducible refine And.intro ?hh ?_); (case hh => exact condA); conv => whnf) | fail))
    refine YldX.all ?_
    refine YldW.inline rfl rfl rfl (WpR.of_vc ?_)
    conv => whnf
    refine ⟨rfl, _, rfl, rfl, WpR.of_vc ?_⟩
    (conv => whnf); (repeat' (first | ((with_reducible refine ifb_mk (fun hc => ?_) (fun hc => ?_)) <;> ((try simp only [decide_eq_true_eq, decide_eq_false_iff_not, Bool.not_eq_true', Bool.not_eq_false', Int.not_lt, Int.not_le, ne_eq, Decidable.not_not, beq_iff_eq, List.cons.injEq, and_true] at hc); (first | (exfalso; omega) | exact absurd True.intro hc | conv => whnf))) | ((with_reducible refine And.intro True.intro ?_); conv => whnf) | ((with_reducible refine CallX.all ?_); refine CallW.of_ok (kCk _ rfl) ?_; conv => whnf) | ((with_reducible refine And.intro ?hh ?_); (case hh => exact condA); conv => whnf) | fail))
    refine ⟨_, _, rfl, ?_⟩
    (conv => whnf); (repeat' (first | ((with_reducible refine ifb_mk (fun hc => ?_) (fun hc => ?_)) <;> ((try simp only [decide_eq_true_eq, decide_eq_false_iff_not, Bool.not_eq_true', Bool.not_eq_false', Int.not_lt, Int.not_le, ne_eq, Decidable.not_not, beq_iff_eq, List.cons.injEq, and_true] at hc); (first | (exfalso; omega) | exact absurd True.intro hc | conv => whnf))) | ((with_reducible refine And.intro True.intro ?_); conv => whnf) | ((with_reducible refine And.intro ?hh ?_); (case hh => exact condA); conv => whnf) | fail))
    exact ⟨k + 1, [], by omega, by omega, Back.auto⟩
end Go.Proofs.J

namespace Go.Proofs.J
open Go.As
set_option maxRecDepth 20000
set_option linter.unusedVariables false
set_option linter.unusedSimpArgs false

theorem sk_put {S : Int} {lv : V} {lk br : Nat → Nat} {mk mk' : Nat → Bool} {o x : Nat} (ho : o = 22 + x) (hx : x < 10) (hm : ∀ y, mk' y = if y = x then true else mk y) : putN [V.bool true] (ofL (skL S lv lk br mk) 0) o = some (ofL (skL S lv lk br mk') 0) := by
  rw [putN_cons, sk_mk ho hx]
  subst ho
  have e : mk' = fun y => if y = x then true else mk y := funext hm
  subst e
  have h10 : x = 0 ∨ x = 1 ∨ x = 2 ∨ x = 3 ∨ x = 4 ∨ x = 5 ∨ x = 6 ∨ x = 7 ∨ x = 8 ∨ x = 9 := by omega
  rcases h10 with rfl | rfl | rfl | rfl | rfl | rfl | rfl | rfl | rfl | rfl <;> rfl
theorem ar_put {f f' : Nat → Int} {o x : Nat} {y : Int} (ho : o = x) (hx : x < 10) (hm : ∀ k, f' k = if k = x then y else f k) : putN [V.int .i64 y] (ofL (arrV 10 fun k => V.int .i64 (f k)) 0) o = some (ofL (arrV 10 fun k => V.int .i64 (f' k)) 0) := by
  have hg : (ofL (arrV 10 fun k => V.int .i64 (f k)) 0).get o = some (.int .i64 (f x)) := arrV_get ho hx
  rw [putN_cons, hg]
  subst ho
  have e : f' = fun k => if k = o then y else f k := funext hm
  subst e
  have h10 : o = 0 ∨ o = 1 ∨ o = 2 ∨ o = 3 ∨ o = 4 ∨ o = 5 ∨ o = 6 ∨ o = 7 ∨ o = 8 ∨ o = 9 := by omega
  rcases h10 with rfl | rfl | rfl | rfl | rfl | rfl | rfl | rfl | rfl | rfl <;> rfl
theorem slo_mk {sz b o len cap d : Nat} {lo : As.X} {e : Tr V} (h : lo e = some (.int .i64 (d : Int))) (h1 : d < cap) (h2 : d ≤ len) (h3 : len ≤ cap) : sliceAt sz (some lo) none none e (.sl b o len cap true) = some (.sl b (o + d * sz) (len - d) (cap - d) true) := by
  unfold sliceAt bounds
  have e1 : sMax none cap true e = some (cap, true) := rfl
  have e2 : sHi none none cap len e = some len := rfl
  have e3 : sLo (some lo) len e = some d := by
    show bnd lo len e = _
    unfold bnd
    rw [h]
    show (if Nat.ble d len = true then some d else none) = some d
    rw [if_pos (Nat.ble_eq_true_of_le h2)]
  have e4 : Nat.beq cap d = false := by
    cases hb : Nat.beq cap d with
    | false => rfl
    | true => have := Nat.eq_of_beq_eq_true hb; omega
  have e5 : Nat.blt d cap = true := Nat.ble_eq_true_of_le h1
  simp only [e1, e2, e3, e4, e5]
set_option maxHeartbeats 4000000 in
theorem index_ok (h : As.H) (n : Nat) (hn : n ≤ 1000) (a : Nat → Int) (sv : V) (hs : SlC h (arrV n fun k => .int .i64 (a k)) n sv) (d : Nat) (hd : d < n) (h1 : ∀ j, j < d → a j ≠ a d) :
    CallOk Try.prog 101 [sv, .int .i64 (a d)] h (.int .i64 d) h := by
  obtain ⟨vo, svC, hsv, hca, hvw⟩ := hs.view 0
  have hBare : ∀ v ∈ arrV n fun k => V.int .i64 (a k), bare0 v = true := arrV_bare fun _ => rfl
  refine CallOk.run Try.func101 rfl rfl (argsC := [svC, .int .i64 (a d)]) (Nat.le_of_ble_eq_true rfl) [vo] (.cons (hca _ rfl) (.cons (.bare rfl) .nil)) (viewMc1 (arrV_bare fun _ => rfl) hvw) rfl (WpR.of_vc ?_)
  have hMap : ltB 1 (.cells (ofL (arrV n fun k => V.int .i64 (a k)) 0) false none) := ltB_ofLb hBare
  have hMap2 : ltB 1000 (.cells (ofL (arrV n fun k => V.int .i64 (a k)) 0) false none) := ltB_ofLb hBare
  cases hsv with
  | nil h0 => omega
  | @sl cap ex =>
  (conv => whnf); (repeat' (first | ((with_reducible refine ifb_mk (fun hc => ?_) (fun hc => ?_)) <;> ((try simp only [decide_eq_true_eq, decide_eq_false_iff_not, Bool.not_eq_true', Bool.not_eq_false', Int.not_lt, Int.not_le, ne_eq, Decidable.not_not, beq_iff_eq, List.cons.injEq, and_true] at hc); (first | (exfalso; omega) | exact absurd True.intro hc | conv => whnf))) | ((with_reducible refine And.intro True.intro ?_); conv => whnf) | ((with_reducible refine And.intro ?hh ?_); (case hh => exact condA); conv => whnf) | fail))
  refine WpR.loopA (ι := Nat) [] [0, 1, 7] [] [] 1 (fun i => [(8, .int .i64 i)]) (fun _ => []) (fun i => d - i) (fun i => i ≤ d) ?_ (0) (Nat.zero_le _) [] Back.auto
  intro i hi
  refine WpR.of_vc ?_
  have hin : i < n := by omega
  have hg : ∀ o, o = i → (ofL (arrV n fun k => V.int .i64 (a k)) 0).get o = some (.int .i64 (a i)) := fun o ho => arrV_get ho hin
  by_cases e : i = d
  · subst e
    (conv => whnf); (repeat' (first | ((with_reducible refine ifb_mk (fun hc => ?_) (fun hc => ?_)) <;> ((try simp only [decide_eq_true_eq, decide_eq_false_iff_not, Bool.not_eq_true', Bool.not_eq_false', Int.not_lt, Int.not_le, ne_eq, Decidable.not_not, beq_iff_eq, List.cons.injEq, and_true] at hc); (first | (exfalso; omega) | exact absurd True.intro hc | conv => whnf))) | ((with_reducible refine And.intro True.intro ?_); conv => whnf) | ((with_reducible refine grd_and ?_); refine And.intro (hin) ?_; conv => whnf) | ((with_reducible refine grd_get ?_); refine som_mk (a := ?_) ?hh ?_; (case hh => exact hg _ (by show 0 + Int.toNat (i : Int) * 1 = i; omega)); conv => whnf) | ((with_reducible refine And.intro ?hh ?_); (case hh => exact condA); conv => whnf) | fail))
    all_goals first | (exfalso; omega) | (refine ⟨[], ?_, rfl, rfl, trivial, trivs⟩; simp only [renV, renL]; (first | done | rfl | (simp; done) | (simp; omega) | grind))
  · have hne := h1 i (by omega)
    (conv => whnf); (repeat' (first | ((with_reducible refine ifb_mk (fun hc => ?_) (fun hc => ?_)) <;> ((try simp only [decide_eq_true_eq, decide_eq_false_iff_not, Bool.not_eq_true', Bool.not_eq_false', Int.not_lt, Int.not_le, ne_eq, Decidable.not_not, beq_iff_eq, List.cons.injEq, and_true] at hc); (first | (exfalso; omega) | exact absurd True.intro hc | conv => whnf))) | ((with_reducible refine And.intro True.intro ?_); conv => whnf) | ((with_reducible refine grd_and ?_); refine And.intro (hin) ?_; conv => whnf) | ((with_reducible refine grd_get ?_); refine som_mk (a := ?_) ?hh ?_; (case hh => exact hg _ (by show 0 + Int.toNat (i : Int) * 1 = i; omega)); conv => whnf) | ((with_reducible refine And.intro ?hh ?_); (case hh => exact condA); conv => whnf) | fail))
    all_goals first | (exfalso; omega) | exact ⟨i + 1, [], by omega, by omega, Back.auto⟩
theorem index_x (h : As.H) (n : Nat) (hn : n ≤ 1000) (a : Nat → Int) (sv : V) (hs : SlC h (arrV n fun k => .int .i64 (a k)) n sv) (d : Nat) (hd : d < n) (x : Int) (hx : a d = x) (h1 : ∀ j, j < d → a j ≠ x) :
    CallOk Try.prog 101 [sv, .int .i64 x] h (.int .i64 d) h := by
  subst hx
  exact index_ok h n hn a sv hs d hd h1
end Go.Proofs.J

namespace Go.Proofs.J
open Go.As
set_option maxRecDepth 20000
set_option linter.unusedVariables false
set_option linter.unusedSimpArgs false

/-! ### A circle -/

def rwF (S : Nat) (lk br : Nat → Nat) (i : Nat) : Nat → Int := fun k => if k < i then ((wkN S lk br k : Nat) : Int) else 0
set_option maxHeartbeats 16000000 in
theorem circle_new (h : As.H) (S : Nat) (ex : Bool) (n : Nat) (a b : Nat → Int) (hv : ckB S n a b = 0) (c : Cy S (loT a b n) (clo (loT a b n))) :
    CallOk Try.prog 30 [bkV S ex n a b] h (.tup [.sl (h.n + 0) 0 (enW1 S (loT a b n) (clo (loT a b n)) - enW0 S (loT a b n) (clo (loT a b n))) (enW1 S (loT a b n) (clo (loT a b n)) - enW0 S (loT a b n) (clo (loT a b n))) true, .int .i64 0])
      (addBs h [.cells (ofL (arrV (enW1 S (loT a b n) (clo (loT a b n)) - enW0 S (loT a b n) (clo (loT a b n))) fun k => .int .i64 ((wkN S (loT a b n) (clo (loT a b n)) (enW0 S (loT a b n) (clo (loT a b n)) + k) : Nat) : Int)) 0) true none]) := by
  obtain ⟨hS, hn, hok⟩ := ckB_fine hv
  have kB : ∀ (h' : As.H) (s : Nat), s = h'.n + 0 → _ := fun h' s e => by
    have := skyFor_new h' S ex n a b hv
    rw [← e] at this
    exact this
  have hTb := clo_tb (loT a b n)
  generalize clo (loT a b n) = br at *
  generalize loT a b n = lk at *
  have kB := fun (h' : As.H) (e : 1 = h'.n + 0) => kB h' 1 e
  have kH := fun (h' : As.H) hs => hasOrder_ok h' 1 S hS (.rsl ex 2 n (lkG a b)) rfl lk br hTb (fun _ => false) (w := true) (g := none) hs
  rw [c.cy] at kH
  have hwk := c.walk hS.2
  have hws := c.step hS.2
  obtain ⟨hm1, hm2, hm3⟩ := c.ends hS.2
  obtain ⟨hd1, hd2, hd3⟩ := c.first hS.2
  have kC := fun (mk : Nat → Bool) x (hx : x < 10) (h' : As.H) hs => isCirc_ok h' 1 S (.rsl ex 2 n (lkG a b)) rfl lk br hTb mk x hx (w := true) (g := none) hs
  have hw0 : ∀ x, x < S → (∀ j, j < x → (br j).testBit j = false) → (br x).testBit x = true → wkN S lk br 0 = x := fun x hx h1 h2 => leF_at hx h1 h2
  have hwS : ∀ i y, y < S → (∀ j, j < y → ((lk j).testBit (wkN S lk br i) && (br (wkN S lk br i)).testBit j) = false) → ((lk y).testBit (wkN S lk br i) && (br (wkN S lk br i)).testBit y) = true → wkN S lk br (i + 1) = y := fun i y hy h1 h2 => leF_at hy h1 h2
  have hw0a : ∀ j, j < wkN S lk br 0 → (br j).testBit j = false := (leF_spec (fun x => (br x).testBit x) S).2.1
  have hmk0 := mkW_0 (S := S) (lk := lk) (br := br)
  have hmkS := mkW_succ (S := S) (lk := lk) (br := br)
  have hrm : ∀ i k, rwF S lk br (i + 1) k = if k = i then ((wkN S lk br i : Nat) : Int) else rwF S lk br i k := fun i k => by
    unfold rwF
    by_cases e : k = i
    · subst e; rw [if_pos rfl, if_pos (by omega)]
    · rw [if_neg e]
      by_cases hk : k < i
      · rw [if_pos hk, if_pos (by omega)]
      · rw [if_neg hk, if_neg (by omega)]
  have hr0 : (arrV 10 fun k => V.int .i64 (rwF S lk br 0 k)) = rep 10 [.int .i64 0] := by rw [arrV_rep]; exact arrV_eq fun k _ => by unfold rwF; rw [if_neg (by omega)]
  have hrS : ∀ m k, k < m → rwF S lk br m k = ((wkN S lk br k : Nat) : Int) := fun m k hk => if_pos hk
  have hTl := c.tb
  clear c
  generalize enW0 S lk br = d at *
  generalize enW1 S lk br = m at *
  generalize rwF S lk br = rm at *
  generalize mkW S lk br = mw at *
  generalize wkN S lk br = wk at *
  have hself : ∀ ρ : Nat → Nat, SubQ ρ (skB S (.rsl ex 2 n (lkG a b)) lk br fun _ => false) (skB S (.rsl ex 2 n (lkG a b)) lk br fun _ => false) := fun ρ => SubQ.ofL rfl (skL_bare rfl) (.inl rfl)
  have hlt : ∀ n' mk, ltB n' (skB S (.rsl ex 2 n (lkG a b)) lk br mk) := fun n' mk => ltB_ofLb (skL_bare rfl)
  refine CallOk.runN Try.func30 rfl rfl (argsC := [bkV S ex n a b]) (fun N => .tup [.sl (N + 0) 0 (m - d) (m - d) true, .int .i64 0]) (fun N => [.cells (ofL (arrV (m - d) fun k => .int .i64 ((wk (d + k) : Nat) : Int)) 0) true none]) (Nat.le_of_ble_eq_true rfl) [] (.cons (.lt0 rfl) .nil) (viewM0 h) (ShV.tup (.cons (.sl (i := 0) (Nat.le_of_ble_eq_true rfl) rfl rfl) (.cons (.bare rfl) .nil))) rfl (fun i b hi => ?_) (WpR.of_vc ?_)
  · match i, hi with
    | 0, hi => cases hi; exact ⟨_, rfl, rfl, .bare (ofL_bare (arrV_bare fun _ => rfl))⟩
    | i + 1, hi => simp at hi
  · (conv => whnf); (repeat' (first | ((with_reducible refine ifb_mk (fun hc => ?_) (fun hc => ?_)) <;> ((try simp only [decide_eq_true_eq, decide_eq_false_iff_not, Bool.not_eq_true', Bool.not_eq_false', Int.not_lt, Int.not_le, ne_eq, Decidable.not_not, beq_iff_eq, List.cons.injEq, and_true] at hc); (first | (exfalso; omega) | exact absurd True.intro hc | conv => whnf))) | ((with_reducible refine And.intro True.intro ?_); conv => whnf) | ((with_reducible refine CallX.all ?_); refine CallW.of_ok (kB _ (by rfl)) ?_; conv => whnf) | ((with_reducible refine CallX.all ?_); refine CallW.of_ok (kH _ rfl) ?_; conv => whnf) | ((with_reducible refine CallX.all (f := 71) ?_); refine CallW.inline Try.func71 rfl rfl (Nat.le_of_ble_eq_true rfl) (WpR.of_vc ?_); conv => whnf) | ((with_reducible refine And.intro ?hh ?_); (case hh => exact condA); conv => whnf) | fail))
    refine som_mk (a := .sl 3 0 0 S true) ?hh ?_
    case hh =>
      have hn2 : S = 1 ∨ S = 2 ∨ S = 3 ∨ S = 4 ∨ S = 5 ∨ S = 6 ∨ S = 7 ∨ S = 8 ∨ S = 9 ∨ S = 10 := by omega
      clear hself hlt hrS hr0 hrm hmkS hmk0 hwS hw0 kC hd1 hd2 hd3 hm1 hm2 hm3 hws hwk kH kB hok hTb hTl hv
      rcases hn2 with rfl | rfl | rfl | rfl | rfl | rfl | rfl | rfl | rfl | rfl <;> rfl
    have kS := fun (h' : As.H) (e : 5 = h'.n + 0) (hs : h'.get 1 = some (skB S (.rsl ex 2 n (lkG a b)) lk br fun _ => false)) => by
      have := stars_new h' 1 (L := skL S (.rsl ex 2 n (lkG a b)) lk br fun _ => false) (skL_bare rfl) hs
      rw [← e] at this
      exact this
    have kF := fun (h' : As.H) hs hq => firstC_ok h' 5 1 S hS (.rsl ex 2 n (lkG a b)) rfl lk br hTb (fun _ => false) (w := true) (g := none) (w2 := true) (g2 := none) hs hq (wk 0) (hwk 0).1 hw0a (hwk 0).2
    (conv => whnf); (repeat' (first | ((with_reducible refine ifb_mk (fun hc => ?_) (fun hc => ?_)) <;> ((try simp only [decide_eq_true_eq, decide_eq_false_iff_not, Bool.not_eq_true', Bool.not_eq_false', Int.not_lt, Int.not_le, ne_eq, Decidable.not_not, beq_iff_eq, List.cons.injEq, and_true] at hc); (first | (exfalso; omega) | exact absurd True.intro hc | conv => whnf))) | ((with_reducible refine And.intro True.intro ?_); conv => whnf) | ((with_reducible refine WpR.draw (id := 4) mixed [0, 2, 3, 8, 1, 4, 5, 6, 7, 9, 10] [0, 1, 0, 4, 15, 31, 63, 63, 0, 383, 1023] ?hh ?_); (case hh => kernel_rfl); conv => whnf) | ((with_reducible refine WpR.draw (id := 5) mixed [0, 1, 2, 3, 4, 5, 6] [0, 0, 1, 5, 15, 31, 63] ?hh ?_); (case hh => kernel_rfl); conv => whnf) | ((with_reducible refine WpR.draw (id := 6) mixed [0, 1, 2, 3, 4, 5] [0, 0, 1, 5, 15, 31] ?hh ?_); (case hh => kernel_rfl); conv => whnf) | ((with_reducible refine WpR.draw (id := 10) mixed [0, 1, 2, 3, 4, 5, 6, 7, 8, 9, 10, 11, 12, 13, 14, 15, 16, 17] [0, 0, 1, 5, 15, 31, 0, 127, 255, 511, 511, 1023, 3071, 8191, 16383, 511, 65535, 131071] ?hh ?_); (case hh => kernel_rfl); conv => whnf) | ((with_reducible refine grd_ex ?_); refine ex_ok (kS _ (by rfl) rfl) ?_; conv => whnf) | ((with_reducible refine grd_ex ?_); refine ex_ok (kF _ rfl rfl) ?_; conv => whnf) | ((with_reducible refine And.intro ?hh ?_); (case hh => exact condA); conv => whnf) | fail))
    have hq1 : ∀ ρ : Nat → Nat, SubQ ρ (.cells (ofL (skL S (.rsl ex 2 n (lkG a b)) lk br (mw 0)) 0) true none) (.cells (ofL (skL S (.rsl ex 2 n (lkG a b)) lk br fun _ => false) 0) true none) := fun ρ => by rw [show mw 0 = fun _ => false from funext hmk0]; exact SubQ.ofL rfl (skL_bare rfl) (.inr rfl)
    have hq2 : ∀ ρ : Nat → Nat, SubQ ρ (.cells (ofL (arrV 10 fun k => .int .i64 (rm 0 k)) 0) true none) (.cells (ofL (rep 10 [V.int .i64 0]) 0) true none) := fun ρ => by rw [← hr0]; exact SubQ.ofL rfl (arrV_bare fun _ => rfl) (.inr rfl)
    have hq3 : ∀ ρ : Nat → Nat, SubQ ρ (.cells (ofL [.int .i64 ((wk 0 : Nat) : Int)] 0) true none) (.cells (ofL [.int .i64 ((wk 0 : Nat) : Int)] 0) true none) := fun ρ => SubQ.ofL rfl (by intro v hv; (repeat (rcases List.mem_cons.1 hv with rfl | hv; exact rfl)); exact absurd hv (List.not_mem_nil)) (.inr rfl)
    have hMap := hlt 6
    have hMap2 := hlt 1000
    have hMapA : ∀ i, ltB 1000 (.cells (ofL (arrV 10 fun k => .int .i64 (rm i k)) 0) true none) := fun i => ltB_ofLb (arrV_bare fun _ => rfl)
    have hMapB : ∀ i, ltB 6 (.cells (ofL (arrV 10 fun k => .int .i64 (rm i k)) 0) true none) := fun i => ltB_ofLb (arrV_bare fun _ => rfl)
    have hgm := fun i x (hx : x < 10) o (ho : o = 22 + x) => sk_mk (S := S) (lv := .rsl ex 2 n (lkG a b)) (lk := lk) (br := br) (mk := mw i) ho hx
    have hgb := fun mk x (hx : x < 10) o (ho : o = 12 + x) => sk_br (S := S) (lv := .rsl ex 2 n (lkG a b)) (lk := lk) (br := br) (mk := mk) ho hx
    have hgl := fun mk x (hx : x < 10) o (ho : o = 2 + x) => sk_lk (S := S) (lv := .rsl ex 2 n (lkG a b)) (lk := lk) (br := br) (mk := mk) ho hx
    refine WpR.loopGA 1 (ι := Nat) [] [1, 5] [1, 3, 4] [] 6 (fun i => [(4, .sl 3 0 i S true)]) (fun i => [(1, .cells (ofL (skL S (.rsl ex 2 n (lkG a b)) lk br (mw i)) 0) true none), (3, .cells (ofL (arrV 10 fun k => .int .i64 (rm i k)) 0) true none), (4, .cells (ofL [.int .i64 ((wk i : Nat) : Int)] 0) true none)]) (fun i => m - i) (fun i => i ≤ m) ?_ (0) (Nat.zero_le _) [] ⟨rfl, rfl, (by (repeat' (first | exact True.intro | rfl | exact gr_ren rfl | exact aV_ren rfl | exact aW_ren rfl rfl | refine And.intro ?_ ?_))), (by (repeat' (first | exact True.intro | rfl | exact gr_ren rfl | exact aV_ren rfl | exact aW_ren rfl rfl | refine And.intro ?_ ?_))), (by (repeat' (first | exact True.intro | rfl | exact gr_ren rfl | exact aV_ren rfl | exact aW_ren rfl rfl | refine And.intro ?_ ?_))), ⟨.inr ⟨_, rfl, hq1 _⟩, .inr ⟨_, rfl, hq2 _⟩, .inr ⟨_, rfl, hq3 _⟩, trivial⟩, rfl, rfl⟩
    intro i hi
    refine WpR.of_vc ?_
    have hwi := (hwk i).1
    have hgmi := hgm i (wk i) (by omega)
    by_cases him : i < m
    · have hf := hm3 i him
      rw [hf] at hgmi
      have hmi := hmkS i
      have hp : ∀ o, o = 22 + wk i → putN [V.bool true] (ofL (skL S (.rsl ex 2 n (lkG a b)) lk br (mw i)) 0) o = some (ofL (skL S (.rsl ex 2 n (lkG a b)) lk br (mw (i + 1))) 0) := fun o ho => sk_put ho (by omega) hmi
      have hrmi := hrm i
      have hp3 : putN [V.int .i64 (wk i : Int)] (ofL (arrV 10 fun q => V.int .i64 (rm i q)) 0) (0 + i * 1) = some (ofL (arrV 10 fun q => V.int .i64 (rm (i + 1) q)) 0) := ar_put (by omega) (by omega) hrmi
      (conv => whnf); (repeat' (first | ((with_reducible refine ifb_mk (fun hc => ?_) (fun hc => ?_)) <;> ((try simp only [decide_eq_true_eq, decide_eq_false_iff_not, Bool.not_eq_true', Bool.not_eq_false', Int.not_lt, Int.not_le, ne_eq, Decidable.not_not, beq_iff_eq, List.cons.injEq, and_true] at hc); (first | (exfalso; omega) | exact absurd True.intro hc | conv => whnf))) | ((with_reducible refine And.intro True.intro ?_); conv => whnf) | ((with_reducible refine WpR.draw (id := 4) mixed [0, 2, 3, 8, 1, 4, 5, 6, 7, 9, 10] [0, 1, 0, 4, 15, 31, 63, 63, 0, 383, 1023] ?hh ?_); (case hh => kernel_rfl); conv => whnf) | ((with_reducible refine WpR.draw (id := 5) mixed [0, 1, 2, 3, 4, 5, 6] [0, 0, 1, 5, 15, 31, 63] ?hh ?_); (case hh => kernel_rfl); conv => whnf) | ((with_reducible refine WpR.draw (id := 6) mixed [0, 1, 2, 3, 4, 5] [0, 0, 1, 5, 15, 31] ?hh ?_); (case hh => kernel_rfl); conv => whnf) | ((with_reducible refine WpR.draw (id := 10) mixed [0, 1, 2, 3, 4, 5, 6, 7, 8, 9, 10, 11, 12, 13, 14, 15, 16, 17] [0, 0, 1, 5, 15, 31, 0, 127, 255, 511, 511, 1023, 3071, 8191, 16383, 511, 65535, 131071] ?hh ?_); (case hh => kernel_rfl); conv => whnf) | ((with_reducible refine grd_get ?_); refine som_mk (a := ?_) ?hh ?_; (case hh => exact hgmi _ (by show 22 + Int.toNat (wk i : Int) * 1 = 22 + wk i; omega)); conv => whnf) | ((with_reducible refine grd_putN ?_); refine som_mk (a := ?_) ?hh ?_; (case hh => exact hp _ (by show 22 + Int.toNat (wk i : Int) * 1 = 22 + wk i; omega)); conv => whnf) | (refine AppX.room (n := 1) (len := i) rfl (by omega) hp3 ?_; conv => whnf) | ((with_reducible refine CallX.all (f := 99) ?_); refine CallW.inline Try.func99 rfl rfl (Nat.le_of_ble_eq_true rfl) (WpR.of_vc ?_); conv => whnf) | ((with_reducible refine RangeX.all ?_); conv => whnf) | ((with_reducible refine CallW.inline (f := 111) Try.func111 rfl rfl (Nat.le_of_ble_eq_true rfl) (WpR.of_vc ?_)); conv => whnf) | ((with_reducible refine And.intro ?hh ?_); (case hh => exact condA); conv => whnf) | fail))
      have hMapD := hlt 10
      have hMapE : ∀ i, ltB 10 (.cells (ofL (arrV 10 fun k => .int .i64 (rm i k)) 0) true none) := fun i => ltB_ofLb (arrV_bare fun _ => rfl)
      have hb1 : ∀ ρ : Nat → Nat, SubQ ρ (.cells (ofL (skL S (.rsl ex 2 n (lkG a b)) lk br (mw (i + 1))) 0) true none) (.cells (ofL (skL S (.rsl ex 2 n (lkG a b)) lk br (mw (i + 1))) 0) true none) := fun ρ => SubQ.ofL rfl (skL_bare rfl) (.inr rfl)
      have hb2 : ∀ ρ : Nat → Nat, SubQ ρ (.cells (ofL (arrV 10 fun k => .int .i64 (rm (i + 1) k)) 0) true none) (.cells (ofL (arrV 10 fun k => .int .i64 (rm (i + 1) k)) 0) true none) := fun ρ => SubQ.ofL rfl (arrV_bare fun _ => rfl) (.inr rfl)
      have hwl := (hwk (i + 1)).1
      have hnx := hwS i
      have hst := hws i
      refine WpR.loopA (ι := Nat) [] [0, 1, 8] [] [] 10 (fun k => [(9, .int .i64 k)]) (fun _ => []) (fun k => S - k) (fun k => k ≤ S ∧ ∀ j, j < k → ((lk j).testBit (wk i) && (br (wk i)).testBit j) = false) ?_ (0) (⟨Nat.zero_le _, fun j hj => absurd hj (Nat.not_lt_zero _)⟩) [] Back.auto
      rintro k ⟨j1, j2⟩
      refine WpR.of_vc ?_
      by_cases hk : k < S
      · have k1 := fun h' => has_ok h' (lk k) (wk i) (by have := hTl k (by omega); omega) (by omega)
        have k2 := fun h' => has_ok h' (br (wk i)) k (by have := hTb (wk i) (by omega); omega) (by omega)
        have hgk := hgl (mw (i + 1)) k (by omega)
        have hgw := hgb (mw (i + 1)) (wk i) (by omega)
        cases ha1 : (lk k).testBit (wk i) with
        | false =>
          rw [ha1] at k1
          have hbl := below_f (p := fun j => (lk j).testBit (wk i) && (br (wk i)).testBit j) j2 (by rw [ha1]; rfl)
          (conv => whnf); (repeat' (first | ((with_reducible refine ifb_mk (fun hc => ?_) (fun hc => ?_)) <;> ((try simp only [decide_eq_true_eq, decide_eq_false_iff_not, Bool.not_eq_true', Bool.not_eq_false', Int.not_lt, Int.not_le, ne_eq, Decidable.not_not, beq_iff_eq, List.cons.injEq, and_true] at hc); (first | (exfalso; omega) | exact absurd True.intro hc | conv => whnf))) | ((with_reducible refine And.intro True.intro ?_); conv => whnf) | ((with_reducible refine grd_and ?_); refine And.intro (hk) ?_; conv => whnf) | ((with_reducible refine And.intro ?hh ?_); (case hh => exact condA); conv => whnf) | fail))
          refine YldX.all ?_
          refine YldW.inline rfl rfl rfl (WpR.of_vc ?_)
          conv => whnf
          refine ⟨rfl, _, rfl, rfl, WpR.of_vc ?_⟩
          (conv => whnf); (repeat' (first | ((with_reducible refine ifb_mk (fun hc => ?_) (fun hc => ?_)) <;> ((try simp only [decide_eq_true_eq, decide_eq_false_iff_not, Bool.not_eq_true', Bool.not_eq_false', Int.not_lt, Int.not_le, ne_eq, Decidable.not_not, beq_iff_eq, List.cons.injEq, and_true] at hc); (first | (exfalso; omega) | exact absurd True.intro hc | conv => whnf))) | ((with_reducible refine And.intro True.intro ?_); conv => whnf) | ((with_reducible refine WpR.draw (id := 4) mixed [0, 2, 3, 8, 1, 4, 5, 6, 7, 9, 10] [0, 1, 0, 4, 15, 31, 63, 63, 0, 383, 1023] ?hh ?_); (case hh => kernel_rfl); conv => whnf) | ((with_reducible refine WpR.draw (id := 5) mixed [0, 1, 2, 3, 4, 5, 6] [0, 0, 1, 5, 15, 31, 63] ?hh ?_); (case hh => kernel_rfl); conv => whnf) | ((with_reducible refine WpR.draw (id := 6) mixed [0, 1, 2, 3, 4, 5] [0, 0, 1, 5, 15, 31] ?hh ?_); (case hh => kernel_rfl); conv => whnf) | ((with_reducible refine WpR.draw (id := 10) mixed [0, 1, 2, 3, 4, 5, 6, 7, 8, 9, 10, 11, 12, 13, 14, 15, 16, 17] [0, 0, 1, 5, 15, 31, 0, 127, 255, 511, 511, 1023, 3071, 8191, 16383, 511, 65535, 131071] ?hh ?_); (case hh => kernel_rfl); conv => whnf) | ((with_reducible refine grd_ex ?_); refine ex_ok (k1 _) ?_; conv => whnf) | ((with_reducible refine grd_get ?_); refine som_mk (a := ?_) ?hh ?_; (case hh => exact hgk _ (by show 2 + Int.toNat (k : Int) * 1 = 2 + k; omega)); conv => whnf) | ((with_reducible refine grd_get ?_); refine som_mk (a := ?_) ?hh ?_; (case hh => exact hgw _ (by show 12 + Int.toNat (wk i : Int) * 1 = 12 + wk i; omega)); conv => whnf) | ((with_reducible refine And.intro ?hh ?_); (case hh => exact condA); conv => whnf) | fail))
          refine ⟨_, _, rfl, ?_⟩
          (conv => whnf); (repeat' (first | ((with_reducible refine ifb_mk (fun hc => ?_) (fun hc => ?_)) <;> ((try simp only [decide_eq_true_eq, decide_eq_false_iff_not, Bool.not_eq_true', Bool.not_eq_false', Int.not_lt, Int.not_le, ne_eq, Decidable.not_not, beq_iff_eq, List.cons.injEq, and_true] at hc); (first | (exfalso; omega) | exact absurd True.intro hc | conv => whnf))) | ((with_reducible refine And.intro True.intro ?_); conv => whnf) | ((with_reducible refine And.intro ?hh ?_); (case hh => exact condA); conv => whnf) | fail))
          exact ⟨k + 1, [], by omega, ⟨by omega, hbl⟩, Back.auto⟩
        | true =>
          rw [ha1] at k1
          cases ha2 : (br (wk i)).testBit k with
          | false =>
            rw [ha2] at k2
            have hbl := below_f (p := fun j => (lk j).testBit (wk i) && (br (wk i)).testBit j) j2 (by rw [ha1, ha2]; rfl)
            (conv => whnf); (repeat' (first | ((with_reducible refine ifb_mk (fun hc => ?_) (fun hc => ?_)) <;> ((try simp only [decide_eq_true_eq, decide_eq_false_iff_not, Bool.not_eq_true', Bool.not_eq_false', Int.not_lt, Int.not_le, ne_eq, Decidable.not_not, beq_iff_eq, List.cons.injEq, and_true] at hc); (first | (exfalso; omega) | exact absurd True.intro hc | conv => whnf))) | ((with_reducible refine And.intro True.intro ?_); conv => whnf) | ((with_reducible refine grd_and ?_); refine And.intro (hk) ?_; conv => whnf) | ((with_reducible refine And.intro ?hh ?_); (case hh => exact condA); conv => whnf) | fail))
            refine YldX.all ?_
            refine YldW.inline rfl rfl rfl (WpR.of_vc ?_)
            conv => whnf
            refine ⟨rfl, _, rfl, rfl, WpR.of_vc ?_⟩
            (conv => whnf); (repeat' (first | ((with_reducible refine ifb_mk (fun hc => ?_) (fun hc => ?_)) <;> ((try simp only [decide_eq_true_eq, decide_eq_false_iff_not, Bool.not_eq_true', Bool.not_eq_false', Int.not_lt, Int.not_le, ne_eq, Decidable.not_not, beq_iff_eq, List.cons.injEq, and_true] at hc); (first | (exfalso; omega) | exact absurd True.intro hc | conv => whnf))) | ((with_reducible refine And.intro True.intro ?_); conv => whnf) | ((with_reducible refine WpR.draw (id := 4) mixed [0, 2, 3, 8, 1, 4, 5, 6, 7, 9, 10] [0, 1, 0, 4, 15, 31, 63, 63, 0, 383, 1023] ?hh ?_); (case hh => kernel_rfl); conv => whnf) | ((with_reducible refine WpR.draw (id := 5) mixed [0, 1, 2, 3, 4, 5, 6] [0, 0, 1, 5, 15, 31, 63] ?hh ?_); (case hh => kernel_rfl); conv => whnf) | ((with_reducible refine WpR.draw (id := 6) mixed [0, 1, 2, 3, 4, 5] [0, 0, 1, 5, 15, 31] ?hh ?_); (case hh => kernel_rfl); conv => whnf) | ((with_reducible refine WpR.draw (id := 10) mixed [0, 1, 2, 3, 4, 5, 6, 7, 8, 9, 10, 11, 12, 13, 14, 15, 16, 17] [0, 0, 1, 5, 15, 31, 0, 127, 255, 511, 511, 1023, 3071, 8191, 16383, 511, 65535, 131071] ?hh ?_); (case hh => kernel_rfl); conv => whnf) | ((with_reducible refine grd_ex ?_); refine ex_ok (k1 _) ?_; conv => whnf) | ((with_reducible refine grd_ex ?_); refine ex_ok (k2 _) ?_; conv => whnf) | ((with_reducible refine grd_get ?_); refine som_mk (a := ?_) ?hh ?_; (case hh => exact hgk _ (by show 2 + Int.toNat (k : Int) * 1 = 2 + k; omega)); conv => whnf) | ((with_reducible refine grd_get ?_); refine som_mk (a := ?_) ?hh ?_; (case hh => exact hgw _ (by show 12 + Int.toNat (wk i : Int) * 1 = 12 + wk i; omega)); conv => whnf) | ((with_reducible refine And.intro ?hh ?_); (case hh => exact condA); conv => whnf) | fail))
            refine ⟨_, _, rfl, ?_⟩
            (conv => whnf); (repeat' (first | ((with_reducible refine ifb_mk (fun hc => ?_) (fun hc => ?_)) <;> ((try simp only [decide_eq_true_eq, decide_eq_false_iff_not, Bool.not_eq_true', Bool.not_eq_false', Int.not_lt, Int.not_le, ne_eq, Decidable.not_not, beq_iff_eq, List.cons.injEq, and_true] at hc); (first | (exfalso; omega) | exact absurd True.intro hc | conv => whnf))) | ((with_reducible refine And.intro True.intro ?_); conv => whnf) | ((with_reducible refine And.intro ?hh ?_); (case hh => exact condA); conv => whnf) | fail))
            exact ⟨k + 1, [], by omega, ⟨by omega, hbl⟩, Back.auto⟩
          | true =>
            rw [ha2] at k2
            have est := hnx k hk j2 (by rw [ha1, ha2]; rfl)
            have hb3 : ∀ ρ : Nat → Nat, SubQ ρ (.cells (ofL [.int .i64 ((wk (i + 1) : Nat) : Int)] 0) true none) (.cells (ofL [.int .i64 (k : Int)] 0) true none) := fun ρ => by rw [est]; exact SubQ.ofL rfl (by intro v hv; (repeat (rcases List.mem_cons.1 hv with rfl | hv; exact rfl)); exact absurd hv (List.not_mem_nil)) (.inr rfl)
            (conv => whnf); (repeat' (first | ((with_reducible refine ifb_mk (fun hc => ?_) (fun hc => ?_)) <;> ((try simp only [decide_eq_true_eq, decide_eq_false_iff_not, Bool.not_eq_true', Bool.not_eq_false', Int.not_lt, Int.not_le, ne_eq, Decidable.not_not, beq_iff_eq, List.cons.injEq, and_true] at hc); (first | (exfalso; omega) | exact absurd True.intro hc | conv => whnf))) | ((with_reducible refine And.intro True.intro ?_); conv => whnf) | ((with_reducible refine grd_and ?_); refine And.intro (hk) ?_; conv => whnf) | ((with_reducible refine And.intro ?hh ?_); (case hh => exact condA); conv => whnf) | fail))
            refine YldX.all ?_
            refine YldW.inline rfl rfl rfl (WpR.of_vc ?_)
            conv => whnf
            refine ⟨rfl, _, rfl, rfl, WpR.of_vc ?_⟩
            (conv => whnf); (repeat' (first | ((with_reducible refine ifb_mk (fun hc => ?_) (fun hc => ?_)) <;> ((try simp only [decide_eq_true_eq, decide_eq_false_iff_not, Bool.not_eq_true', Bool.not_eq_false', Int.not_lt, Int.not_le, ne_eq, Decidable.not_not, beq_iff_eq, List.cons.injEq, and_true] at hc); (first | (exfalso; omega) | exact absurd True.intro hc | conv => whnf))) | ((with_reducible refine And.intro True.intro ?_); conv => whnf) | ((with_reducible refine WpR.draw (id := 4) mixed [0, 2, 3, 8, 1, 4, 5, 6, 7, 9, 10] [0, 1, 0, 4, 15, 31, 63, 63, 0, 383, 1023] ?hh ?_); (case hh => kernel_rfl); conv => whnf) | ((with_reducible refine WpR.draw (id := 5) mixed [0, 1, 2, 3, 4, 5, 6] [0, 0, 1, 5, 15, 31, 63] ?hh ?_); (case hh => kernel_rfl); conv => whnf) | ((with_reducible refine WpR.draw (id := 6) mixed [0, 1, 2, 3, 4, 5] [0, 0, 1, 5, 15, 31] ?hh ?_); (case hh => kernel_rfl); conv => whnf) | ((with_reducible refine WpR.draw (id := 10) mixed [0, 1, 2, 3, 4, 5, 6, 7, 8, 9, 10, 11, 12, 13, 14, 15, 16, 17] [0, 0, 1, 5, 15, 31, 0, 127, 255, 511, 511, 1023, 3071, 8191, 16383, 511, 65535, 131071] ?hh ?_); (case hh => kernel_rfl); conv => whnf) | ((with_reducible refine grd_ex ?_); refine ex_ok (k1 _) ?_; conv => whnf) | ((with_reducible refine grd_ex ?_); refine ex_ok (k2 _) ?_; conv => whnf) | ((with_reducible refine grd_get ?_); refine som_mk (a := ?_) ?hh ?_; (case hh => exact hgk _ (by show 2 + Int.toNat (k : Int) * 1 = 2 + k; omega)); conv => whnf) | ((with_reducible refine grd_get ?_); refine som_mk (a := ?_) ?hh ?_; (case hh => exact hgw _ (by show 12 + Int.toNat (wk i : Int) * 1 = 12 + wk i; omega)); conv => whnf) | ((with_reducible refine And.intro ?hh ?_); (case hh => exact condA); conv => whnf) | fail))
            refine ⟨_, _, rfl, ?_⟩
            (conv => whnf); (repeat' (first | ((with_reducible refine ifb_mk (fun hc => ?_) (fun hc => ?_)) <;> ((try simp only [decide_eq_true_eq, decide_eq_false_iff_not, Bool.not_eq_true', Bool.not_eq_false', Int.not_lt, Int.not_le, ne_eq, Decidable.not_not, beq_iff_eq, List.cons.injEq, and_true] at hc); (first | (exfalso; omega) | exact absurd True.intro hc | conv => whnf))) | ((with_reducible refine And.intro True.intro ?_); conv => whnf) | ((with_reducible refine And.intro ?hh ?_); (case hh => exact condA); conv => whnf) | fail))
            exact ⟨i + 1, [], by omega, by omega, ⟨rfl, rfl, (by (repeat' (first | exact True.intro | rfl | exact gr_ren rfl | exact aV_ren rfl | exact aW_ren rfl rfl | refine And.intro ?_ ?_))), (by (repeat' (first | exact True.intro | rfl | exact gr_ren rfl | exact aV_ren rfl | exact aW_ren rfl rfl | refine And.intro ?_ ?_))), (by (repeat' (first | exact True.intro | rfl | exact gr_ren rfl | exact aV_ren rfl | exact aW_ren rfl rfl | refine And.intro ?_ ?_))), ⟨.inr ⟨_, rfl, hb1 _⟩, .inr ⟨_, rfl, hb2 _⟩, .inr ⟨_, rfl, hb3 _⟩, trivial⟩, rfl, rfl⟩⟩
      · exfalso
        rw [j2 (wk (i + 1)) (by omega)] at hst
        cases hst
    · have eim : i = m := by omega
      subst eim
      rw [hm2] at hgmi
      have kI := fun (h' : As.H) sv hsv => index_x h' i (by omega) (fun k => ((wk k : Nat) : Int)) sv hsv d (by omega) ((wk i : Nat) : Int) (by show ((wk d : Nat) : Int) = _; rw [hd2]) (fun j hj => by show ((wk j : Nat) : Int) ≠ _; have := hd3 j hj; omega)
      (conv => whnf); (repeat' (first | ((with_reducible refine ifb_mk (fun hc => ?_) (fun hc => ?_)) <;> ((try simp only [decide_eq_true_eq, decide_eq_false_iff_not, Bool.not_eq_true', Bool.not_eq_false', Int.not_lt, Int.not_le, ne_eq, Decidable.not_not, beq_iff_eq, List.cons.injEq, and_true] at hc); (first | (exfalso; omega) | exact absurd True.intro hc | conv => whnf))) | ((with_reducible refine And.intro True.intro ?_); conv => whnf) | ((with_reducible refine WpR.draw (id := 4) mixed [0, 2, 3, 8, 1, 4, 5, 6, 7, 9, 10] [0, 1, 0, 4, 15, 31, 63, 63, 0, 383, 1023] ?hh ?_); (case hh => kernel_rfl); conv => whnf) | ((with_reducible refine WpR.draw (id := 5) mixed [0, 1, 2, 3, 4, 5, 6] [0, 0, 1, 5, 15, 31, 63] ?hh ?_); (case hh => kernel_rfl); conv => whnf) | ((with_reducible refine WpR.draw (id := 6) mixed [0, 1, 2, 3, 4, 5] [0, 0, 1, 5, 15, 31] ?hh ?_); (case hh => kernel_rfl); conv => whnf) | ((with_reducible refine WpR.draw (id := 10) mixed [0, 1, 2, 3, 4, 5, 6, 7, 8, 9, 10, 11, 12, 13, 14, 15, 16, 17] [0, 0, 1, 5, 15, 31, 0, 127, 255, 511, 511, 1023, 3071, 8191, 16383, 511, 65535, 131071] ?hh ?_); (case hh => kernel_rfl); conv => whnf) | ((with_reducible refine grd_get ?_); refine som_mk (a := ?_) ?hh ?_; (case hh => exact hgmi _ (by show 22 + Int.toNat (wk i : Int) * 1 = 22 + wk i; omega)); conv => whnf) | ((with_reducible refine CallX.all ?_); refine CallW.of_ok (kI _ _ (SlC.sl rfl (fun q v hv => by rw [Nat.zero_add]; have hlt' := (List.getElem?_eq_some_iff.1 hv).1; rw [arrV_len] at hlt'; rw [arrV_at hlt'] at hv; cases hv; rw [← hrS i q hlt']; exact arrV_get rfl (by omega)))) ?_; conv => whnf) | ((with_reducible refine And.intro ?hh ?_); (case hh => exact condA); conv => whnf) | fail))
      refine som_mk (a := .sl 3 (0 + d * 1) (i - d) (S - d) true) ?hh ?_
      case hh => exact slo_mk rfl (by omega) (by omega) (by omega)
      have kT3 := fun (h' : As.H) (e : 6 = h'.n + 0) sv hsv => by
        have := taken_new h' (i - d) (by omega) (fun k => ((wk (d + k) : Nat) : Int)) sv hsv
        rw [← e] at this
        exact this
      (conv => whnf); (repeat' (first | ((with_reducible refine ifb_mk (fun hc => ?_) (fun hc => ?_)) <;> ((try simp only [decide_eq_true_eq, decide_eq_false_iff_not, Bool.not_eq_true', Bool.not_eq_false', Int.not_lt, Int.not_le, ne_eq, Decidable.not_not, beq_iff_eq, List.cons.injEq, and_true] at hc); (first | (exfalso; omega) | exact absurd True.intro hc | conv => whnf))) | ((with_reducible refine And.intro True.intro ?_); conv => whnf) | ((with_reducible refine CallX.all ?_); refine CallW.of_ok (kT3 _ (by rfl) _ (SlC.sl rfl (fun q v hv => by have hlt' := (List.getElem?_eq_some_iff.1 hv).1; rw [arrV_len] at hlt'; rw [arrV_at hlt'] at hv; cases hv; rw [← hrS i (d + q) (by omega)]; exact arrV_get (by omega) (by omega)))) ?_; conv => whnf) | ((with_reducible refine And.intro ?hh ?_); (case hh => exact condA); conv => whnf) | fail))
      refine ⟨[6], rfl, rfl, rfl, ⟨⟨?bb, ?h1, ?h2, ?h3⟩, ltB_ofLb (arrV_bare fun _ => rfl), rfl, trivial⟩, trivs⟩
      case h1 => conv => lhs; whnf
      case h2 => rfl
      case h3 => exact SubQ.ofL rfl (arrV_bare fun _ => rfl) (.inr rfl)
end Go.Proofs.J

