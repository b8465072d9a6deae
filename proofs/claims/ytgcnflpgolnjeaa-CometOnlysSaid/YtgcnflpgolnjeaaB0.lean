/- What the functions answer that the laws call, one after another (B0). -/
import Derived.Test.YtgcnflpgolnjeaaAs6
import Derived.Test.YtgcnflpgolnjeaaProg
set_option linter.unusedVariables false
set_option linter.unusedSimpArgs false
namespace Go.Proofs.K
open Go.As
set_option maxRecDepth 20000
theorem mixed : Try.prog.follows .mixedOrders = true := by kernel_rfl
def iVs (l : List Int) : List V := l.map (V.int .i64)
theorem iVs_bare {l : List Int} : ∀ v ∈ iVs l, bare0 v = true := fun v h => by obtain ⟨x, _, rfl⟩ := List.mem_map.1 h; rfl
def bVs (l : List Bool) : List V := l.map V.bool
theorem bVs_bare {l : List Bool} : ∀ v ∈ bVs l, bare0 v = true := fun v h => by obtain ⟨x, _, rfl⟩ := List.mem_map.1 h; rfl
theorem iGet {l : List Int} {i : Nat} {x : Int} (h : l[i]? = some x) : (ofL (iVs l) 0).get (0 + (i : Int).toNat * 1) = some (.int .i64 x) := get_ofL0 (by unfold iVs; rw [List.getElem?_map]; simp [h])
theorem SlC.own {h : H} {L : List V} {b n cap : Nat} {ex w : Bool} {g : Option (Nat × Nat)} (hb : h.get b = some (.cells (ofL L 0) w g)) : SlC h L n (.sl b 0 n cap ex) :=
  SlC.sl hb (fun _ _ h => by rw [Nat.zero_add]; exact get_ofL0 h)
theorem drop_at {α : Type} {l : List α} {i : Nat} {x : α} (h : l[i]? = some x) : l.drop i = x :: l.drop (i + 1) := by
  obtain ⟨hi, rfl⟩ := List.getElem?_eq_some_iff.1 h
  exact List.drop_eq_getElem_cons hi
def allF (n : Nat) (p : Nat → Bool) : Bool := (List.range n).all p
theorem allF_t {n : Nat} {p : Nat → Bool} (h : ∀ i, i < n → p i = true) : allF n p = true := List.all_eq_true.2 fun i hi => h i (List.mem_range.1 hi)
theorem allF_f {n i : Nat} {p : Nat → Bool} (h : i < n) (hp : p i = false) : allF n p = false := by
  rw [← Bool.not_eq_true]
  intro hc
  have := List.all_eq_true.1 hc i (List.mem_range.2 h)
  rw [hp] at this; cases this
theorem allF_iff {n : Nat} {p : Nat → Bool} : allF n p = true ↔ ∀ i, i < n → p i = true := ⟨fun h i hi => List.all_eq_true.1 h i (List.mem_range.2 hi), allF_t⟩
theorem below_succ {p : Nat → Bool} {i : Nat} (h : ∀ k, k < i → p k = true) (hi : p i = true) : ∀ k, k < i + 1 → p k = true := by
  intro k hk
  by_cases he : k = i
  · rw [he]; exact hi
  · exact h k (by omega)
theorem below_f {p : Nat → Bool} {i : Nat} (h : ∀ k, k < i → p k = false) (hi : p i = false) : ∀ k, k < i + 1 → p k = false := by
  intro k hk
  by_cases he : k = i
  · rw [he]; exact hi
  · exact h k (by omega)
def anyF (n : Nat) (p : Nat → Bool) : Bool := !allF n fun i => !p i
theorem anyF_t {n i : Nat} {p : Nat → Bool} (h : i < n) (hp : p i = true) : anyF n p = true := by unfold anyF; rw [allF_f h (by rw [hp]; rfl)]; rfl
theorem anyF_f {n : Nat} {p : Nat → Bool} (h : ∀ i, i < n → p i = false) : anyF n p = false := by unfold anyF; rw [allF_t (fun i hi => by rw [h i hi]; rfl)]; rfl
theorem anyF_iff {n : Nat} {p : Nat → Bool} : anyF n p = true ↔ ∃ i, i < n ∧ p i = true := by
  constructor
  · intro h
    apply Classical.byContradiction
    intro hc
    have : anyF n p = false := anyF_f fun i hi => by
      cases hp : p i with
      | false => rfl
      | true => exact (hc ⟨i, hi, hp⟩).elim
    rw [h] at this; cases this
  · rintro ⟨i, hi, hp⟩; exact anyF_t hi hp
def wi (a b : Int) (L : List Int) : Bool := L.all fun x => decide (a ≤ x ∧ x ≤ b)
theorem within_ok (h : H) (a b : Int) (L : List Int) (sv : V) (hl : L.length ≤ 9223372036854775807) (hs : SlC h (iVs L) L.length sv) : CallOk Try.prog 69 [.int .i64 a, .int .i64 b, sv] h (.bool (wi a b L)) h := by
  obtain ⟨vo, svC, hsv, hca, hvw⟩ := hs.view 0
  refine CallOk.run Try.func69 rfl rfl (argsC := [.int .i64 a, .int .i64 b, svC]) (Nat.le_of_ble_eq_true rfl) [vo] (.cons (.bare rfl) (.cons (.bare rfl) (.cons (hca _ rfl) .nil))) (viewMc1 iVs_bare hvw) rfl (WpR.of_vc ?_)
  have hBare := @iVs_bare L
  cases hsv with
  | nil h0 =>
    have e : L = [] := List.eq_nil_of_length_eq_zero h0
    subst e
    (conv => whnf); (repeat' (first | ((with_reducible refine ifb_mk (fun hc => ?_) (fun hc => ?_)) <;> ((try simp only [decide_eq_true_eq, decide_eq_false_iff_not, Bool.not_eq_true', Bool.not_eq_false', Int.not_lt, Int.not_le, ne_eq, Decidable.not_not, beq_iff_eq, List.cons.injEq, and_true] at hc); (first | (exfalso; omega) | exact absurd True.intro hc | conv => whnf))) | ((with_reducible refine And.intro True.intro ?_); conv => whnf) | ((with_reducible refine WpR.loopU 2 ?_); conv => whnf) | ((with_reducible refine And.intro ?hh ?_); (case hh => exact condA); conv => whnf) | fail))
    (refine ⟨[], ?_, rfl, rfl, trivial, trivs⟩; simp only [renV, renL]; (first | done | rfl | (simp; done) | (simp; omega) | grind))
  | @sl cap ex =>
  (conv => whnf); (repeat' (first | ((with_reducible refine ifb_mk (fun hc => ?_) (fun hc => ?_)) <;> ((try simp only [decide_eq_true_eq, decide_eq_false_iff_not, Bool.not_eq_true', Bool.not_eq_false', Int.not_lt, Int.not_le, ne_eq, Decidable.not_not, beq_iff_eq, List.cons.injEq, and_true] at hc); (first | (exfalso; omega) | exact absurd True.intro hc | conv => whnf))) | ((with_reducible refine And.intro True.intro ?_); conv => whnf) | ((with_reducible refine And.intro ?hh ?_); (case hh => exact condA); conv => whnf) | fail))
  refine WpR.loopA (ι := Nat) [] [0, 1, 9, 10] [] [] 1 (fun i => [(11, .int .i64 i)]) (fun _ => []) (fun i => L.length - i) (fun i => i ≤ L.length ∧ wi a b L = wi a b (L.drop i)) ?_ (0) (⟨Nat.zero_le _, rfl⟩) [] Back.auto
  rintro i ⟨h1, hP⟩
  refine WpR.of_vc ?_
  cases hx : L[i]? with
  | some x =>
    have hlt := (List.getElem?_eq_some_iff.1 hx).1
    rw [drop_at hx] at hP
    unfold wi at hP
    rw [List.all_cons] at hP
    have hQ : wi a b L = (decide (a ≤ x ∧ x ≤ b) && wi a b (L.drop (i + 1))) := hP
    (conv => whnf); (repeat' (first | ((with_reducible refine ifb_mk (fun hc => ?_) (fun hc => ?_)) <;> ((try simp only [decide_eq_true_eq, decide_eq_false_iff_not, Bool.not_eq_true', Bool.not_eq_false', Int.not_lt, Int.not_le, ne_eq, Decidable.not_not, beq_iff_eq, List.cons.injEq, and_true] at hc); (first | (exfalso; omega) | exact absurd True.intro hc | conv => whnf))) | ((with_reducible refine And.intro True.intro ?_); conv => whnf) | ((with_reducible refine grd_get ?_); refine som_mk (a := ?_) ?hh ?_; (case hh => exact iGet hx); conv => whnf) | ((with_reducible refine And.intro ?hh ?_); (case hh => exact condA); conv => whnf) | fail))
    · (refine ⟨[], ?_, rfl, rfl, trivial, trivs⟩; simp only [renV, renL]; rw [hQ, decide_eq_false (by omega)]; rfl)
    · (refine ⟨[], ?_, rfl, rfl, trivial, trivs⟩; simp only [renV, renL]; rw [hQ, decide_eq_false (by omega)]; rfl)
    · rw [decide_eq_true (by omega), Bool.true_and] at hQ
      exact ⟨i + 1, [], by omega, ⟨by omega, hQ⟩, Back.auto⟩
  | none =>
    have hlen : L.length ≤ i := by simpa using hx
    (conv => whnf); (repeat' (first | ((with_reducible refine ifb_mk (fun hc => ?_) (fun hc => ?_)) <;> ((try simp only [decide_eq_true_eq, decide_eq_false_iff_not, Bool.not_eq_true', Bool.not_eq_false', Int.not_lt, Int.not_le, ne_eq, Decidable.not_not, beq_iff_eq, List.cons.injEq, and_true] at hc); (first | (exfalso; omega) | exact absurd True.intro hc | conv => whnf))) | ((with_reducible refine And.intro True.intro ?_); conv => whnf) | ((with_reducible refine And.intro ?hh ?_); (case hh => exact condA); conv => whnf) | fail))
    have e : wi a b L = true := by rw [hP, List.drop_eq_nil_of_le hlen]; rfl
    (refine ⟨[], ?_, rfl, rfl, trivial, trivs⟩; simp only [renV, renL]; rw [e])
theorem within64_ok (h : H) (a b : Int) (L : List Int) (sv : V) (hl : L.length ≤ 9223372036854775807) (hs : SlC h (iVs L) L.length sv) : CallOk Try.prog 65 [.int .i64 a, .int .i64 b, sv] h (.bool (wi a b L)) h := by
  obtain ⟨vo, svC, hsv, hca, hvw⟩ := hs.view 0
  refine CallOk.run Try.func65 rfl rfl (argsC := [.int .i64 a, .int .i64 b, svC]) (Nat.le_of_ble_eq_true rfl) [vo] (.cons (.bare rfl) (.cons (.bare rfl) (.cons (hca _ rfl) .nil))) (viewMc1 iVs_bare hvw) rfl (WpR.of_vc ?_)
  have hBare := @iVs_bare L
  cases hsv with
  | nil h0 =>
    have e : L = [] := List.eq_nil_of_length_eq_zero h0
    subst e
    (conv => whnf); (repeat' (first | ((with_reducible refine ifb_mk (fun hc => ?_) (fun hc => ?_)) <;> ((try simp only [decide_eq_true_eq, decide_eq_false_iff_not, Bool.not_eq_true', Bool.not_eq_false', Int.not_lt, Int.not_le, ne_eq, Decidable.not_not, beq_iff_eq, List.cons.injEq, and_true] at hc); (first | (exfalso; omega) | exact absurd True.intro hc | conv => whnf))) | ((with_reducible refine And.intro True.intro ?_); conv => whnf) | ((with_reducible refine WpR.loopU 2 ?_); conv => whnf) | ((with_reducible refine And.intro ?hh ?_); (case hh => exact condA); conv => whnf) | fail))
    (refine ⟨[], ?_, rfl, rfl, trivial, trivs⟩; simp only [renV, renL]; (first | done | rfl | (simp; done) | (simp; omega) | grind))
  | @sl cap ex =>
  (conv => whnf); (repeat' (first | ((with_reducible refine ifb_mk (fun hc => ?_) (fun hc => ?_)) <;> ((try simp only [decide_eq_true_eq, decide_eq_false_iff_not, Bool.not_eq_true', Bool.not_eq_false', Int.not_lt, Int.not_le, ne_eq, Decidable.not_not, beq_iff_eq, List.cons.injEq, and_true] at hc); (first | (exfalso; omega) | exact absurd True.intro hc | conv => whnf))) | ((with_reducible refine And.intro True.intro ?_); conv => whnf) | ((with_reducible refine And.intro ?hh ?_); (case hh => exact condA); conv => whnf) | fail))
  refine WpR.loopA (ι := Nat) [] [0, 1, 9, 10] [] [] 1 (fun i => [(11, .int .i64 i)]) (fun _ => []) (fun i => L.length - i) (fun i => i ≤ L.length ∧ wi a b L = wi a b (L.drop i)) ?_ (0) (⟨Nat.zero_le _, rfl⟩) [] Back.auto
  rintro i ⟨h1, hP⟩
  refine WpR.of_vc ?_
  cases hx : L[i]? with
  | some x =>
    have hlt := (List.getElem?_eq_some_iff.1 hx).1
    rw [drop_at hx] at hP
    unfold wi at hP
    rw [List.all_cons] at hP
    have hQ : wi a b L = (decide (a ≤ x ∧ x ≤ b) && wi a b (L.drop (i + 1))) := hP
    (conv => whnf); (repeat' (first | ((with_reducible refine ifb_mk (fun hc => ?_) (fun hc => ?_)) <;> ((try simp only [decide_eq_true_eq, decide_eq_false_iff_not, Bool.not_eq_true', Bool.not_eq_false', Int.not_lt, Int.not_le, ne_eq, Decidable.not_not, beq_iff_eq, List.cons.injEq, and_true] at hc); (first | (exfalso; omega) | exact absurd True.intro hc | conv => whnf))) | ((with_reducible refine And.intro True.intro ?_); conv => whnf) | ((with_reducible refine grd_get ?_); refine som_mk (a := ?_) ?hh ?_; (case hh => exact iGet hx); conv => whnf) | ((with_reducible refine And.intro ?hh ?_); (case hh => exact condA); conv => whnf) | fail))
    · (refine ⟨[], ?_, rfl, rfl, trivial, trivs⟩; simp only [renV, renL]; rw [hQ, decide_eq_false (by omega)]; rfl)
    · (refine ⟨[], ?_, rfl, rfl, trivial, trivs⟩; simp only [renV, renL]; rw [hQ, decide_eq_false (by omega)]; rfl)
    · rw [decide_eq_true (by omega), Bool.true_and] at hQ
      exact ⟨i + 1, [], by omega, ⟨by omega, hQ⟩, Back.auto⟩
  | none =>
    have hlen : L.length ≤ i := by simpa using hx
    (conv => whnf); (repeat' (first | ((with_reducible refine ifb_mk (fun hc => ?_) (fun hc => ?_)) <;> ((try simp only [decide_eq_true_eq, decide_eq_false_iff_not, Bool.not_eq_true', Bool.not_eq_false', Int.not_lt, Int.not_le, ne_eq, Decidable.not_not, beq_iff_eq, List.cons.injEq, and_true] at hc); (first | (exfalso; omega) | exact absurd True.intro hc | conv => whnf))) | ((with_reducible refine And.intro True.intro ?_); conv => whnf) | ((with_reducible refine And.intro ?hh ?_); (case hh => exact condA); conv => whnf) | fail))
    have e : wi a b L = true := by rw [hP, List.drop_eq_nil_of_le hlen]; rfl
    (refine ⟨[], ?_, rfl, rfl, trivial, trivs⟩; simp only [renV, renL]; rw [e])
theorem within1_ok (h : H) (a b x : Int) (sv : V) (hs : SlC h (iVs [x]) 1 sv) : CallOk Try.prog 69 [.int .i64 a, .int .i64 b, sv] h (.bool (decide (a ≤ x ∧ x ≤ b))) h := by
  have := within_ok h a b [x] sv (by simp) hs
  unfold wi at this
  simpa using this
theorem within641_ok (h : H) (a b x : Int) (sv : V) (hs : SlC h (iVs [x]) 1 sv) : CallOk Try.prog 65 [.int .i64 a, .int .i64 b, sv] h (.bool (decide (a ≤ x ∧ x ≤ b))) h := by
  have := within64_ok h a b [x] sv (by simp) hs
  unfold wi at this
  simpa using this
def iG (s : Nat → Int) : Nat → List V := fun i => [.int .i64 (s i)]
def wiR (a b : Int) (n : Nat) (s : Nat → Int) : Bool := allF n fun i => decide (a ≤ s i ∧ s i ≤ b)
theorem within64R_ok (h : H) (a b : Int) (n : Nat) (s : Nat → Int) (ex : Bool) (hn : n ≤ 9223372036854775807) : CallOk Try.prog 65 [.int .i64 a, .int .i64 b, .rsl ex 1 n (iG s)] h (.bool (wiR a b n s)) h := by
  refine CallOk.run0 Try.func65 rfl rfl rfl rfl rfl (WpR.of_vc ?_)
  (conv => whnf); (repeat' (first | ((with_reducible refine ifb_mk (fun hc => ?_) (fun hc => ?_)) <;> ((try simp only [decide_eq_true_eq, decide_eq_false_iff_not, Bool.not_eq_true', Bool.not_eq_false', Int.not_lt, Int.not_le, ne_eq, Decidable.not_not, beq_iff_eq, List.cons.injEq, and_true] at hc); (first | (exfalso; omega) | exact absurd True.intro hc | conv => whnf))) | ((with_reducible refine And.intro True.intro ?_); conv => whnf) | ((with_reducible refine And.intro ?hh ?_); (case hh => exact condA); conv => whnf) | fail))
  refine WpR.loopA (ι := Nat) [] [0, 1, 9, 10] [] [] 0 (fun i => [(11, .int .i64 i)]) (fun _ => []) (fun i => n - i) (fun i => i ≤ n ∧ ∀ j, j < i → decide (a ≤ s j ∧ s j ≤ b) = true) ?_ (0) (⟨Nat.zero_le _, fun j hj => by omega⟩) [] Back.auto
  rintro i ⟨h1, hP⟩
  refine WpR.of_vc ?_
  by_cases hi : i < n
  · cases ht : decide (a ≤ s i ∧ s i ≤ b) with
    | true =>
      have ht' : a ≤ s i ∧ s i ≤ b := of_decide_eq_true ht
      (conv => whnf); (repeat' (first | ((with_reducible refine ifb_mk (fun hc => ?_) (fun hc => ?_)) <;> ((try simp only [decide_eq_true_eq, decide_eq_false_iff_not, Bool.not_eq_true', Bool.not_eq_false', Int.not_lt, Int.not_le, ne_eq, Decidable.not_not, beq_iff_eq, List.cons.injEq, and_true] at hc); (first | (exfalso; omega) | exact absurd True.intro hc | conv => whnf))) | ((with_reducible refine And.intro True.intro ?_); conv => whnf) | ((with_reducible refine grd_and ?_); refine And.intro (hi) ?_; conv => whnf) | ((with_reducible refine And.intro ?hh ?_); (case hh => exact condA); conv => whnf) | fail))
      all_goals first | (exfalso; omega) | exact ⟨i + 1, [], by omega, ⟨by omega, below_succ hP ht⟩, Back.auto⟩
    | false =>
      have ht' : ¬ (a ≤ s i ∧ s i ≤ b) := of_decide_eq_false ht
      have e : wiR a b n s = false := allF_f (p := fun i => decide (a ≤ s i ∧ s i ≤ b)) hi ht
      rw [e]
      (conv => whnf); (repeat' (first | ((with_reducible refine ifb_mk (fun hc => ?_) (fun hc => ?_)) <;> ((try simp only [decide_eq_true_eq, decide_eq_false_iff_not, Bool.not_eq_true', Bool.not_eq_false', Int.not_lt, Int.not_le, ne_eq, Decidable.not_not, beq_iff_eq, List.cons.injEq, and_true] at hc); (first | (exfalso; omega) | exact absurd True.intro hc | conv => whnf))) | ((with_reducible refine And.intro True.intro ?_); conv => whnf) | ((with_reducible refine grd_and ?_); refine And.intro (hi) ?_; conv => whnf) | ((with_reducible refine And.intro ?hh ?_); (case hh => exact condA); conv => whnf) | fail))
      all_goals first | (refine ⟨[], ?_, rfl, rfl, trivial, trivs⟩; simp only [renV, renL]; (first | done | rfl | (simp; done) | (simp; omega) | grind)) | (exfalso; omega)
  · (conv => whnf); (repeat' (first | ((with_reducible refine ifb_mk (fun hc => ?_) (fun hc => ?_)) <;> ((try simp only [decide_eq_true_eq, decide_eq_false_iff_not, Bool.not_eq_true', Bool.not_eq_false', Int.not_lt, Int.not_le, ne_eq, Decidable.not_not, beq_iff_eq, List.cons.injEq, and_true] at hc); (first | (exfalso; omega) | exact absurd True.intro hc | conv => whnf))) | ((with_reducible refine And.intro True.intro ?_); conv => whnf) | ((with_reducible refine And.intro ?hh ?_); (case hh => exact condA); conv => whnf) | fail))
    have e : wiR a b n s = true := allF_t fun j hj => hP j (by omega)
    rw [e]
    (refine ⟨[], ?_, rfl, rfl, trivial, trivs⟩; simp only [renV, renL]; (first | done | rfl | (simp; done) | (simp; omega) | grind))
end Go.Proofs.K
namespace Go.Proofs.K
open Go.As
set_option maxRecDepth 20000
def lkG (a b : Nat → Int) (i : Nat) : List V := [.int .i64 (a i), .int .i64 (b i)]
def lgV (D : Int) (ex : Bool) (n : Nat) (a b : Nat → Int) : V := .agg [.int .i64 D, .rsl ex 2 n (lkG a b)]
def okS (a b : Nat → Int) (i : Nat) : Bool := decide ((0 ≤ a i ∧ a i ≤ 60) ∧ (-100000 ≤ b i ∧ b i ≤ 100000))
def okD (a : Nat → Int) (i : Nat) : Bool := decide (0 < i → a (i - 1) < a i)
def ckL (D : Int) (n : Nat) (a b : Nat → Int) : Int := if 0 ≤ D ∧ D ≤ 3 then (if n ≤ 12 then (if allF n (okS a b) = true then (if allF n (okD a) = true then 0 else 16) else 3) else 6) else 2
theorem ckL_ok {D : Int} {n : Nat} {a b : Nat → Int} (h : ckL D n a b = 0) : (0 ≤ D ∧ D ≤ 3) ∧ n ≤ 12 ∧ (∀ i, i < n → (0 ≤ a i ∧ a i ≤ 60) ∧ (-100000 ≤ b i ∧ b i ≤ 100000)) ∧ ∀ i, i + 1 < n → a i < a (i + 1) := by
  unfold ckL at h
  (repeat' split at h) <;> first | (cases h; done) | skip
  rename_i h1 h2 h3 h4
  refine ⟨h1, h2, fun i hi => of_decide_eq_true (allF_iff.1 h3 i hi), fun i hi => ?_⟩
  have := of_decide_eq_true (allF_iff.1 h4 (i + 1) hi)
  exact this (by omega)
set_option maxHeartbeats 4000000 in
theorem checkLog_ok (h : As.H) (D : Int) (ex : Bool) (n : Nat) (a b : Nat → Int) (hn : n ≤ 9223372036854775807) : CallOk Try.prog 27 [lgV D ex n a b] h (.int .i64 (ckL D n a b)) h := by
  have k1 := fun h' sv hs => within1_ok h' 0 3 D sv hs
  have k2 := fun i h' sv hs => within641_ok h' 0 60 (a i) sv hs
  have k3 := fun i h' sv hs => within641_ok h' (-100000) 100000 (b i) sv hs
  have ho : ∀ i, okS a b i = decide ((0 ≤ a i ∧ a i ≤ 60) ∧ (-100000 ≤ b i ∧ b i ≤ 100000)) := fun i => rfl
  have hd : ∀ i, okD a i = decide (0 < i → a (i - 1) < a i) := fun i => rfl
  unfold ckL
  generalize okS a b = ok at *
  generalize okD a = od at *
  by_cases h1 : 0 ≤ D ∧ D ≤ 3
  rotate_left
  · rw [if_neg h1]
    rw [decide_eq_false h1] at k1
    refine CallOk.run0 Try.func27 rfl rfl rfl rfl rfl (WpR.of_vc ?_)
    (conv => whnf); (repeat' (first | ((with_reducible refine ifb_mk (fun hc => ?_) (fun hc => ?_)) <;> ((try simp only [decide_eq_true_eq, decide_eq_false_iff_not, Bool.not_eq_true', Bool.not_eq_false', Int.not_lt, Int.not_le, ne_eq, Decidable.not_not, beq_iff_eq, List.cons.injEq, and_true] at hc); (first | (exfalso; omega) | exact absurd True.intro hc | conv => whnf))) | ((with_reducible refine And.intro True.intro ?_); conv => whnf) | ((with_reducible refine CallX.all ?_); refine CallW.of_ok (k1 _ _ (SlC.own rfl)) ?_; conv => whnf) | ((with_reducible refine And.intro ?hh ?_); (case hh => exact condA); conv => whnf) | fail))
    all_goals first | (refine ⟨[], ?_, rfl, rfl, trivial, trivs⟩; simp only [renV, renL]; (first | done | rfl | (simp; done) | (simp; omega) | grind)) | (exfalso; omega)
  rw [if_pos h1]
  rw [decide_eq_true h1] at k1
  by_cases h2 : n ≤ 12
  rotate_left
  · rw [if_neg h2]
    refine CallOk.run0 Try.func27 rfl rfl rfl rfl rfl (WpR.of_vc ?_)
    (conv => whnf); (repeat' (first | ((with_reducible refine ifb_mk (fun hc => ?_) (fun hc => ?_)) <;> ((try simp only [decide_eq_true_eq, decide_eq_false_iff_not, Bool.not_eq_true', Bool.not_eq_false', Int.not_lt, Int.not_le, ne_eq, Decidable.not_not, beq_iff_eq, List.cons.injEq, and_true] at hc); (first | (exfalso; omega) | exact absurd True.intro hc | conv => whnf))) | ((with_reducible refine And.intro True.intro ?_); conv => whnf) | ((with_reducible refine CallX.all ?_); refine CallW.of_ok (k1 _ _ (SlC.own rfl)) ?_; conv => whnf) | ((with_reducible refine And.intro ?hh ?_); (case hh => exact condA); conv => whnf) | fail))
    all_goals first | (refine ⟨[], ?_, rfl, rfl, trivial, trivs⟩; simp only [renV, renL]; (first | done | rfl | (simp; done) | (simp; omega) | grind)) | (exfalso; omega)
  rw [if_pos h2]
  have hf := @allF_f n
  have ht := @allF_t n
  generalize hz : allF n ok = z at *
  generalize hy : allF n od = y at *
  refine CallOk.run0 Try.func27 rfl rfl rfl rfl rfl (WpR.of_vc ?_)
  (conv => whnf); (repeat' (first | ((with_reducible refine ifb_mk (fun hc => ?_) (fun hc => ?_)) <;> ((try simp only [decide_eq_true_eq, decide_eq_false_iff_not, Bool.not_eq_true', Bool.not_eq_false', Int.not_lt, Int.not_le, ne_eq, Decidable.not_not, beq_iff_eq, List.cons.injEq, and_true] at hc); (first | (exfalso; omega) | exact absurd True.intro hc | conv => whnf))) | ((with_reducible refine And.intro True.intro ?_); conv => whnf) | ((with_reducible refine CallX.all ?_); refine CallW.of_ok (k1 _ _ (SlC.own rfl)) ?_; conv => whnf) | ((with_reducible refine And.intro ?hh ?_); (case hh => exact condA); conv => whnf) | fail))
  all_goals first | (exfalso; omega) | skip
  refine WpR.loopA (ι := Nat) [] [1, 17, 18] [] [] 2 (fun i => [(19, .int .i64 i)]) (fun _ => []) (fun i => n - i) (fun i => i ≤ n ∧ ∀ k, k < i → ok k = true) ?_ (0) (⟨by omega, fun k hk => absurd hk (Nat.not_lt_zero _)⟩) [] Back.auto
  rintro i ⟨j1, j2⟩
  refine WpR.of_vc ?_
  by_cases hi : i < n
  · have k2 := k2 i
    have k3 := k3 i
    have ho := ho i
    by_cases hw : 0 ≤ a i ∧ a i ≤ 60
    · rw [decide_eq_true hw] at k2
      by_cases hw2 : -100000 ≤ b i ∧ b i ≤ 100000
      · rw [decide_eq_true hw2] at k3
        have hok : ok i = true := by rw [ho]; exact decide_eq_true ⟨hw, hw2⟩
        (conv => whnf); (repeat' (first | ((with_reducible refine ifb_mk (fun hc => ?_) (fun hc => ?_)) <;> ((try simp only [decide_eq_true_eq, decide_eq_false_iff_not, Bool.not_eq_true', Bool.not_eq_false', Int.not_lt, Int.not_le, ne_eq, Decidable.not_not, beq_iff_eq, List.cons.injEq, and_true] at hc); (first | (exfalso; omega) | exact absurd True.intro hc | conv => whnf))) | ((with_reducible refine And.intro True.intro ?_); conv => whnf) | ((with_reducible refine grd_and ?_); refine And.intro (hi) ?_; conv => whnf) | ((with_reducible refine grd_ex ?_); refine ex_ok (k2 _ _ (SlC.own rfl)) ?_; conv => whnf) | ((with_reducible refine CallX.all ?_); refine CallW.of_ok (k2 _ _ (SlC.own rfl)) ?_; conv => whnf) | ((with_reducible refine grd_ex ?_); refine ex_ok (k3 _ _ (SlC.own rfl)) ?_; conv => whnf) | ((with_reducible refine CallX.all ?_); refine CallW.of_ok (k3 _ _ (SlC.own rfl)) ?_; conv => whnf) | ((with_reducible refine WpR.draw (id := 14) mixed [0, 1, 2, 3, 4, 5, 6, 7, 8, 9, 10, 11, 12, 13] [0, 1, 3, 7, 15, 7, 39, 7, 135, 487, 999, 2023, 4095, 8191] ?hh ?_); (case hh => kernel_rfl); conv => whnf) | ((with_reducible refine And.intro ?hh ?_); (case hh => exact condA); conv => whnf) | fail))
        all_goals first | (exfalso; omega) | exact ⟨i + 1, [], by omega, ⟨by omega, below_succ j2 hok⟩, Back.auto⟩
      · rw [decide_eq_false hw2] at k3
        have ez : z = false := by rw [← hz]; exact hf hi (by rw [ho]; exact decide_eq_false (fun hc => hw2 hc.2))
        subst ez
        (conv => whnf); (repeat' (first | ((with_reducible refine ifb_mk (fun hc => ?_) (fun hc => ?_)) <;> ((try simp only [decide_eq_true_eq, decide_eq_false_iff_not, Bool.not_eq_true', Bool.not_eq_false', Int.not_lt, Int.not_le, ne_eq, Decidable.not_not, beq_iff_eq, List.cons.injEq, and_true] at hc); (first | (exfalso; omega) | exact absurd True.intro hc | conv => whnf))) | ((with_reducible refine And.intro True.intro ?_); conv => whnf) | ((with_reducible refine grd_and ?_); refine And.intro (hi) ?_; conv => whnf) | ((with_reducible refine grd_ex ?_); refine ex_ok (k2 _ _ (SlC.own rfl)) ?_; conv => whnf) | ((with_reducible refine CallX.all ?_); refine CallW.of_ok (k2 _ _ (SlC.own rfl)) ?_; conv => whnf) | ((with_reducible refine grd_ex ?_); refine ex_ok (k3 _ _ (SlC.own rfl)) ?_; conv => whnf) | ((with_reducible refine CallX.all ?_); refine CallW.of_ok (k3 _ _ (SlC.own rfl)) ?_; conv => whnf) | ((with_reducible refine WpR.draw (id := 14) mixed [0, 1, 2, 3, 4, 5, 6, 7, 8, 9, 10, 11, 12, 13] [0, 1, 3, 7, 15, 7, 39, 7, 135, 487, 999, 2023, 4095, 8191] ?hh ?_); (case hh => kernel_rfl); conv => whnf) | ((with_reducible refine And.intro ?hh ?_); (case hh => exact condA); conv => whnf) | fail))
        all_goals first | (refine ⟨[], ?_, rfl, rfl, trivial, trivs⟩; simp only [renV, renL]; (first | done | rfl | (simp; done) | (simp; omega) | grind)) | (exfalso; omega)
    · rw [decide_eq_false hw] at k2
      have ez : z = false := by rw [← hz]; exact hf hi (by rw [ho]; exact decide_eq_false (fun hc => hw hc.1))
      subst ez
      (conv => whnf); (repeat' (first | ((with_reducible refine ifb_mk (fun hc => ?_) (fun hc => ?_)) <;> ((try simp only [decide_eq_true_eq, decide_eq_false_iff_not, Bool.not_eq_true', Bool.not_eq_false', Int.not_lt, Int.not_le, ne_eq, Decidable.not_not, beq_iff_eq, List.cons.injEq, and_true] at hc); (first | (exfalso; omega) | exact absurd True.intro hc | conv => whnf))) | ((with_reducible refine And.intro True.intro ?_); conv => whnf) | ((with_reducible refine grd_and ?_); refine And.intro (hi) ?_; conv => whnf) | ((with_reducible refine grd_ex ?_); refine ex_ok (k2 _ _ (SlC.own rfl)) ?_; conv => whnf) | ((with_reducible refine CallX.all ?_); refine CallW.of_ok (k2 _ _ (SlC.own rfl)) ?_; conv => whnf) | ((with_reducible refine grd_ex ?_); refine ex_ok (k3 _ _ (SlC.own rfl)) ?_; conv => whnf) | ((with_reducible refine CallX.all ?_); refine CallW.of_ok (k3 _ _ (SlC.own rfl)) ?_; conv => whnf) | ((with_reducible refine WpR.draw (id := 14) mixed [0, 1, 2, 3, 4, 5, 6, 7, 8, 9, 10, 11, 12, 13] [0, 1, 3, 7, 15, 7, 39, 7, 135, 487, 999, 2023, 4095, 8191] ?hh ?_); (case hh => kernel_rfl); conv => whnf) | ((with_reducible refine And.intro ?hh ?_); (case hh => exact condA); conv => whnf) | fail))
      all_goals first | (refine ⟨[], ?_, rfl, rfl, trivial, trivs⟩; simp only [renV, renL]; (first | done | rfl | (simp; done) | (simp; omega) | grind)) | (exfalso; omega)
  · have ez : z = true := by rw [← hz]; exact ht fun k hk => j2 k (by omega)
    subst ez
    clear j2
    (conv => whnf); (repeat' (first | ((with_reducible refine ifb_mk (fun hc => ?_) (fun hc => ?_)) <;> ((try simp only [decide_eq_true_eq, decide_eq_false_iff_not, Bool.not_eq_true', Bool.not_eq_false', Int.not_lt, Int.not_le, ne_eq, Decidable.not_not, beq_iff_eq, List.cons.injEq, and_true] at hc); (first | (exfalso; omega) | exact absurd True.intro hc | conv => whnf))) | ((with_reducible refine And.intro True.intro ?_); conv => whnf) | ((with_reducible refine grd_and ?_); refine And.intro (hi) ?_; conv => whnf) | ((with_reducible refine And.intro ?hh ?_); (case hh => exact condA); conv => whnf) | fail))
    all_goals first | (exfalso; omega) | skip
    refine WpR.loopA (ι := Nat) [] [1, 37, 38] [] [] 2 (fun i => [(39, .int .i64 i)]) (fun _ => []) (fun i => n - i) (fun i => i ≤ n ∧ ∀ k, k < i → od k = true) ?_ (0) (⟨by omega, fun k hk => absurd hk (Nat.not_lt_zero _)⟩) [] Back.auto
    rintro i ⟨j1, j2⟩
    refine WpR.of_vc ?_
    by_cases hi : i < n
    · have hd := hd i
      by_cases h0 : 0 < i
      · by_cases hw : a (i - 1) < a i
        · have hok : od i = true := by rw [hd]; exact decide_eq_true fun _ => hw
          have hi1 : i - 1 < n := by omega
          have e1 : ((i : Int) - 1) = ((i - 1 : Nat) : Int) := by omega
          (conv => whnf); (repeat' (first | ((with_reducible refine ifb_mk (fun hc => ?_) (fun hc => ?_)) <;> ((try simp only [decide_eq_true_eq, decide_eq_false_iff_not, Bool.not_eq_true', Bool.not_eq_false', Int.not_lt, Int.not_le, ne_eq, Decidable.not_not, beq_iff_eq, List.cons.injEq, and_true] at hc); (first | (exfalso; omega) | exact absurd True.intro hc | conv => whnf))) | ((with_reducible refine And.intro True.intro ?_); conv => whnf) | ((with_reducible refine grd_and ?_); refine And.intro (hi) ?_; conv => whnf) | ((with_reducible refine grd_and ?_); refine And.intro (hi1) ?_; conv => whnf) | (((with_reducible refine idxP_mk (k := i - 1) ?hh ?_); (case hh => exact e1)); conv => whnf) | ((with_reducible refine WpR.draw (id := 14) mixed [0, 1, 2, 3, 4, 5, 6, 7, 8, 9, 10, 11, 12, 13] [0, 1, 3, 7, 15, 7, 39, 7, 135, 487, 999, 2023, 4095, 8191] ?hh ?_); (case hh => kernel_rfl); conv => whnf) | ((with_reducible refine And.intro ?hh ?_); (case hh => exact condA); conv => whnf) | fail))
          all_goals first | (exfalso; omega) | exact ⟨i + 1, [], by omega, ⟨by omega, below_succ j2 hok⟩, Back.auto⟩
        · have ey : y = false := by rw [← hy]; exact hf hi (by rw [hd]; exact decide_eq_false (fun hc => hw (hc h0)))
          subst ey
          have hi1 : i - 1 < n := by omega
          have e1 : ((i : Int) - 1) = ((i - 1 : Nat) : Int) := by omega
          (conv => whnf); (repeat' (first | ((with_reducible refine ifb_mk (fun hc => ?_) (fun hc => ?_)) <;> ((try simp only [decide_eq_true_eq, decide_eq_false_iff_not, Bool.not_eq_true', Bool.not_eq_false', Int.not_lt, Int.not_le, ne_eq, Decidable.not_not, beq_iff_eq, List.cons.injEq, and_true] at hc); (first | (exfalso; omega) | exact absurd True.intro hc | conv => whnf))) | ((with_reducible refine And.intro True.intro ?_); conv => whnf) | ((with_reducible refine grd_and ?_); refine And.intro (hi) ?_; conv => whnf) | ((with_reducible refine grd_and ?_); refine And.intro (hi1) ?_; conv => whnf) | (((with_reducible refine idxP_mk (k := i - 1) ?hh ?_); (case hh => exact e1)); conv => whnf) | ((with_reducible refine WpR.draw (id := 14) mixed [0, 1, 2, 3, 4, 5, 6, 7, 8, 9, 10, 11, 12, 13] [0, 1, 3, 7, 15, 7, 39, 7, 135, 487, 999, 2023, 4095, 8191] ?hh ?_); (case hh => kernel_rfl); conv => whnf) | ((with_reducible refine And.intro ?hh ?_); (case hh => exact condA); conv => whnf) | fail))
          all_goals first | (refine ⟨[], ?_, rfl, rfl, trivial, trivs⟩; simp only [renV, renL]; (first | done | rfl | (simp; done) | (simp; omega) | grind)) | (exfalso; omega)
      · have hok : od i = true := by rw [hd]; exact decide_eq_true fun hc => absurd hc h0
        (conv => whnf); (repeat' (first | ((with_reducible refine ifb_mk (fun hc => ?_) (fun hc => ?_)) <;> ((try simp only [decide_eq_true_eq, decide_eq_false_iff_not, Bool.not_eq_true', Bool.not_eq_false', Int.not_lt, Int.not_le, ne_eq, Decidable.not_not, beq_iff_eq, List.cons.injEq, and_true] at hc); (first | (exfalso; omega) | exact absurd True.intro hc | conv => whnf))) | ((with_reducible refine And.intro True.intro ?_); conv => whnf) | ((with_reducible refine grd_and ?_); refine And.intro (hi) ?_; conv => whnf) | ((with_reducible refine WpR.draw (id := 14) mixed [0, 1, 2, 3, 4, 5, 6, 7, 8, 9, 10, 11, 12, 13] [0, 1, 3, 7, 15, 7, 39, 7, 135, 487, 999, 2023, 4095, 8191] ?hh ?_); (case hh => kernel_rfl); conv => whnf) | ((with_reducible refine And.intro ?hh ?_); (case hh => exact condA); conv => whnf) | fail))
        all_goals first | (exfalso; omega) | exact ⟨i + 1, [], by omega, ⟨by omega, below_succ j2 hok⟩, Back.auto⟩
    · have ey : y = true := by rw [← hy]; exact ht fun k hk => j2 k (by omega)
      subst ey
      (conv => whnf); (repeat' (first | ((with_reducible refine ifb_mk (fun hc => ?_) (fun hc => ?_)) <;> ((try simp only [decide_eq_true_eq, decide_eq_false_iff_not, Bool.not_eq_true', Bool.not_eq_false', Int.not_lt, Int.not_le, ne_eq, Decidable.not_not, beq_iff_eq, List.cons.injEq, and_true] at hc); (first | (exfalso; omega) | exact absurd True.intro hc | conv => whnf))) | ((with_reducible refine And.intro True.intro ?_); conv => whnf) | ((with_reducible refine grd_and ?_); refine And.intro (hi) ?_; conv => whnf) | ((with_reducible refine And.intro ?hh ?_); (case hh => exact condA); conv => whnf) | fail))
      all_goals first | (refine ⟨[], ?_, rfl, rfl, trivial, trivs⟩; simp only [renV, renL]; (first | done | rfl | (simp; done) | (simp; omega) | grind)) | (exfalso; omega)
end Go.Proofs.K
namespace Go.Proofs.K
open Go.As
set_option maxRecDepth 20000
set_option maxHeartbeats 4000000 in
theorem checkLogR_ok (h : As.H) (D : Int) (ex : Bool) (n : Nat) (a b : Nat → Int) (hn : n ≤ 9223372036854775807) : CallOk Try.prog 28 [lgV D ex n a b] h (.int .i64 (ckL D n a b)) h := by
  have ho : ∀ i, okS a b i = decide ((0 ≤ a i ∧ a i ≤ 60) ∧ (-100000 ≤ b i ∧ b i ≤ 100000)) := fun i => rfl
  have hd : ∀ i, okD a i = decide (0 < i → a (i - 1) < a i) := fun i => rfl
  unfold ckL
  generalize okS a b = ok at *
  generalize okD a = od at *
  by_cases h1 : 0 ≤ D ∧ D ≤ 3
  rotate_left
  · rw [if_neg h1]
    refine CallOk.run0 Try.func28 rfl rfl rfl rfl rfl (WpR.of_vc ?_)
    (conv => whnf); (repeat' (first | ((with_reducible refine ifb_mk (fun hc => ?_) (fun hc => ?_)) <;> ((try simp only [decide_eq_true_eq, decide_eq_false_iff_not, Bool.not_eq_true', Bool.not_eq_false', Int.not_lt, Int.not_le, ne_eq, Decidable.not_not, beq_iff_eq, List.cons.injEq, and_true] at hc); (first | (exfalso; omega) | exact absurd True.intro hc | conv => whnf))) | ((with_reducible refine And.intro True.intro ?_); conv => whnf) | ((with_reducible refine And.intro ?hh ?_); (case hh => exact condA); conv => whnf) | fail))
    all_goals first | (refine ⟨[], ?_, rfl, rfl, trivial, trivs⟩; simp only [renV, renL]; (first | done | rfl | (simp; done) | (simp; omega) | grind)) | (exfalso; omega)
  rw [if_pos h1]
  by_cases h2 : n ≤ 12
  rotate_left
  · rw [if_neg h2]
    refine CallOk.run0 Try.func28 rfl rfl rfl rfl rfl (WpR.of_vc ?_)
    (conv => whnf); (repeat' (first | ((with_reducible refine ifb_mk (fun hc => ?_) (fun hc => ?_)) <;> ((try simp only [decide_eq_true_eq, decide_eq_false_iff_not, Bool.not_eq_true', Bool.not_eq_false', Int.not_lt, Int.not_le, ne_eq, Decidable.not_not, beq_iff_eq, List.cons.injEq, and_true] at hc); (first | (exfalso; omega) | exact absurd True.intro hc | conv => whnf))) | ((with_reducible refine And.intro True.intro ?_); conv => whnf) | ((with_reducible refine And.intro ?hh ?_); (case hh => exact condA); conv => whnf) | fail))
    all_goals first | (refine ⟨[], ?_, rfl, rfl, trivial, trivs⟩; simp only [renV, renL]; (first | done | rfl | (simp; done) | (simp; omega) | grind)) | (exfalso; omega)
  rw [if_pos h2]
  have hf := @allF_f n
  have ht := @allF_t n
  generalize hz : allF n ok = z at *
  generalize hy : allF n od = y at *
  refine CallOk.run0 Try.func28 rfl rfl rfl rfl rfl (WpR.of_vc ?_)
  (conv => whnf); (repeat' (first | ((with_reducible refine ifb_mk (fun hc => ?_) (fun hc => ?_)) <;> ((try simp only [decide_eq_true_eq, decide_eq_false_iff_not, Bool.not_eq_true', Bool.not_eq_false', Int.not_lt, Int.not_le, ne_eq, Decidable.not_not, beq_iff_eq, List.cons.injEq, and_true] at hc); (first | (exfalso; omega) | exact absurd True.intro hc | conv => whnf))) | ((with_reducible refine And.intro True.intro ?_); conv => whnf) | ((with_reducible refine And.intro ?hh ?_); (case hh => exact condA); conv => whnf) | fail))
  all_goals first | (exfalso; omega) | skip
  refine WpR.loopA (ι := Nat) [] [1] [] [] 1 (fun i => [(3, .int .i64 i)]) (fun _ => []) (fun i => n - i) (fun i => i ≤ n ∧ ∀ k, k < i → ok k = true) ?_ (0) (⟨by omega, fun k hk => absurd hk (Nat.not_lt_zero _)⟩) [] Back.auto
  rintro i ⟨j1, j2⟩
  refine WpR.of_vc ?_
  by_cases hi : i < n
  · have ho := ho i
    by_cases hw : (0 ≤ a i ∧ a i ≤ 60) ∧ -100000 ≤ b i ∧ b i ≤ 100000
    · have hok : ok i = true := by rw [ho]; exact decide_eq_true hw
      (conv => whnf); (repeat' (first | ((with_reducible refine ifb_mk (fun hc => ?_) (fun hc => ?_)) <;> ((try simp only [decide_eq_true_eq, decide_eq_false_iff_not, Bool.not_eq_true', Bool.not_eq_false', Int.not_lt, Int.not_le, ne_eq, Decidable.not_not, beq_iff_eq, List.cons.injEq, and_true] at hc); (first | (exfalso; omega) | exact absurd True.intro hc | conv => whnf))) | ((with_reducible refine And.intro True.intro ?_); conv => whnf) | ((with_reducible refine grd_and ?_); refine And.intro (hi) ?_; conv => whnf) | ((with_reducible refine WpR.draw (id := 14) mixed [0, 1, 2, 3, 4, 5, 6, 7, 8, 9, 10, 11, 12, 13] [0, 1, 0, 7, 15, 31, 0, 64, 0, 256, 960, 1984, 4032, 8191] ?hh ?_); (case hh => kernel_rfl); conv => whnf) | ((with_reducible refine And.intro ?hh ?_); (case hh => exact condA); conv => whnf) | fail))
      all_goals first | (exfalso; omega) | exact ⟨i + 1, [], by omega, ⟨by omega, below_succ j2 hok⟩, Back.auto⟩
    · have ez : z = false := by rw [← hz]; exact hf hi (by rw [ho]; exact decide_eq_false hw)
      subst ez
      (conv => whnf); (repeat' (first | ((with_reducible refine ifb_mk (fun hc => ?_) (fun hc => ?_)) <;> ((try simp only [decide_eq_true_eq, decide_eq_false_iff_not, Bool.not_eq_true', Bool.not_eq_false', Int.not_lt, Int.not_le, ne_eq, Decidable.not_not, beq_iff_eq, List.cons.injEq, and_true] at hc); (first | (exfalso; omega) | exact absurd True.intro hc | conv => whnf))) | ((with_reducible refine And.intro True.intro ?_); conv => whnf) | ((with_reducible refine grd_and ?_); refine And.intro (hi) ?_; conv => whnf) | ((with_reducible refine WpR.draw (id := 14) mixed [0, 1, 2, 3, 4, 5, 6, 7, 8, 9, 10, 11, 12, 13] [0, 1, 0, 7, 15, 31, 0, 64, 0, 256, 960, 1984, 4032, 8191] ?hh ?_); (case hh => kernel_rfl); conv => whnf) | ((with_reducible refine And.intro ?hh ?_); (case hh => exact condA); conv => whnf) | fail))
      all_goals first | (refine ⟨[], ?_, rfl, rfl, trivial, trivs⟩; simp only [renV, renL]; (first | done | rfl | (simp; done) | (simp; omega) | grind)) | (exfalso; omega)
  · have ez : z = true := by rw [← hz]; exact ht fun k hk => j2 k (by omega)
    subst ez
    clear j2
    have h0 : ∀ k, k < 1 → od k = true := fun k hk => by rw [hd]; exact decide_eq_true fun hc => by omega
    (conv => whnf); (repeat' (first | ((with_reducible refine ifb_mk (fun hc => ?_) (fun hc => ?_)) <;> ((try simp only [decide_eq_true_eq, decide_eq_false_iff_not, Bool.not_eq_true', Bool.not_eq_false', Int.not_lt, Int.not_le, ne_eq, Decidable.not_not, beq_iff_eq, List.cons.injEq, and_true] at hc); (first | (exfalso; omega) | exact absurd True.intro hc | conv => whnf))) | ((with_reducible refine And.intro True.intro ?_); conv => whnf) | ((with_reducible refine grd_and ?_); refine And.intro (hi) ?_; conv => whnf) | ((with_reducible refine And.intro ?hh ?_); (case hh => exact condA); conv => whnf) | fail))
    all_goals first | (exfalso; omega) | skip
    refine WpR.loopA (ι := Nat) [] [1] [] [] 1 (fun i => [(5, .int .i64 i)]) (fun _ => []) (fun i => n - i) (fun i => (1 ≤ i ∧ i ≤ n + 1) ∧ ∀ k, k < i → od k = true) ?_ (1) (⟨by omega, h0⟩) [] Back.auto
    rintro i ⟨j1, j2⟩
    refine WpR.of_vc ?_
    by_cases hi : i < n
    · have hd := hd i
      by_cases hw : a (i - 1) < a i
      · have hok : od i = true := by rw [hd]; exact decide_eq_true fun _ => hw
        have hi1 : i - 1 < n := by omega
        have e1 : ((i : Int) - 1) = ((i - 1 : Nat) : Int) := by omega
        (conv => whnf); (repeat' (first | ((with_reducible refine ifb_mk (fun hc => ?_) (fun hc => ?_)) <;> ((try simp only [decide_eq_true_eq, decide_eq_false_iff_not, Bool.not_eq_true', Bool.not_eq_false', Int.not_lt, Int.not_le, ne_eq, Decidable.not_not, beq_iff_eq, List.cons.injEq, and_true] at hc); (first | (exfalso; omega) | exact absurd True.intro hc | conv => whnf))) | ((with_reducible refine And.intro True.intro ?_); conv => whnf) | ((with_reducible refine grd_and ?_); refine And.intro (hi) ?_; conv => whnf) | ((with_reducible refine grd_and ?_); refine And.intro (hi1) ?_; conv => whnf) | (((with_reducible refine idxP_mk (k := i - 1) ?hh ?_); (case hh => exact e1)); conv => whnf) | ((with_reducible refine WpR.draw (id := 14) mixed [0, 1, 2, 3, 4, 5, 6, 7, 8, 9, 10, 11, 12, 13] [0, 1, 0, 7, 15, 31, 0, 64, 0, 256, 960, 1984, 4032, 8191] ?hh ?_); (case hh => kernel_rfl); conv => whnf) | ((with_reducible refine And.intro ?hh ?_); (case hh => exact condA); conv => whnf) | fail))
        all_goals first | (exfalso; omega) | exact ⟨i + 1, [], by omega, ⟨by omega, below_succ j2 hok⟩, Back.auto⟩
      · have ey : y = false := by rw [← hy]; exact hf hi (by rw [hd]; exact decide_eq_false (fun hc => hw (hc (by omega))))
        subst ey
        have hi1 : i - 1 < n := by omega
        have e1 : ((i : Int) - 1) = ((i - 1 : Nat) : Int) := by omega
        (conv => whnf); (repeat' (first | ((with_reducible refine ifb_mk (fun hc => ?_) (fun hc => ?_)) <;> ((try simp only [decide_eq_true_eq, decide_eq_false_iff_not, Bool.not_eq_true', Bool.not_eq_false', Int.not_lt, Int.not_le, ne_eq, Decidable.not_not, beq_iff_eq, List.cons.injEq, and_true] at hc); (first | (exfalso; omega) | exact absurd True.intro hc | conv => whnf))) | ((with_reducible refine And.intro True.intro ?_); conv => whnf) | ((with_reducible refine grd_and ?_); refine And.intro (hi) ?_; conv => whnf) | ((with_reducible refine grd_and ?_); refine And.intro (hi1) ?_; conv => whnf) | (((with_reducible refine idxP_mk (k := i - 1) ?hh ?_); (case hh => exact e1)); conv => whnf) | ((with_reducible refine WpR.draw (id := 14) mixed [0, 1, 2, 3, 4, 5, 6, 7, 8, 9, 10, 11, 12, 13] [0, 1, 0, 7, 15, 31, 0, 64, 0, 256, 960, 1984, 4032, 8191] ?hh ?_); (case hh => kernel_rfl); conv => whnf) | ((with_reducible refine And.intro ?hh ?_); (case hh => exact condA); conv => whnf) | fail))
        all_goals first | (refine ⟨[], ?_, rfl, rfl, trivial, trivs⟩; simp only [renV, renL]; (first | done | rfl | (simp; done) | (simp; omega) | grind)) | (exfalso; omega)
    · have ey : y = true := by rw [← hy]; exact ht fun k hk => j2 k (by omega)
      subst ey
      (conv => whnf); (repeat' (first | ((with_reducible refine ifb_mk (fun hc => ?_) (fun hc => ?_)) <;> ((try simp only [decide_eq_true_eq, decide_eq_false_iff_not, Bool.not_eq_true', Bool.not_eq_false', Int.not_lt, Int.not_le, ne_eq, Decidable.not_not, beq_iff_eq, List.cons.injEq, and_true] at hc); (first | (exfalso; omega) | exact absurd True.intro hc | conv => whnf))) | ((with_reducible refine And.intro True.intro ?_); conv => whnf) | ((with_reducible refine grd_and ?_); refine And.intro (hi) ?_; conv => whnf) | ((with_reducible refine And.intro ?hh ?_); (case hh => exact condA); conv => whnf) | fail))
      all_goals first | (refine ⟨[], ?_, rfl, rfl, trivial, trivs⟩; simp only [renV, renL]; (first | done | rfl | (simp; done) | (simp; omega) | grind)) | (exfalso; omega)
end Go.Proofs.K
namespace Go.Proofs.K
open Go.As
set_option maxRecDepth 20000
def wy (d : Nat) : Nat → Nat
  | 0 => 1
  | 1 => d
  | 2 => d * (d - 1) / 2
  | _ => d * (d - 1) * (d - 2) / 6
def wyB (d : Nat) : Bool := (List.range 3).all fun k => decide (((wy d k : Int) * ((d : Int) - (k : Int))).tdiv ((k : Int) + 1) = wy d (k + 1)) && @decide (InR ((wy d k : Int) * ((d : Int) - (k : Int)))) (by unfold InR; exact inferInstance) && decide (wy (d + 1) (k + 1) = wy d (k + 1) + wy d k)
theorem wy_all : (List.range 100).all wyB = true := by decide +kernel
theorem wy_le : (List.range 100).all (fun d => (List.range 4).all fun k => decide (wy d k ≤ 160000)) = true := by decide +kernel
theorem wy_at {d k : Nat} (hd : d < 100) (hk : k < 3) : ((wy d k : Int) * ((d : Int) - (k : Int))).tdiv ((k : Int) + 1) = wy d (k + 1) ∧ InR ((wy d k : Int) * ((d : Int) - (k : Int))) ∧ wy (d + 1) (k + 1) = wy d (k + 1) + wy d k := by
  have h := List.all_eq_true.1 (List.all_eq_true.1 wy_all d (List.mem_range.2 hd)) k (List.mem_range.2 hk)
  simp only [Bool.and_eq_true, decide_eq_true_eq] at h
  exact ⟨h.1.1, h.1.2, h.2⟩
theorem wy_lt {d k : Nat} (hd : d < 100) (hk : k < 4) : wy d k ≤ 160000 := by
  have h := List.all_eq_true.1 (List.all_eq_true.1 wy_le d (List.mem_range.2 hd)) k (List.mem_range.2 hk)
  exact of_decide_eq_true h
def plc (p : Nat → Int) (d : Nat) : Nat → Int
  | 0 => 0
  | n + 1 => plc p d n + p n * wy d n
def Sm (B : Int) (n : Nat) (p : Nat → Int) : Prop := ∀ k, k < n → -B ≤ p k ∧ p k ≤ B
theorem mul_bd {x B : Int} {w W : Nat} (h : -B ≤ x ∧ x ≤ B) (hw : w ≤ W) : -(B * W) ≤ x * w ∧ x * w ≤ B * W := by
  have hB : 0 ≤ B := by omega
  have h0 : (0 : Int) ≤ w := by omega
  have hw2 : (w : Int) ≤ W := by omega
  have h1 : B * w ≤ B * W := Int.mul_le_mul_of_nonneg_left hw2 hB
  have h2 : x * w ≤ B * w := Int.mul_le_mul_of_nonneg_right h.2 h0
  have h3 : -B * w ≤ x * w := Int.mul_le_mul_of_nonneg_right h.1 h0
  rw [Int.neg_mul] at h3
  omega
theorem plc_bd {p : Nat → Int} {d n : Nat} (hd : d < 100) (hn : n ≤ 4) {B : Int} (hp : Sm B n p) : ∀ k, k ≤ n → -(B * 160000 * k) ≤ plc p d k ∧ plc p d k ≤ B * 160000 * k
  | 0, _ => by simp [plc]
  | k + 1, hk => by
    have ih := plc_bd hd hn hp k (by omega)
    have h1 := mul_bd (hp k (by omega)) (wy_lt (k := k) hd (by omega))
    have e : B * 160000 * ((k + 1 : Nat) : Int) = B * 160000 * k + B * 160000 := by rw [Int.natCast_add, Int.mul_add]; simp
    rw [e]
    have e2 : B * ((160000 : Nat) : Int) = B * 160000 := rfl
    rw [e2] at h1
    have e3 : plc p d (k + 1) = plc p d k + p k * wy d k := rfl
    rw [e3]
    omega
end Go.Proofs.K
namespace Go.Proofs.K
open Go.As
set_option maxRecDepth 20000
def crV (p : Nat → Int) : V := .agg [.int .i64 (p 0), .int .i64 (p 1), .int .i64 (p 2), .int .i64 (p 3)]
set_option maxHeartbeats 4000000 in
theorem place_ok (h : As.H) (p : Nat → Int) (d : Nat) (hd : d < 100) (hp : Sm 8796093022208 4 p) : CallOk Try.prog 56 [crV p, .int .i64 d] h (.int .i64 (plc p d 4)) h := by
  have hw := fun k (hk : k < 3) => wy_at hd hk
  have hb := fun k (hk : k < 3) => mul_bd (hp (k + 1) (by omega)) (wy_lt (k := k + 1) hd (by omega))
  have hq := fun k (hk : k ≤ 4) => plc_bd hd (Nat.le_refl _) hp k hk
  have hl := fun k (hk : k < 4) => wy_lt (k := k) hd hk
  have e1 : plc p d 1 = p 0 := by simp [plc, wy]
  have es : ∀ k, plc p d (k + 1) = plc p d k + p k * wy d k := fun k => rfl
  have hw0 : wy d 0 = 1 := rfl
  have hget : ∀ k o, k < 3 → o = k → part? Try.prog 2 [V.int .i64 (p 1), .int .i64 (p 2), .int .i64 (p 3)] o = some (.int .i64 (p (k + 1))) := fun k o hk ho => by
    subst ho
    match o, hk with
    | 0, _ => rfl
    | 1, _ => rfl
    | 2, _ => rfl
  have hp0 := hp 0 (by omega)
  generalize plc p d = P at *
  generalize wy d = w at *
  refine CallOk.run0 Try.func56 rfl rfl rfl rfl rfl (WpR.of_vc ?_)
  (conv => whnf); (repeat' (first | ((with_reducible refine ifb_mk (fun hc => ?_) (fun hc => ?_)) <;> ((try simp only [decide_eq_true_eq, decide_eq_false_iff_not, Bool.not_eq_true', Bool.not_eq_false', Int.not_lt, Int.not_le, ne_eq, Decidable.not_not, beq_iff_eq, List.cons.injEq, and_true] at hc); (first | (exfalso; omega) | exact absurd True.intro hc | conv => whnf))) | ((with_reducible refine And.intro True.intro ?_); conv => whnf) | ((with_reducible refine And.intro ?hh ?_); (case hh => exact condA); conv => whnf) | fail))
  refine WpR.loopA (ι := Nat × Int × Int) [] [1, 12] [] [] 1 (fun q => [(13, .int .i64 q.1), (5, .int .i64 q.2.1), (6, .int .i64 q.2.2)]) (fun _ => []) (fun q => 3 - q.1) (fun q => q.1 ≤ 3 ∧ q.2.1 = P (q.1 + 1) ∧ q.2.2 = w q.1) ?_ ((0, p 0, 1)) (⟨Nat.zero_le _, e1.symm, by rw [hw0]; rfl⟩) [] Back.auto
  rintro ⟨k, at', ws⟩ ⟨j1, j2, j3⟩
  dsimp only at j1 j2 j3
  refine WpR.of_vc ?_
  by_cases hk : k < 3
  · obtain ⟨a1, a2, _⟩ := hw k hk
    obtain ⟨b1, b2⟩ := hb k hk
    have c1 := hq (k + 1) (by omega)
    have c2 := es (k + 1)
    have hg := hget k
    have hl1 := hl (k + 1) (by omega)
    rw [← j3] at a1 a2
    have y2 : InR ((ws * ((d : Int) - k)).tdiv (k + 1)) := by rw [a1]; unfold InR; omega
    have y3 : InR (p (k + 1) * (ws * ((d : Int) - k)).tdiv (k + 1)) := by rw [a1]; unfold InR; omega
    have y4 : InR (at' + p (k + 1) * (ws * ((d : Int) - k)).tdiv (k + 1)) := by rw [a1, j2]; unfold InR; omega
    have y0 : (k : Int) + 1 ≠ 0 := by omega
    (conv => whnf); (repeat' (first | ((with_reducible refine ifb_mk (fun hc => ?_) (fun hc => ?_)) <;> ((try simp only [decide_eq_true_eq, decide_eq_false_iff_not, Bool.not_eq_true', Bool.not_eq_false', Int.not_lt, Int.not_le, ne_eq, Decidable.not_not, beq_iff_eq, List.cons.injEq, and_true] at hc); (first | (exfalso; omega) | exact absurd True.intro hc | conv => whnf))) | ((with_reducible refine And.intro True.intro ?_); conv => whnf) | ((with_reducible refine grd_part ?_); refine som_mk (a := ?_) ?hh ?_; (case hh => exact hg _ hk (by show (k : Int).toNat * 1 = k; omega)); conv => whnf) | ((with_reducible refine grd_and ?_); refine And.intro (a2) ?_; conv => whnf) | ((with_reducible refine grd_and ?_); refine And.intro (y0) ?_; conv => whnf) | ((with_reducible refine grd_and ?_); refine And.intro (y2) ?_; conv => whnf) | ((with_reducible refine grd_and ?_); refine And.intro (y3) ?_; conv => whnf) | ((with_reducible refine grd_and ?_); refine And.intro (y4) ?_; conv => whnf) | ((with_reducible refine And.intro ?hh ?_); (case hh => exact condA); conv => whnf) | fail))
    all_goals first | (exfalso; omega) | exact ⟨(k + 1, at' + p (k + 1) * (ws * ((d : Int) - k)).tdiv (k + 1), (ws * ((d : Int) - k)).tdiv (k + 1)), [], by dsimp only; omega, ⟨by dsimp only; omega, by dsimp only; rw [a1, j2]; exact c2.symm, by dsimp only; exact a1⟩, Back.auto⟩
  · have e : k = 3 := by omega
    subst e
    (conv => whnf); (repeat' (first | ((with_reducible refine ifb_mk (fun hc => ?_) (fun hc => ?_)) <;> ((try simp only [decide_eq_true_eq, decide_eq_false_iff_not, Bool.not_eq_true', Bool.not_eq_false', Int.not_lt, Int.not_le, ne_eq, Decidable.not_not, beq_iff_eq, List.cons.injEq, and_true] at hc); (first | (exfalso; omega) | exact absurd True.intro hc | conv => whnf))) | ((with_reducible refine And.intro True.intro ?_); conv => whnf) | ((with_reducible refine And.intro ?hh ?_); (case hh => exact condA); conv => whnf) | fail))
    all_goals (refine ⟨[], ?_, rfl, rfl, trivial, trivs⟩; simp only [renV, renL]; rw [j2])
end Go.Proofs.K
namespace Go.Proofs.K
open Go.As
set_option maxRecDepth 20000
def cut (m : Nat) (a : Nat → Int) (k : Nat) : Int := if k < m then a k else 0
theorem courseOfR_ok (h : As.H) (ex : Bool) (m : Nat) (a : Nat → Int) (hm : 1 ≤ m ∧ m ≤ 4) : CallOk Try.prog 67 [.rsl ex 1 m (iG a)] h (crV (cut m a)) h := by
  obtain ⟨h1, h2⟩ := hm
  match m, h1, h2 with
  | 1, _, _ =>
    refine CallOk.run0 Try.func67 rfl rfl rfl rfl rfl (WpR.of_vc ?_)
    (conv => whnf); (repeat' (first | ((with_reducible refine ifb_mk (fun hc => ?_) (fun hc => ?_)) <;> ((try simp only [decide_eq_true_eq, decide_eq_false_iff_not, Bool.not_eq_true', Bool.not_eq_false', Int.not_lt, Int.not_le, ne_eq, Decidable.not_not, beq_iff_eq, List.cons.injEq, and_true] at hc); (first | (exfalso; omega) | exact absurd True.intro hc | conv => whnf))) | ((with_reducible refine And.intro True.intro ?_); conv => whnf) | ((with_reducible refine WpR.draw (id := 2) mixed [0, 1, 2, 3, 4] [0, 1, 0, 4, 15] ?hh ?_); (case hh => kernel_rfl); conv => whnf) | ((with_reducible refine And.intro ?hh ?_); (case hh => exact condA); conv => whnf) | fail))
    all_goals first | (refine ⟨[], ?_, rfl, rfl, trivial, trivs⟩; simp only [renV, renL]; (first | done | rfl | (simp; done) | (simp; omega) | grind)) | (exfalso; omega)
  | 2, _, _ =>
    refine CallOk.run0 Try.func67 rfl rfl rfl rfl rfl (WpR.of_vc ?_)
    (conv => whnf); (repeat' (first | ((with_reducible refine ifb_mk (fun hc => ?_) (fun hc => ?_)) <;> ((try simp only [decide_eq_true_eq, decide_eq_false_iff_not, Bool.not_eq_true', Bool.not_eq_false', Int.not_lt, Int.not_le, ne_eq, Decidable.not_not, beq_iff_eq, List.cons.injEq, and_true] at hc); (first | (exfalso; omega) | exact absurd True.intro hc | conv => whnf))) | ((with_reducible refine And.intro True.intro ?_); conv => whnf) | ((with_reducible refine WpR.draw (id := 2) mixed [0, 1, 2, 3, 4] [0, 1, 0, 4, 15] ?hh ?_); (case hh => kernel_rfl); conv => whnf) | ((with_reducible refine And.intro ?hh ?_); (case hh => exact condA); conv => whnf) | fail))
    all_goals first | (refine ⟨[], ?_, rfl, rfl, trivial, trivs⟩; simp only [renV, renL]; (first | done | rfl | (simp; done) | (simp; omega) | grind)) | (exfalso; omega)
  | 3, _, _ =>
    refine CallOk.run0 Try.func67 rfl rfl rfl rfl rfl (WpR.of_vc ?_)
    (conv => whnf); (repeat' (first | ((with_reducible refine ifb_mk (fun hc => ?_) (fun hc => ?_)) <;> ((try simp only [decide_eq_true_eq, decide_eq_false_iff_not, Bool.not_eq_true', Bool.not_eq_false', Int.not_lt, Int.not_le, ne_eq, Decidable.not_not, beq_iff_eq, List.cons.injEq, and_true] at hc); (first | (exfalso; omega) | exact absurd True.intro hc | conv => whnf))) | ((with_reducible refine And.intro True.intro ?_); conv => whnf) | ((with_reducible refine WpR.draw (id := 2) mixed [0, 1, 2, 3, 4] [0, 1, 0, 4, 15] ?hh ?_); (case hh => kernel_rfl); conv => whnf) | ((with_reducible refine And.intro ?hh ?_); (case hh => exact condA); conv => whnf) | fail))
    all_goals first | (refine ⟨[], ?_, rfl, rfl, trivial, trivs⟩; simp only [renV, renL]; (first | done | rfl | (simp; done) | (simp; omega) | grind)) | (exfalso; omega)
  | 4, _, _ =>
    refine CallOk.run0 Try.func67 rfl rfl rfl rfl rfl (WpR.of_vc ?_)
    (conv => whnf); (repeat' (first | ((with_reducible refine ifb_mk (fun hc => ?_) (fun hc => ?_)) <;> ((try simp only [decide_eq_true_eq, decide_eq_false_iff_not, Bool.not_eq_true', Bool.not_eq_false', Int.not_lt, Int.not_le, ne_eq, Decidable.not_not, beq_iff_eq, List.cons.injEq, and_true] at hc); (first | (exfalso; omega) | exact absurd True.intro hc | conv => whnf))) | ((with_reducible refine And.intro True.intro ?_); conv => whnf) | ((with_reducible refine WpR.draw (id := 2) mixed [0, 1, 2, 3, 4] [0, 1, 0, 4, 15] ?hh ?_); (case hh => kernel_rfl); conv => whnf) | ((with_reducible refine And.intro ?hh ?_); (case hh => exact condA); conv => whnf) | fail))
    all_goals first | (refine ⟨[], ?_, rfl, rfl, trivial, trivs⟩; simp only [renV, renL]; (first | done | rfl | (simp; done) | (simp; omega) | grind)) | (exfalso; omega)
theorem differences_ok (h : As.H) (p : Nat → Int) : CallOk Try.prog 79 [crV p] h (crV fun k => cut 3 (fun k => p (k + 1)) k) h := by
  refine CallOk.run0 Try.func79 rfl rfl rfl rfl rfl (WpR.of_vc ?_)
  (conv => whnf); (repeat' (first | ((with_reducible refine ifb_mk (fun hc => ?_) (fun hc => ?_)) <;> ((try simp only [decide_eq_true_eq, decide_eq_false_iff_not, Bool.not_eq_true', Bool.not_eq_false', Int.not_lt, Int.not_le, ne_eq, Decidable.not_not, beq_iff_eq, List.cons.injEq, and_true] at hc); (first | (exfalso; omega) | exact absurd True.intro hc | conv => whnf))) | ((with_reducible refine And.intro True.intro ?_); conv => whnf) | ((with_reducible refine CallX.all (f := 67) ?_); refine CallW.inline Try.func67 rfl rfl (Nat.le_of_ble_eq_true rfl) (WpR.of_vc ?_); conv => whnf) | ((with_reducible refine WpR.draw (id := 2) mixed [0, 1, 2, 3, 4] [0, 1, 0, 4, 15] ?hh ?_); (case hh => kernel_rfl); conv => whnf) | ((with_reducible refine And.intro ?hh ?_); (case hh => exact condA); conv => whnf) | fail))
  all_goals first | (refine ⟨[], ?_, rfl, rfl, trivial, trivs⟩; simp only [renV, renL]; (first | done | rfl | (simp; done) | (simp; omega) | grind)) | (exfalso; omega)
def ckP (m : Nat) (a : Nat → Int) : Int := if 1 ≤ m ∧ m ≤ 4 then (if wiR (-1099511627776) 1099511627776 m a = true then 0 else 3) else 6
def ckC (m : Nat) (a : Nat → Int) (d : Int) : Int := if ckP m a = 0 then (if 0 ≤ d ∧ d ≤ 60 then 0 else 2) else ckP m a
theorem ckP_ok {m : Nat} {a : Nat → Int} (h : ckP m a = 0) : (1 ≤ m ∧ m ≤ 4) ∧ wiR (-1099511627776) 1099511627776 m a = true := by
  unfold ckP at h
  (repeat' split at h) <;> first | (cases h; done) | skip
  rename_i h1 h2
  exact ⟨h1, h2⟩
theorem courseFor_ok (h : As.H) (ex : Bool) (m : Nat) (a : Nat → Int) (d : Int) (hm : m ≤ 9223372036854775807) : CallOk Try.prog 55 [.rsl ex 1 m (iG a), .int .i64 d] h (.tup [crV (if ckC m a d = 0 then cut m a else fun _ => 0), .int .i64 (ckC m a d)]) h := by
  have k1 := fun h' sv hs => within1_ok h' 1 4 m sv hs
  have k2 := fun h' => within64R_ok h' (-1099511627776) 1099511627776 m a ex hm
  have k3 := fun h' sv hs => within641_ok h' 0 60 d sv hs
  have k4 := fun h' => courseOfR_ok h' ex m a
  unfold ckC ckP
  by_cases h1 : 1 ≤ m ∧ m ≤ 4
  rotate_left
  · rw [if_neg h1]
    rw [decide_eq_false (by omega)] at k1
    refine CallOk.run0 Try.func55 rfl rfl rfl rfl rfl (WpR.of_vc ?_)
    (conv => whnf); (repeat' (first | ((with_reducible refine ifb_mk (fun hc => ?_) (fun hc => ?_)) <;> ((try simp only [decide_eq_true_eq, decide_eq_false_iff_not, Bool.not_eq_true', Bool.not_eq_false', Int.not_lt, Int.not_le, ne_eq, Decidable.not_not, beq_iff_eq, List.cons.injEq, and_true] at hc); (first | (exfalso; omega) | exact absurd True.intro hc | conv => whnf))) | ((with_reducible refine And.intro True.intro ?_); conv => whnf) | ((with_reducible refine CallX.all ?_); refine CallW.of_ok (k1 _ _ (SlC.own rfl)) ?_; conv => whnf) | ((with_reducible refine And.intro ?hh ?_); (case hh => exact condA); conv => whnf) | fail))
    all_goals first | (refine ⟨[], ?_, rfl, rfl, trivial, trivs⟩; simp only [renV, renL]; (first | done | rfl | (simp; done) | (simp; omega) | grind)) | (exfalso; omega)
  rw [if_pos h1]
  rw [decide_eq_true (by omega)] at k1
  cases h2 : wiR (-1099511627776) 1099511627776 m a with
  | false =>
    rw [h2] at k2
    refine CallOk.run0 Try.func55 rfl rfl rfl rfl rfl (WpR.of_vc ?_)
    (conv => whnf); (repeat' (first | ((with_reducible refine ifb_mk (fun hc => ?_) (fun hc => ?_)) <;> ((try simp only [decide_eq_true_eq, decide_eq_false_iff_not, Bool.not_eq_true', Bool.not_eq_false', Int.not_lt, Int.not_le, ne_eq, Decidable.not_not, beq_iff_eq, List.cons.injEq, and_true] at hc); (first | (exfalso; omega) | exact absurd True.intro hc | conv => whnf))) | ((with_reducible refine And.intro True.intro ?_); conv => whnf) | ((with_reducible refine CallX.all ?_); refine CallW.of_ok (k1 _ _ (SlC.own rfl)) ?_; conv => whnf) | ((with_reducible refine CallX.all ?_); refine CallW.of_ok (k2 _) ?_; conv => whnf) | ((with_reducible refine And.intro ?hh ?_); (case hh => exact condA); conv => whnf) | fail))
    all_goals first | (refine ⟨[], ?_, rfl, rfl, trivial, trivs⟩; simp only [renV, renL]; (first | done | rfl | (simp; done) | (simp; omega) | grind)) | (exfalso; omega)
  | true =>
    rw [h2] at k2
    by_cases h3 : 0 ≤ d ∧ d ≤ 60
    · rw [decide_eq_true h3] at k3
      simp only [h3, if_true, and_self]
      have k4 := fun h' => k4 h' h1
      refine CallOk.run0 Try.func55 rfl rfl rfl rfl rfl (WpR.of_vc ?_)
      (conv => whnf); (repeat' (first | ((with_reducible refine ifb_mk (fun hc => ?_) (fun hc => ?_)) <;> ((try simp only [decide_eq_true_eq, decide_eq_false_iff_not, Bool.not_eq_true', Bool.not_eq_false', Int.not_lt, Int.not_le, ne_eq, Decidable.not_not, beq_iff_eq, List.cons.injEq, and_true] at hc); (first | (exfalso; omega) | exact absurd True.intro hc | conv => whnf))) | ((with_reducible refine And.intro True.intro ?_); conv => whnf) | ((with_reducible refine CallX.all ?_); refine CallW.of_ok (k1 _ _ (SlC.own rfl)) ?_; conv => whnf) | ((with_reducible refine CallX.all ?_); refine CallW.of_ok (k2 _) ?_; conv => whnf) | ((with_reducible refine CallX.all ?_); refine CallW.of_ok (k3 _ _ (SlC.own rfl)) ?_; conv => whnf) | ((with_reducible refine CallX.all ?_); refine CallW.of_ok (k4 _) ?_; conv => whnf) | ((with_reducible refine And.intro ?hh ?_); (case hh => exact condA); conv => whnf) | fail))
      all_goals first | (refine ⟨[], ?_, rfl, rfl, trivial, trivs⟩; simp only [renV, renL]; (first | done | rfl | (simp; done) | (simp; omega) | grind)) | (exfalso; omega)
    · rw [decide_eq_false h3] at k3
      simp only [h3, if_true, if_false]
      refine CallOk.run0 Try.func55 rfl rfl rfl rfl rfl (WpR.of_vc ?_)
      (conv => whnf); (repeat' (first | ((with_reducible refine ifb_mk (fun hc => ?_) (fun hc => ?_)) <;> ((try simp only [decide_eq_true_eq, decide_eq_false_iff_not, Bool.not_eq_true', Bool.not_eq_false', Int.not_lt, Int.not_le, ne_eq, Decidable.not_not, beq_iff_eq, List.cons.injEq, and_true] at hc); (first | (exfalso; omega) | exact absurd True.intro hc | conv => whnf))) | ((with_reducible refine And.intro True.intro ?_); conv => whnf) | ((with_reducible refine CallX.all ?_); refine CallW.of_ok (k1 _ _ (SlC.own rfl)) ?_; conv => whnf) | ((with_reducible refine CallX.all ?_); refine CallW.of_ok (k2 _) ?_; conv => whnf) | ((with_reducible refine CallX.all ?_); refine CallW.of_ok (k3 _ _ (SlC.own rfl)) ?_; conv => whnf) | ((with_reducible refine And.intro ?hh ?_); (case hh => exact condA); conv => whnf) | fail))
      all_goals first | (refine ⟨[], ?_, rfl, rfl, trivial, trivs⟩; simp only [renV, renL]; (first | done | rfl | (simp; done) | (simp; omega) | grind)) | (exfalso; omega)
theorem wiR_at {A B : Int} {n : Nat} {s : Nat → Int} (h : wiR A B n s = true) {i : Nat} (hi : i < n) : A ≤ s i ∧ s i ≤ B := of_decide_eq_true (allF_iff.1 h i hi)
theorem cut_sm {m : Nat} {a : Nat → Int} {B : Int} (hB : 0 ≤ B) (h : ∀ i, i < m → -B ≤ a i ∧ a i ≤ B) : Sm B 4 (cut m a) := fun k _ => by
  unfold cut
  by_cases hk : k < m
  · rw [if_pos hk]; exact h k hk
  · rw [if_neg hk]; omega
theorem plc_congr {p q : Nat → Int} {d : Nat} : ∀ n, (∀ k, k < n → p k = q k) → plc p d n = plc q d n
  | 0, _ => rfl
  | n + 1, h => by unfold plc; rw [plc_congr n (fun k hk => h k (by omega)), h n (by omega)]
theorem plc_cut {m : Nat} {a : Nat → Int} {d : Nat} : ∀ n, m ≤ n → plc (cut m a) d n = plc a d m
  | 0, h => by
    have e : m = 0 := by omega
    subst e; rfl
  | n + 1, h => by
    by_cases e : m = n + 1
    · subst e; exact plc_congr _ fun k hk => by unfold cut; rw [if_pos hk]
    · show plc (cut m a) d n + cut m a n * wy d n = _
      rw [plc_cut n (by omega)]
      unfold cut
      rw [if_neg (by omega)]
      omega
def atP (m : Nat) (a : Nat → Int) (d : Int) : Int := if ckC m a d = 0 then plc a d.toNat m else 0
theorem ckC_ok {m : Nat} {a : Nat → Int} {d : Int} (h : ckC m a d = 0) : (1 ≤ m ∧ m ≤ 4) ∧ (0 ≤ d ∧ d ≤ 60) ∧ ∀ i, i < m → -1099511627776 ≤ a i ∧ a i ≤ 1099511627776 := by
  unfold ckC at h
  (repeat' split at h) <;> first | (cases h; done) | skip
  · rename_i h1 h2
    obtain ⟨h3, h4⟩ := ckP_ok h1
    exact ⟨h3, h2, fun i hi => wiR_at h4 hi⟩
  · rename_i h1; exact absurd h h1
theorem at_ok (h : As.H) (ex : Bool) (m : Nat) (a : Nat → Int) (d : Int) (hm : m ≤ 9223372036854775807) : CallOk Try.prog 17 [.rsl ex 1 m (iG a), .int .i64 d] h (.tup [.int .i64 (atP m a d), .int .i64 (ckC m a d)]) h := by
  have k1 := fun h' => courseFor_ok h' ex m a d hm
  unfold atP
  by_cases hc : ckC m a d = 0
  · rw [if_pos hc] at k1 ⊢
    obtain ⟨h1, h2, h3⟩ := ckC_ok hc
    rw [hc] at k1 ⊢
    obtain ⟨d, rfl⟩ : ∃ e : Nat, d = e := ⟨d.toNat, by omega⟩
    have k2 := fun h' => place_ok h' (cut m a) d (by omega) (cut_sm (by decide) fun i hi => by have := h3 i hi; omega)
    rw [plc_cut 4 h1.2] at k2
    rw [show (d : Int).toNat = d from rfl]
    generalize plc a d m = z at *
    generalize cut m a = p at *
    refine CallOk.run0 Try.func17 rfl rfl rfl rfl rfl (WpR.of_vc ?_)
    (conv => whnf); (repeat' (first | ((with_reducible refine ifb_mk (fun hc => ?_) (fun hc => ?_)) <;> ((try simp only [decide_eq_true_eq, decide_eq_false_iff_not, Bool.not_eq_true', Bool.not_eq_false', Int.not_lt, Int.not_le, ne_eq, Decidable.not_not, beq_iff_eq, List.cons.injEq, and_true] at hc); (first | (exfalso; omega) | exact absurd True.intro hc | conv => whnf))) | ((with_reducible refine And.intro True.intro ?_); conv => whnf) | ((with_reducible refine CallX.all ?_); refine CallW.of_ok (k1 _) ?_; conv => whnf) | ((with_reducible refine CallX.all ?_); refine CallW.of_ok (k2 _) ?_; conv => whnf) | ((with_reducible refine And.intro ?hh ?_); (case hh => exact condA); conv => whnf) | fail))
    all_goals first | (refine ⟨[], ?_, rfl, rfl, trivial, trivs⟩; simp only [renV, renL]; (first | done | rfl | (simp; done) | (simp; omega) | grind)) | (exfalso; omega)
  · rw [if_neg hc] at k1 ⊢
    generalize ckC m a d = e at *
    refine CallOk.run0 Try.func17 rfl rfl rfl rfl rfl (WpR.of_vc ?_)
    (conv => whnf); (repeat' (first | ((with_reducible refine ifb_mk (fun hc => ?_) (fun hc => ?_)) <;> ((try simp only [decide_eq_true_eq, decide_eq_false_iff_not, Bool.not_eq_true', Bool.not_eq_false', Int.not_lt, Int.not_le, ne_eq, Decidable.not_not, beq_iff_eq, List.cons.injEq, and_true] at hc); (first | (exfalso; omega) | exact absurd True.intro hc | conv => whnf))) | ((with_reducible refine And.intro True.intro ?_); conv => whnf) | ((with_reducible refine CallX.all ?_); refine CallW.of_ok (k1 _) ?_; conv => whnf) | ((with_reducible refine And.intro ?hh ?_); (case hh => exact condA); conv => whnf) | fail))
    all_goals first | (refine ⟨[], ?_, rfl, rfl, trivial, trivs⟩; simp only [renV, renL]; (first | done | rfl | (simp; done) | (simp; omega) | grind)) | exact absurd (by assumption) hc
end Go.Proofs.K
namespace Go.Proofs.K
open Go.As
set_option maxRecDepth 20000
theorem isNumbers_ok (h : As.H) (n : Nat) (s : Nat → Int) (ex : Bool) (hn : n ≤ 9223372036854775807) : CallOk Try.prog 68 [.rsl ex 1 n (iG s)] h (.bool (wiR (-1099511627776) 1099511627776 n s)) h := by
  refine CallOk.run0 Try.func68 rfl rfl rfl rfl rfl (WpR.of_vc ?_)
  (conv => whnf); (repeat' (first | ((with_reducible refine ifb_mk (fun hc => ?_) (fun hc => ?_)) <;> ((try simp only [decide_eq_true_eq, decide_eq_false_iff_not, Bool.not_eq_true', Bool.not_eq_false', Int.not_lt, Int.not_le, ne_eq, Decidable.not_not, beq_iff_eq, List.cons.injEq, and_true] at hc); (first | (exfalso; omega) | exact absurd True.intro hc | conv => whnf))) | ((with_reducible refine And.intro True.intro ?_); conv => whnf) | ((with_reducible refine And.intro ?hh ?_); (case hh => exact condA); conv => whnf) | fail))
  refine WpR.loopA (ι := Nat) [] [0] [] [] 0 (fun i => [(3, .int .i64 i)]) (fun _ => []) (fun i => n - i) (fun i => i ≤ n ∧ ∀ j, j < i → decide (-1099511627776 ≤ s j ∧ s j ≤ 1099511627776) = true) ?_ (0) (⟨Nat.zero_le _, fun j hj => by omega⟩) [] Back.auto
  rintro i ⟨h1, hP⟩
  refine WpR.of_vc ?_
  by_cases hi : i < n
  · cases ht : decide (-1099511627776 ≤ s i ∧ s i ≤ 1099511627776) with
    | true =>
      have ht' : -1099511627776 ≤ s i ∧ s i ≤ 1099511627776 := of_decide_eq_true ht
      (conv => whnf); (repeat' (first | ((with_reducible refine ifb_mk (fun hc => ?_) (fun hc => ?_)) <;> ((try simp only [decide_eq_true_eq, decide_eq_false_iff_not, Bool.not_eq_true', Bool.not_eq_false', Int.not_lt, Int.not_le, ne_eq, Decidable.not_not, beq_iff_eq, List.cons.injEq, and_true] at hc); (first | (exfalso; omega) | exact absurd True.intro hc | conv => whnf))) | ((with_reducible refine And.intro True.intro ?_); conv => whnf) | ((with_reducible refine grd_and ?_); refine And.intro (hi) ?_; conv => whnf) | ((with_reducible refine And.intro ?hh ?_); (case hh => exact condA); conv => whnf) | fail))
      all_goals first | (exfalso; omega) | exact ⟨i + 1, [], by omega, ⟨by omega, below_succ hP ht⟩, Back.auto⟩
    | false =>
      have ht' : ¬ (-1099511627776 ≤ s i ∧ s i ≤ 1099511627776) := of_decide_eq_false ht
      have e : wiR (-1099511627776) 1099511627776 n s = false := allF_f (p := fun i => decide (-1099511627776 ≤ s i ∧ s i ≤ 1099511627776)) hi ht
      rw [e]
      (conv => whnf); (repeat' (first | ((with_reducible refine ifb_mk (fun hc => ?_) (fun hc => ?_)) <;> ((try simp only [decide_eq_true_eq, decide_eq_false_iff_not, Bool.not_eq_true', Bool.not_eq_false', Int.not_lt, Int.not_le, ne_eq, Decidable.not_not, beq_iff_eq, List.cons.injEq, and_true] at hc); (first | (exfalso; omega) | exact absurd True.intro hc | conv => whnf))) | ((with_reducible refine And.intro True.intro ?_); conv => whnf) | ((with_reducible refine grd_and ?_); refine And.intro (hi) ?_; conv => whnf) | ((with_reducible refine And.intro ?hh ?_); (case hh => exact condA); conv => whnf) | fail))
      all_goals first | (refine ⟨[], ?_, rfl, rfl, trivial, trivs⟩; simp only [renV, renL]; (first | done | rfl | (simp; done) | (simp; omega) | grind)) | (exfalso; omega)
  · (conv => whnf); (repeat' (first | ((with_reducible refine ifb_mk (fun hc => ?_) (fun hc => ?_)) <;> ((try simp only [decide_eq_true_eq, decide_eq_false_iff_not, Bool.not_eq_true', Bool.not_eq_false', Int.not_lt, Int.not_le, ne_eq, Decidable.not_not, beq_iff_eq, List.cons.injEq, and_true] at hc); (first | (exfalso; omega) | exact absurd True.intro hc | conv => whnf))) | ((with_reducible refine And.intro True.intro ?_); conv => whnf) | ((with_reducible refine grd_and ?_); refine And.intro (hi) ?_; conv => whnf) | ((with_reducible refine And.intro ?hh ?_); (case hh => exact condA); conv => whnf) | fail))
    have e : wiR (-1099511627776) 1099511627776 n s = true := allF_t fun j hj => hP j (by omega)
    rw [e]
    all_goals first | (refine ⟨[], ?_, rfl, rfl, trivial, trivs⟩; simp only [renV, renL]; (first | done | rfl | (simp; done) | (simp; omega) | grind)) | (exfalso; omega)
theorem ways_ok (h : As.H) (d k : Nat) (hd : d < 100) (hk : k < 4) : CallOk Try.prog 77 [.int .i64 d, .int .i64 k] h (.int .i64 (wy d k)) h := by
  have hw := fun k (hk : k < 3) => wy_at hd hk
  have hl := fun k (hk : k < 4) => wy_lt (k := k) hd hk
  have hw0 : wy d 0 = 1 := rfl
  generalize wy d = w at *
  refine CallOk.run0 Try.func77 rfl rfl rfl rfl rfl (WpR.of_vc ?_)
  (conv => whnf); (repeat' (first | ((with_reducible refine ifb_mk (fun hc => ?_) (fun hc => ?_)) <;> ((try simp only [decide_eq_true_eq, decide_eq_false_iff_not, Bool.not_eq_true', Bool.not_eq_false', Int.not_lt, Int.not_le, ne_eq, Decidable.not_not, beq_iff_eq, List.cons.injEq, and_true] at hc); (first | (exfalso; omega) | exact absurd True.intro hc | conv => whnf))) | ((with_reducible refine And.intro True.intro ?_); conv => whnf) | ((with_reducible refine And.intro ?hh ?_); (case hh => exact condA); conv => whnf) | fail))
  refine WpR.loopA (ι := Nat × Int) [] [0, 1] [] [] 0 (fun q => [(6, .int .i64 q.1), (5, .int .i64 q.2)]) (fun _ => []) (fun q => k - q.1) (fun q => q.1 ≤ k ∧ q.2 = w q.1) ?_ ((0, 1)) (⟨Nat.zero_le _, by rw [hw0]; rfl⟩) [] Back.auto
  rintro ⟨i, ws⟩ ⟨j1, j2⟩
  dsimp only at j1 j2
  refine WpR.of_vc ?_
  by_cases hi : i < k
  · obtain ⟨a1, a2, _⟩ := hw i (by omega)
    have hl1 := hl (i + 1) (by omega)
    rw [← j2] at a1 a2
    have y2 : InR ((ws * ((d : Int) - i)).tdiv (i + 1)) := by rw [a1]; unfold InR; omega
    have y0 : (i : Int) + 1 ≠ 0 := by omega
    (conv => whnf); (repeat' (first | ((with_reducible refine ifb_mk (fun hc => ?_) (fun hc => ?_)) <;> ((try simp only [decide_eq_true_eq, decide_eq_false_iff_not, Bool.not_eq_true', Bool.not_eq_false', Int.not_lt, Int.not_le, ne_eq, Decidable.not_not, beq_iff_eq, List.cons.injEq, and_true] at hc); (first | (exfalso; omega) | exact absurd True.intro hc | conv => whnf))) | ((with_reducible refine And.intro True.intro ?_); conv => whnf) | ((with_reducible refine grd_and ?_); refine And.intro (hi) ?_; conv => whnf) | ((with_reducible refine grd_and ?_); refine And.intro (a2) ?_; conv => whnf) | ((with_reducible refine grd_and ?_); refine And.intro (y0) ?_; conv => whnf) | ((with_reducible refine grd_and ?_); refine And.intro (y2) ?_; conv => whnf) | ((with_reducible refine And.intro ?hh ?_); (case hh => exact condA); conv => whnf) | fail))
    all_goals first | (exfalso; omega) | exact ⟨(i + 1, (ws * ((d : Int) - i)).tdiv (i + 1)), [], by dsimp only; omega, ⟨by dsimp only; omega, by dsimp only; exact a1⟩, Back.auto⟩
  · have e : i = k := by omega
    subst e
    (conv => whnf); (repeat' (first | ((with_reducible refine ifb_mk (fun hc => ?_) (fun hc => ?_)) <;> ((try simp only [decide_eq_true_eq, decide_eq_false_iff_not, Bool.not_eq_true', Bool.not_eq_false', Int.not_lt, Int.not_le, ne_eq, Decidable.not_not, beq_iff_eq, List.cons.injEq, and_true] at hc); (first | (exfalso; omega) | exact absurd True.intro hc | conv => whnf))) | ((with_reducible refine And.intro True.intro ?_); conv => whnf) | ((with_reducible refine grd_and ?_); refine And.intro (hi) ?_; conv => whnf) | ((with_reducible refine And.intro ?hh ?_); (case hh => exact condA); conv => whnf) | fail))
    all_goals (refine ⟨[], ?_, rfl, rfl, trivial, trivs⟩; simp only [renV, renL]; rw [j2])
theorem atOf_ok (h : As.H) (ex : Bool) (m : Nat) (a : Nat → Int) (d : Nat) (hd : d < 100) (hm : m ≤ 4) (ha : Sm 8796093022208 m a) : CallOk Try.prog 45 [.rsl ex 1 m (iG a), .int .i64 d] h (.int .i64 (plc a d m)) h := by
  have kW := fun h' k hk => ways_ok h' d k hd hk
  have hb := fun k (hk : k < m) => mul_bd (ha k hk) (wy_lt (k := k) hd (by omega))
  have hq := fun k (hk : k ≤ m) => plc_bd hd hm ha k hk
  have hl := fun k (hk : k < 4) => wy_lt (k := k) hd hk
  have es : ∀ k, plc a d (k + 1) = plc a d k + a k * wy d k := fun k => rfl
  have e0 : plc a d 0 = 0 := rfl
  generalize plc a d = P at *
  generalize wy d = w at *
  refine CallOk.run0 Try.func45 rfl rfl rfl rfl rfl (WpR.of_vc ?_)
  (conv => whnf); (repeat' (first | ((with_reducible refine ifb_mk (fun hc => ?_) (fun hc => ?_)) <;> ((try simp only [decide_eq_true_eq, decide_eq_false_iff_not, Bool.not_eq_true', Bool.not_eq_false', Int.not_lt, Int.not_le, ne_eq, Decidable.not_not, beq_iff_eq, List.cons.injEq, and_true] at hc); (first | (exfalso; omega) | exact absurd True.intro hc | conv => whnf))) | ((with_reducible refine And.intro True.intro ?_); conv => whnf) | ((with_reducible refine And.intro ?hh ?_); (case hh => exact condA); conv => whnf) | fail))
  refine WpR.loopA (ι := Nat × Int) [] [0, 1] [] [] 0 (fun q => [(6, .int .i64 q.1), (5, .int .i64 q.2)]) (fun _ => []) (fun q => m - q.1) (fun q => q.1 ≤ m ∧ q.2 = P q.1) ?_ ((0, 0)) (⟨Nat.zero_le _, e0.symm⟩) [] Back.auto
  rintro ⟨i, s⟩ ⟨j1, j2⟩
  dsimp only at j1 j2
  refine WpR.of_vc ?_
  by_cases hi : i < m
  · obtain ⟨b1, b2⟩ := hb i hi
    have c1 := hq i (by omega)
    have c2 := es i
    have hl1 := hl i (by omega)
    have kW := fun h' => kW h' i (by omega)
    have y3 : InR (a i * (w i : Int)) := by unfold InR; omega
    have y4 : InR (s + a i * (w i : Int)) := by rw [j2]; unfold InR; omega
    rw [← j2] at c2
    (conv => whnf); (repeat' (first | ((with_reducible refine ifb_mk (fun hc => ?_) (fun hc => ?_)) <;> ((try simp only [decide_eq_true_eq, decide_eq_false_iff_not, Bool.not_eq_true', Bool.not_eq_false', Int.not_lt, Int.not_le, ne_eq, Decidable.not_not, beq_iff_eq, List.cons.injEq, and_true] at hc); (first | (exfalso; omega) | exact absurd True.intro hc | conv => whnf))) | ((with_reducible refine And.intro True.intro ?_); conv => whnf) | ((with_reducible refine grd_and ?_); refine And.intro (hi) ?_; conv => whnf) | ((with_reducible refine CallX.all ?_); refine CallW.of_ok (kW _) ?_; conv => whnf) | ((with_reducible refine grd_ex ?_); refine ex_ok (kW _) ?_; conv => whnf) | ((with_reducible refine grd_and ?_); refine And.intro (y3) ?_; conv => whnf) | ((with_reducible refine grd_and ?_); refine And.intro (y4) ?_; conv => whnf) | ((with_reducible refine WpR.draw (id := 5) mixed [0, 1, 2, 3, 4, 5, 6, 7, 8, 9, 10] [0, 0, 0, 6, 14, 0, 0, 96, 254, 511, 1023] ?hh ?_); (case hh => kernel_rfl); conv => whnf) | ((with_reducible refine And.intro ?hh ?_); (case hh => exact condA); conv => whnf) | fail))
    all_goals first | (exfalso; omega) | exact ⟨(i + 1, s + a i * (w i : Int)), [], by dsimp only; omega, ⟨by dsimp only; omega, by dsimp only; exact c2.symm⟩, Back.auto⟩
  · have e : i = m := by omega
    subst e
    (conv => whnf); (repeat' (first | ((with_reducible refine ifb_mk (fun hc => ?_) (fun hc => ?_)) <;> ((try simp only [decide_eq_true_eq, decide_eq_false_iff_not, Bool.not_eq_true', Bool.not_eq_false', Int.not_lt, Int.not_le, ne_eq, Decidable.not_not, beq_iff_eq, List.cons.injEq, and_true] at hc); (first | (exfalso; omega) | exact absurd True.intro hc | conv => whnf))) | ((with_reducible refine And.intro True.intro ?_); conv => whnf) | ((with_reducible refine grd_and ?_); refine And.intro (hi) ?_; conv => whnf) | ((with_reducible refine And.intro ?hh ?_); (case hh => exact condA); conv => whnf) | fail))
    all_goals (refine ⟨[], ?_, rfl, rfl, trivial, trivs⟩; simp only [renV, renL]; rw [j2])
end Go.Proofs.K
