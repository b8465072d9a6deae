/- What the functions answer that the laws call, one after another (Base). -/
import Derived.Test.YtmfohdhnpanfeaaAs6
import Derived.Test.YtmfohdhnpanfeaaProg
import Derived.KernelRfl

set_option linter.unusedVariables false
namespace Go.Proofs.Q
open Go.As
set_option maxRecDepth 20000
set_option linter.unusedVariables false
set_option linter.unusedSimpArgs false

theorem mixed : Try.prog.follows .mixedOrders = true := by kernel_rfl

/-! ### Lists -/

def iVs (l : List Int) : List V := l.map (V.int .i64)
theorem iVs_bare {l : List Int} : ∀ v ∈ iVs l, bare0 v = true := fun v h => by obtain ⟨x, _, rfl⟩ := List.mem_map.1 h; rfl
def bVs (l : List Bool) : List V := l.map V.bool
theorem bVs_bare {l : List Bool} : ∀ v ∈ bVs l, bare0 v = true := fun v h => by obtain ⟨x, _, rfl⟩ := List.mem_map.1 h; rfl
theorem iGet {l : List Int} {i : Nat} {x : Int} (h : l[i]? = some x) : (ofL (iVs l) 0).get (0 + (i : Int).toNat * 1) = some (.int .i64 x) := get_ofL0 (by unfold iVs; rw [List.getElem?_map]; simp [h])
theorem SlC.own {h : H} {L : List V} {b n cap : Nat} {ex w : Bool} {g : Option (Nat × Nat)} (hb : h.get b = some (.cells (ofL L 0) w g)) : SlC h L n (.sl b 0 n cap ex) :=
  SlC.sl hb (fun _ _ h => by rw [Nat.zero_add]; exact get_ofL0 h)
theorem drop_at {α : Type} {l : List α} {i : Nat} {x : α} (h : l[i]? = some x) : l.drop i = x :: l.drop (i + 1) := by
  obtain ⟨hi, rfl⟩ := List.getElem?_eq_some_iff.1 h
  exact List.drop_eq_getElem_cons hi
/-- all of the first n -/
def allF (n : Nat) (p : Nat → Bool) : Bool := (List.range n).all p
theorem allF_t {n : Nat} {p : Nat → Bool} (h : ∀ i, i < n → p i = true) : allF n p = true := List.all_eq_true.2 fun i hi => h i (List.mem_range.1 hi)
theorem allF_f {n i : Nat} {p : Nat → Bool} (h : i < n) (hp : p i = false) : allF n p = false := by
  rw [← Bool.not_eq_true]
  intro hc
  have := List.all_eq_true.1 hc i (List.mem_range.2 h)
  rw [hp] at this; cases this
theorem allF_iff {n : Nat} {p : Nat → Bool} : allF n p = true ↔ ∀ i, i < n → p i = true := ⟨fun h i hi => List.all_eq_true.1 h i (List.mem_range.2 hi), allF_t⟩
theorem below_succ {p : Nat → Bool} {i : Nat} (h : ∀ k, k < i → p k = true) (hi : p i = true) : ∀ k, k < i + 1 → p k = true := by
  intro k hk
  by_cases he : k = i
  · rw [he]; exact hi
  · exact h k (by omega)
theorem below_f {p : Nat → Bool} {i : Nat} (h : ∀ k, k < i → p k = false) (hi : p i = false) : ∀ k, k < i + 1 → p k = false := by
  intro k hk
  by_cases he : k = i
  · rw [he]; exact hi
  · exact h k (by omega)
/-- one of the first n -/
def anyF (n : Nat) (p : Nat → Bool) : Bool := !allF n fun i => !p i
theorem anyF_t {n i : Nat} {p : Nat → Bool} (h : i < n) (hp : p i = true) : anyF n p = true := by unfold anyF; rw [allF_f h (by rw [hp]; rfl)]; rfl
theorem anyF_f {n : Nat} {p : Nat → Bool} (h : ∀ i, i < n → p i = false) : anyF n p = false := by unfold anyF; rw [allF_t (fun i hi => by rw [h i hi]; rfl)]; rfl
theorem anyF_iff {n : Nat} {p : Nat → Bool} : anyF n p = true ↔ ∃ i, i < n ∧ p i = true := by
  constructor
  · intro h
    apply Classical.byContradiction
    intro hc
    have : anyF n p = false := anyF_f fun i hi => by
      cases hp : p i with
      | false => rfl
      | true => exact (hc ⟨i, hi, hp⟩).elim
    rw [h] at this; cases this
  · rintro ⟨i, hi, hp⟩; exact anyF_t hi hp


/-! ### Texts -/

/-- A text. -/
def tx (T : List UInt8) : V := .str ⟨⟨T⟩⟩
def tVs (l : List (List UInt8)) : List V := l.map tx
theorem tVs_bare {l : List (List UInt8)} : ∀ v ∈ tVs l, bare0 v = true := fun v h => by obtain ⟨x, _, rfl⟩ := List.mem_map.1 h; rfl
theorem tGet {l : List (List UInt8)} {i : Nat} {x : List UInt8} (h : l[i]? = some x) : (ofL (tVs l) 0).get (0 + (i : Int).toNat * 1) = some (tx x) := get_ofL0 (by unfold tVs; rw [List.getElem?_map]; simp [h])
/-- Numbers, texts, one behind the other. -/
def iG (s : Nat → Int) : Nat → List V := fun i => [.int .i64 (s i)]
def tG (A : Nat → List UInt8) : Nat → List V := fun i => [tx (A i)]
/-- Marks: the letters that are struck, the strings that are added. -/
def marksV (n : Nat) (s : Nat → Int) (k : Nat) (A : Nat → List UInt8) (x1 x2 : Bool) : V := .agg [.rsl x1 1 n (iG s), .rsl x2 1 k (tG A)]
def pageV (n : Nat) (s : Nat → Int) (k : Nat) (A : Nat → List UInt8) (x1 x2 : Bool) (T : List UInt8) : V := .agg [.rsl x1 1 n (iG s), .rsl x2 1 k (tG A), tx T]

def t12 (T : List UInt8) : Bool := decide (T.length ≤ 12)
theorem areTexts_ok (h : H) (L : List (List UInt8)) (sv : V) (hl : L.length ≤ 9223372036854775807) (hs : SlC h (tVs L) L.length sv) : CallOk Try.prog 57 [sv] h (.bool (L.all t12)) h := by
  obtain ⟨vo, svC, hsv, hca, hvw⟩ := hs.view 0
  refine CallOk.run Try.func57 rfl rfl (argsC := [svC]) (Nat.le_of_ble_eq_true rfl) [vo] (.cons (hca _ rfl) .nil) (viewMc1 tVs_bare hvw) rfl (WpR.of_vc ?_)
  have hBare := @tVs_bare L
  cases hsv with
  | nil h0 =>
    have e : L = [] := List.eq_nil_of_length_eq_zero h0
    subst e
    (conv => whnf); (repeat' (first | ((with_reducible refine ifb_mk (fun hc => ?_) (fun hc => ?_)) <;> ((try simp only [decide_eq_true_eq, decide_eq_false_iff_not, Bool.not_eq_true', Bool.not_eq_false', Int.not_lt, Int.not_le, ne_eq, Decidable.not_not, beq_iff_eq, List.cons.injEq, and_true] at hc); (first | (exfalso; omega) | exact absurd True.intro hc | conv => whnf))) | ((with_reducible refine And.intro True.intro ?_); conv => whnf) | ((with_reducible refine WpR.loopU 2 ?_); conv => whnf) | ((with_reducible refine And.intro ?hh ?_); (case hh => exact condA); conv => whnf) | fail))
    (refine ⟨[], ?_, rfl, rfl, trivial, trivs⟩; simp only [renV, renL]; (first | done | rfl | (simp; done) | (simp; omega) | grind))
  | @sl cap ex =>
  (conv => whnf); (repeat' (first | ((with_reducible refine ifb_mk (fun hc => ?_) (fun hc => ?_)) <;> ((try simp only [decide_eq_true_eq, decide_eq_false_iff_not, Bool.not_eq_true', Bool.not_eq_false', Int.not_lt, Int.not_le, ne_eq, Decidable.not_not, beq_iff_eq, List.cons.injEq, and_true] at hc); (first | (exfalso; omega) | exact absurd True.intro hc | conv => whnf))) | ((with_reducible refine And.intro True.intro ?_); conv => whnf) | ((with_reducible refine And.intro ?hh ?_); (case hh => exact condA); conv => whnf) | fail))
  refine WpR.loopA (ι := Nat) [] [0, 5, 6] [] [] 1 (fun i => [(7, .int .i64 i)]) (fun _ => []) (fun i => L.length - i) (fun i => i ≤ L.length ∧ L.all t12 = (L.drop i).all t12) ?_ (0) (⟨Nat.zero_le _, rfl⟩) [] Back.auto
  rintro i ⟨h1, hP⟩
  refine WpR.of_vc ?_
  cases hx : L[i]? with
  | some x =>
    have hlt := (List.getElem?_eq_some_iff.1 hx).1
    rw [drop_at hx] at hP
    rw [List.all_cons] at hP
    have hQ : L.all t12 = (decide (x.length ≤ 12) && (L.drop (i + 1)).all t12) := hP
    (conv => whnf); (repeat' (first | ((with_reducible refine ifb_mk (fun hc => ?_) (fun hc => ?_)) <;> ((try simp only [decide_eq_true_eq, decide_eq_false_iff_not, Bool.not_eq_true', Bool.not_eq_false', Int.not_lt, Int.not_le, ne_eq, Decidable.not_not, beq_iff_eq, List.cons.injEq, and_true] at hc); (first | (exfalso; omega) | exact absurd True.intro hc | conv => whnf))) | ((with_reducible refine And.intro True.intro ?_); conv => whnf) | ((with_reducible refine grd_get ?_); refine som_mk (a := ?_) ?hh ?_; (case hh => exact tGet hx); conv => whnf) | ((with_reducible refine And.intro ?hh ?_); (case hh => exact condA); conv => whnf) | fail))
    · (refine ⟨[], ?_, rfl, rfl, trivial, trivs⟩; simp only [renV, renL]; rw [hQ, decide_eq_false (by omega)]; rfl)
    · rw [decide_eq_true (by omega), Bool.true_and] at hQ
      exact ⟨i + 1, [], by omega, ⟨by omega, hQ⟩, Back.auto⟩
  | none =>
    have hlen : L.length ≤ i := by simpa using hx
    (conv => whnf); (repeat' (first | ((with_reducible refine ifb_mk (fun hc => ?_) (fun hc => ?_)) <;> ((try simp only [decide_eq_true_eq, decide_eq_false_iff_not, Bool.not_eq_true', Bool.not_eq_false', Int.not_lt, Int.not_le, ne_eq, Decidable.not_not, beq_iff_eq, List.cons.injEq, and_true] at hc); (first | (exfalso; omega) | exact absurd True.intro hc | conv => whnf))) | ((with_reducible refine And.intro True.intro ?_); conv => whnf) | ((with_reducible refine And.intro ?hh ?_); (case hh => exact condA); conv => whnf) | fail))
    have e : L.all t12 = true := by rw [hP, List.drop_eq_nil_of_le hlen]; rfl
    (refine ⟨[], ?_, rfl, rfl, trivial, trivs⟩; simp only [renV, renL]; rw [e])
theorem areTexts1_ok (h : H) (T : List UInt8) (sv : V) (hs : SlC h [tx T] 1 sv) : CallOk Try.prog 57 [sv] h (.bool (decide (T.length ≤ 12))) h := by
  have := areTexts_ok h [T] sv (by simp) hs
  have e : [T].all t12 = decide (T.length ≤ 12) := by unfold t12; simp
  rwa [e] at this
theorem areTexts2_ok (h : H) (T S : List UInt8) (sv : V) (hs : SlC h [tx T, tx S] 2 sv) : CallOk Try.prog 57 [sv] h (.bool (decide (T.length ≤ 12 ∧ S.length ≤ 12))) h := by
  have := areTexts_ok h [T, S] sv (by simp) hs
  have e : [T, S].all t12 = decide (T.length ≤ 12 ∧ S.length ≤ 12) := by unfold t12; simp
  rwa [e] at this
def allT (k : Nat) (A : Nat → List UInt8) : Bool := allF k fun i => t12 (A i)
theorem areTextsR_ok (h : H) (k : Nat) (A : Nat → List UInt8) (ex : Bool) (hk : k ≤ 9223372036854775807) : CallOk Try.prog 57 [.rsl ex 1 k (tG A)] h (.bool (allT k A)) h := by
  refine CallOk.run0 Try.func57 rfl rfl rfl rfl rfl (WpR.of_vc ?_)
  (conv => whnf); (repeat' (first | ((with_reducible refine ifb_mk (fun hc => ?_) (fun hc => ?_)) <;> ((try simp only [decide_eq_true_eq, decide_eq_false_iff_not, Bool.not_eq_true', Bool.not_eq_false', Int.not_lt, Int.not_le, ne_eq, Decidable.not_not, beq_iff_eq, List.cons.injEq, and_true] at hc); (first | (exfalso; omega) | exact absurd True.intro hc | conv => whnf))) | ((with_reducible refine And.intro True.intro ?_); conv => whnf) | ((with_reducible refine And.intro ?hh ?_); (case hh => exact condA); conv => whnf) | fail))
  refine WpR.loopA (ι := Nat) [] [0, 5, 6] [] [] 0 (fun i => [(7, .int .i64 i)]) (fun _ => []) (fun i => k - i) (fun i => i ≤ k ∧ ∀ j, j < i → t12 (A j) = true) ?_ (0) (⟨Nat.zero_le _, fun j hj => by omega⟩) [] Back.auto
  rintro i ⟨h1, hP⟩
  refine WpR.of_vc ?_
  by_cases hi : i < k
  · cases ht : t12 (A i) with
    | true =>
      have ht' : (A i).length ≤ 12 := of_decide_eq_true ht
      (conv => whnf); (repeat' (first | ((with_reducible refine ifb_mk (fun hc => ?_) (fun hc => ?_)) <;> ((try simp only [decide_eq_true_eq, decide_eq_false_iff_not, Bool.not_eq_true', Bool.not_eq_false', Int.not_lt, Int.not_le, ne_eq, Decidable.not_not, beq_iff_eq, List.cons.injEq, and_true] at hc); (first | (exfalso; omega) | exact absurd True.intro hc | conv => whnf))) | ((with_reducible refine And.intro True.intro ?_); conv => whnf) | ((with_reducible refine grd_and ?_); refine And.intro (hi) ?_; conv => whnf) | ((with_reducible refine And.intro ?hh ?_); (case hh => exact condA); conv => whnf) | fail))
      exact ⟨i + 1, [], by omega, ⟨by omega, below_succ hP ht⟩, Back.auto⟩
    | false =>
      have ht' : ¬ (A i).length ≤ 12 := of_decide_eq_false ht
      have e : allT k A = false := allF_f hi ht
      rw [e]
      (conv => whnf); (repeat' (first | ((with_reducible refine ifb_mk (fun hc => ?_) (fun hc => ?_)) <;> ((try simp only [decide_eq_true_eq, decide_eq_false_iff_not, Bool.not_eq_true', Bool.not_eq_false', Int.not_lt, Int.not_le, ne_eq, Decidable.not_not, beq_iff_eq, List.cons.injEq, and_true] at hc); (first | (exfalso; omega) | exact absurd True.intro hc | conv => whnf))) | ((with_reducible refine And.intro True.intro ?_); conv => whnf) | ((with_reducible refine grd_and ?_); refine And.intro (hi) ?_; conv => whnf) | ((with_reducible refine And.intro ?hh ?_); (case hh => exact condA); conv => whnf) | fail))
      (refine ⟨[], ?_, rfl, rfl, trivial, trivs⟩; simp only [renV, renL]; (first | done | rfl | (simp; done) | (simp; omega) | grind))
  · (conv => whnf); (repeat' (first | ((with_reducible refine ifb_mk (fun hc => ?_) (fun hc => ?_)) <;> ((try simp only [decide_eq_true_eq, decide_eq_false_iff_not, Bool.not_eq_true', Bool.not_eq_false', Int.not_lt, Int.not_le, ne_eq, Decidable.not_not, beq_iff_eq, List.cons.injEq, and_true] at hc); (first | (exfalso; omega) | exact absurd True.intro hc | conv => whnf))) | ((with_reducible refine And.intro True.intro ?_); conv => whnf) | ((with_reducible refine And.intro ?hh ?_); (case hh => exact condA); conv => whnf) | fail))
    have e : allT k A = true := allF_t fun j hj => hP j (by omega)
    rw [e]
    (refine ⟨[], ?_, rfl, rfl, trivial, trivs⟩; simp only [renV, renL]; (first | done | rfl | (simp; done) | (simp; omega) | grind))

/-! ### Ranges -/

def wi (a b : Int) (L : List Int) : Bool := L.all fun x => decide (a ≤ x ∧ x ≤ b)
theorem within_ok (h : H) (a b : Int) (L : List Int) (sv : V) (hl : L.length ≤ 9223372036854775807) (hs : SlC h (iVs L) L.length sv) : CallOk Try.prog 77 [.int .i64 a, .int .i64 b, sv] h (.bool (wi a b L)) h := by
  obtain ⟨vo, svC, hsv, hca, hvw⟩ := hs.view 0
  refine CallOk.run Try.func77 rfl rfl (argsC := [.int .i64 a, .int .i64 b, svC]) (Nat.le_of_ble_eq_true rfl) [vo] (.cons (.bare rfl) (.cons (.bare rfl) (.cons (hca _ rfl) .nil))) (viewMc1 iVs_bare hvw) rfl (WpR.of_vc ?_)
  have hBare := @iVs_bare L
  cases hsv with
  | nil h0 =>
    have e : L = [] := List.eq_nil_of_length_eq_zero h0
    subst e
    (conv => whnf); (repeat' (first | ((with_reducible refine ifb_mk (fun hc => ?_) (fun hc => ?_)) <;> ((try simp only [decide_eq_true_eq, decide_eq_false_iff_not, Bool.not_eq_true', Bool.not_eq_false', Int.not_lt, Int.not_le, ne_eq, Decidable.not_not, beq_iff_eq, List.cons.injEq, and_true] at hc); (first | (exfalso; omega) | exact absurd True.intro hc | conv => whnf))) | ((with_reducible refine And.intro True.intro ?_); conv => whnf) | ((with_reducible refine WpR.loopU 2 ?_); conv => whnf) | ((with_reducible refine And.intro ?hh ?_); (case hh => exact condA); conv => whnf) | fail))
    (refine ⟨[], ?_, rfl, rfl, trivial, trivs⟩; simp only [renV, renL]; (first | done | rfl | (simp; done) | (simp; omega) | grind))
  | @sl cap ex =>
  (conv => whnf); (repeat' (first | ((with_reducible refine ifb_mk (fun hc => ?_) (fun hc => ?_)) <;> ((try simp only [decide_eq_true_eq, decide_eq_false_iff_not, Bool.not_eq_true', Bool.not_eq_false', Int.not_lt, Int.not_le, ne_eq, Decidable.not_not, beq_iff_eq, List.cons.injEq, and_true] at hc); (first | (exfalso; omega) | exact absurd True.intro hc | conv => whnf))) | ((with_reducible refine And.intro True.intro ?_); conv => whnf) | ((with_reducible refine And.intro ?hh ?_); (case hh => exact condA); conv => whnf) | fail))
  refine WpR.loopA (ι := Nat) [] [0, 1, 9, 10] [] [] 1 (fun i => [(11, .int .i64 i)]) (fun _ => []) (fun i => L.length - i) (fun i => i ≤ L.length ∧ wi a b L = wi a b (L.drop i)) ?_ (0) (⟨Nat.zero_le _, rfl⟩) [] Back.auto
  rintro i ⟨h1, hP⟩
  refine WpR.of_vc ?_
  cases hx : L[i]? with
  | some x =>
    have hlt := (List.getElem?_eq_some_iff.1 hx).1
    rw [drop_at hx] at hP
    unfold wi at hP
    rw [List.all_cons] at hP
    have hQ : wi a b L = (decide (a ≤ x ∧ x ≤ b) && wi a b (L.drop (i + 1))) := hP
    (conv => whnf); (repeat' (first | ((with_reducible refine ifb_mk (fun hc => ?_) (fun hc => ?_)) <;> ((try simp only [decide_eq_true_eq, decide_eq_false_iff_not, Bool.not_eq_true', Bool.not_eq_false', Int.not_lt, Int.not_le, ne_eq, Decidable.not_not, beq_iff_eq, List.cons.injEq, and_true] at hc); (first | (exfalso; omega) | exact absurd True.intro hc | conv => whnf))) | ((with_reducible refine And.intro True.intro ?_); conv => whnf) | ((with_reducible refine grd_get ?_); refine som_mk (a := ?_) ?hh ?_; (case hh => exact iGet hx); conv => whnf) | ((with_reducible refine And.intro ?hh ?_); (case hh => exact condA); conv => whnf) | fail))
    · (refine ⟨[], ?_, rfl, rfl, trivial, trivs⟩; simp only [renV, renL]; rw [hQ, decide_eq_false (by omega)]; rfl)
    · (refine ⟨[], ?_, rfl, rfl, trivial, trivs⟩; simp only [renV, renL]; rw [hQ, decide_eq_false (by omega)]; rfl)
    · rw [decide_eq_true (by omega), Bool.true_and] at hQ
      exact ⟨i + 1, [], by omega, ⟨by omega, hQ⟩, Back.auto⟩
  | none =>
    have hlen : L.length ≤ i := by simpa using hx
    (conv => whnf); (repeat' (first | ((with_reducible refine ifb_mk (fun hc => ?_) (fun hc => ?_)) <;> ((try simp only [decide_eq_true_eq, decide_eq_false_iff_not, Bool.not_eq_true', Bool.not_eq_false', Int.not_lt, Int.not_le, ne_eq, Decidable.not_not, beq_iff_eq, List.cons.injEq, and_true] at hc); (first | (exfalso; omega) | exact absurd True.intro hc | conv => whnf))) | ((with_reducible refine And.intro True.intro ?_); conv => whnf) | ((with_reducible refine And.intro ?hh ?_); (case hh => exact condA); conv => whnf) | fail))
    have e : wi a b L = true := by rw [hP, List.drop_eq_nil_of_le hlen]; rfl
    (refine ⟨[], ?_, rfl, rfl, trivial, trivs⟩; simp only [renV, renL]; rw [e])
theorem within64_ok (h : H) (a b : Int) (L : List Int) (sv : V) (hl : L.length ≤ 9223372036854775807) (hs : SlC h (iVs L) L.length sv) : CallOk Try.prog 82 [.int .i64 a, .int .i64 b, sv] h (.bool (wi a b L)) h := by
  obtain ⟨vo, svC, hsv, hca, hvw⟩ := hs.view 0
  refine CallOk.run Try.func82 rfl rfl (argsC := [.int .i64 a, .int .i64 b, svC]) (Nat.le_of_ble_eq_true rfl) [vo] (.cons (.bare rfl) (.cons (.bare rfl) (.cons (hca _ rfl) .nil))) (viewMc1 iVs_bare hvw) rfl (WpR.of_vc ?_)
  have hBare := @iVs_bare L
  cases hsv with
  | nil h0 =>
    have e : L = [] := List.eq_nil_of_length_eq_zero h0
    subst e
    (conv => whnf); (repeat' (first | ((with_reducible refine ifb_mk (fun hc => ?_) (fun hc => ?_)) <;> ((try simp only [decide_eq_true_eq, decide_eq_false_iff_not, Bool.not_eq_true', Bool.not_eq_false', Int.not_lt, Int.not_le, ne_eq, Decidable.not_not, beq_iff_eq, List.cons.injEq, and_true] at hc); (first | (exfalso; omega) | exact absurd True.intro hc | conv => whnf))) | ((with_reducible refine And.intro True.intro ?_); conv => whnf) | ((with_reducible refine WpR.loopU 2 ?_); conv => whnf) | ((with_reducible refine And.intro ?hh ?_); (case hh => exact condA); conv => whnf) | fail))
    (refine ⟨[], ?_, rfl, rfl, trivial, trivs⟩; simp only [renV, renL]; (first | done | rfl | (simp; done) | (simp; omega) | grind))
  | @sl cap ex =>
  (conv => whnf); (repeat' (first | ((with_reducible refine ifb_mk (fun hc => ?_) (fun hc => ?_)) <;> ((try simp only [decide_eq_true_eq, decide_eq_false_iff_not, Bool.not_eq_true', Bool.not_eq_false', Int.not_lt, Int.not_le, ne_eq, Decidable.not_not, beq_iff_eq, List.cons.injEq, and_true] at hc); (first | (exfalso; omega) | exact absurd True.intro hc | conv => whnf))) | ((with_reducible refine And.intro True.intro ?_); conv => whnf) | ((with_reducible refine And.intro ?hh ?_); (case hh => exact condA); conv => whnf) | fail))
  refine WpR.loopA (ι := Nat) [] [0, 1, 9, 10] [] [] 1 (fun i => [(11, .int .i64 i)]) (fun _ => []) (fun i => L.length - i) (fun i => i ≤ L.length ∧ wi a b L = wi a b (L.drop i)) ?_ (0) (⟨Nat.zero_le _, rfl⟩) [] Back.auto
  rintro i ⟨h1, hP⟩
  refine WpR.of_vc ?_
  cases hx : L[i]? with
  | some x =>
    have hlt := (List.getElem?_eq_some_iff.1 hx).1
    rw [drop_at hx] at hP
    unfold wi at hP
    rw [List.all_cons] at hP
    have hQ : wi a b L = (decide (a ≤ x ∧ x ≤ b) && wi a b (L.drop (i + 1))) := hP
    (conv => whnf); (repeat' (first | ((with_reducible refine ifb_mk (fun hc => ?_) (fun hc => ?_)) <;> ((try simp only [decide_eq_true_eq, decide_eq_false_iff_not, Bool.not_eq_true', Bool.not_eq_false', Int.not_lt, Int.not_le, ne_eq, Decidable.not_not, beq_iff_eq, List.cons.injEq, and_true] at hc); (first | (exfalso; omega) | exact absurd True.intro hc | conv => whnf))) | ((with_reducible refine And.intro True.intro ?_); conv => whnf) | ((with_reducible refine grd_get ?_); refine som_mk (a := ?_) ?hh ?_; (case hh => exact iGet hx); conv => whnf) | ((with_reducible refine And.intro ?hh ?_); (case hh => exact condA); conv => whnf) | fail))
    · (refine ⟨[], ?_, rfl, rfl, trivial, trivs⟩; simp only [renV, renL]; rw [hQ, decide_eq_false (by omega)]; rfl)
    · (refine ⟨[], ?_, rfl, rfl, trivial, trivs⟩; simp only [renV, renL]; rw [hQ, decide_eq_false (by omega)]; rfl)
    · rw [decide_eq_true (by omega), Bool.true_and] at hQ
      exact ⟨i + 1, [], by omega, ⟨by omega, hQ⟩, Back.auto⟩
  | none =>
    have hlen : L.length ≤ i := by simpa using hx
    (conv => whnf); (repeat' (first | ((with_reducible refine ifb_mk (fun hc => ?_) (fun hc => ?_)) <;> ((try simp only [decide_eq_true_eq, decide_eq_false_iff_not, Bool.not_eq_true', Bool.not_eq_false', Int.not_lt, Int.not_le, ne_eq, Decidable.not_not, beq_iff_eq, List.cons.injEq, and_true] at hc); (first | (exfalso; omega) | exact absurd True.intro hc | conv => whnf))) | ((with_reducible refine And.intro True.intro ?_); conv => whnf) | ((with_reducible refine And.intro ?hh ?_); (case hh => exact condA); conv => whnf) | fail))
    have e : wi a b L = true := by rw [hP, List.drop_eq_nil_of_le hlen]; rfl
    (refine ⟨[], ?_, rfl, rfl, trivial, trivs⟩; simp only [renV, renL]; rw [e])
theorem within1_ok (h : H) (a b x : Int) (sv : V) (hs : SlC h (iVs [x]) 1 sv) : CallOk Try.prog 77 [.int .i64 a, .int .i64 b, sv] h (.bool (decide (a ≤ x ∧ x ≤ b))) h := by
  have := within_ok h a b [x] sv (by simp) hs
  unfold wi at this
  simpa using this
theorem within641_ok (h : H) (a b x : Int) (sv : V) (hs : SlC h (iVs [x]) 1 sv) : CallOk Try.prog 82 [.int .i64 a, .int .i64 b, sv] h (.bool (decide (a ≤ x ∧ x ≤ b))) h := by
  have := within64_ok h a b [x] sv (by simp) hs
  unfold wi at this
  simpa using this
theorem within2_ok (h : H) (a b x y : Int) (sv : V) (hs : SlC h (iVs [x, y]) 2 sv) : CallOk Try.prog 77 [.int .i64 a, .int .i64 b, sv] h (.bool (decide ((a ≤ x ∧ x ≤ b) ∧ a ≤ y ∧ y ≤ b))) h := by
  have := within_ok h a b [x, y] sv (by simp) hs
  unfold wi at this
  have e : decide ((a ≤ x ∧ x ≤ b) ∧ a ≤ y ∧ y ≤ b) = (decide (a ≤ x ∧ x ≤ b) && decide (a ≤ y ∧ y ≤ b)) := by simp
  rw [e]
  simpa using this
theorem within642_ok (h : H) (a b x y : Int) (sv : V) (hs : SlC h (iVs [x, y]) 2 sv) : CallOk Try.prog 82 [.int .i64 a, .int .i64 b, sv] h (.bool (decide ((a ≤ x ∧ x ≤ b) ∧ a ≤ y ∧ y ≤ b))) h := by
  have := within64_ok h a b [x, y] sv (by simp) hs
  unfold wi at this
  have e : decide ((a ≤ x ∧ x ≤ b) ∧ a ≤ y ∧ y ≤ b) = (decide (a ≤ x ∧ x ≤ b) && decide (a ≤ y ∧ y ≤ b)) := by simp
  rw [e]
  simpa using this
end Go.Proofs.Q

namespace Go.Proofs.Q
open Go.As
set_option maxRecDepth 20000
set_option linter.unusedVariables false
set_option linter.unusedSimpArgs false

/-! ### Which marks are marks of a text -/

def prv (s : Nat → Int) : Nat → Int
  | 0 => -1
  | i + 1 => s i
def stOk (tn : Nat) (s : Nat → Int) (i : Nat) : Bool := decide (prv s i < s i ∧ s i < tn)
def stB (tn n : Nat) (s : Nat → Int) : Bool := allF n (stOk tn s)
theorem prv_lo {tn : Nat} {s : Nat → Int} : ∀ {i : Nat}, (∀ k, k < i → stOk tn s k = true) → -1 ≤ prv s i ∧ prv s i < (tn : Int) ∨ i = 0
  | 0, _ => .inr rfl
  | i + 1, h => by
    have h1 := of_decide_eq_true (h i (by omega))
    have h2 := prv_lo (i := i) (fun k hk => h k (by omega))
    show -1 ≤ s i ∧ s i < (tn : Int) ∨ _
    rcases h2 with h2 | rfl
    · exact .inl ⟨by omega, by omega⟩
    · exact .inl ⟨by have : prv s 0 = -1 := rfl; omega, by omega⟩
theorem prv_rng {tn : Nat} {s : Nat → Int} {i : Nat} (h : ∀ k, k < i → stOk tn s k = true) : -1 ≤ prv s i ∧ prv s i < (tn : Int) := by
  rcases prv_lo h with h | rfl
  · omega
  · show -1 ≤ (-1 : Int) ∧ (-1 : Int) < (tn : Int); omega
theorem areLetters_ok (h : H) (T : List UInt8) (n : Nat) (s : Nat → Int) (ex : Bool) (hT : T.length ≤ 9223372036854775807) (hn : n ≤ 9223372036854775807) : CallOk Try.prog 83 [tx T, .rsl ex 1 n (iG s)] h (.bool (stB T.length n s)) h := by
  have kW := fun h' a b x sv hs => within1_ok h' a b x sv hs
  refine CallOk.run0 Try.func83 rfl rfl rfl rfl rfl (WpR.of_vc ?_)
  have hp := @prv_rng T.length s
  have hp0 : prv s 0 = -1 := rfl
  have hps : ∀ i, prv s (i + 1) = s i := fun i => rfl
  have hst : ∀ i, stOk T.length s i = decide (prv s i < s i ∧ s i < (T.length : Int)) := fun i => rfl
  generalize hpv : prv s = pv at *
  generalize hP : stOk T.length s = P at *
  (conv => whnf); (repeat' (first | ((with_reducible refine ifb_mk (fun hc => ?_) (fun hc => ?_)) <;> ((try simp only [decide_eq_true_eq, decide_eq_false_iff_not, Bool.not_eq_true', Bool.not_eq_false', Int.not_lt, Int.not_le, ne_eq, Decidable.not_not, beq_iff_eq, List.cons.injEq, and_true] at hc); (first | (exfalso; omega) | exact absurd True.intro hc | conv => whnf))) | ((with_reducible refine And.intro True.intro ?_); conv => whnf) | ((with_reducible refine And.intro ?hh ?_); (case hh => exact condA); conv => whnf) | fail))
  refine WpR.loopA (ι := Nat × Int) [] [0, 1, 8, 9] [] [] 0 (fun p => [(10, .int .i64 p.1), (5, .int .i64 p.2)]) (fun _ => []) (fun p => n - p.1) (fun p => p.1 ≤ n ∧ p.2 = pv p.1 ∧ ∀ j, j < p.1 → P j = true) ?_ ((0, -1)) (⟨Nat.zero_le _, hp0.symm, fun j hj => by omega⟩) [] Back.auto
  rintro ⟨i, b⟩ ⟨h1, hb, hQ⟩
  dsimp only at h1 hb hQ
  refine WpR.of_vc ?_
  by_cases hi : i < n
  · have hr := hp (i := i) hQ
    rw [← hb] at hr
    cases ht : P i with
    | true =>
      have ht' : pv i < s i ∧ s i < (T.length : Int) := of_decide_eq_true ((hst i).symm.trans ht)
      rw [← hb] at ht'
      have hw : decide (b + 1 ≤ s i ∧ s i ≤ (T.length : Int) - 1) = true := decide_eq_true (by omega)
      have kW2 := fun h' sv hs => (hw ▸ kW h' (b + 1) ((T.length : Int) - 1) (s i) sv hs)
      (conv => whnf); (repeat' (first | ((with_reducible refine ifb_mk (fun hc => ?_) (fun hc => ?_)) <;> ((try simp only [decide_eq_true_eq, decide_eq_false_iff_not, Bool.not_eq_true', Bool.not_eq_false', Int.not_lt, Int.not_le, ne_eq, Decidable.not_not, beq_iff_eq, List.cons.injEq, and_true] at hc); (first | (exfalso; omega) | exact absurd True.intro hc | conv => whnf))) | ((with_reducible refine And.intro True.intro ?_); conv => whnf) | ((with_reducible refine grd_and ?_); refine And.intro (hi) ?_; conv => whnf) | ((with_reducible refine CallX.all ?_); refine CallW.of_ok (kW2 _ _ (SlC.own rfl)) ?_; conv => whnf) | ((with_reducible refine And.intro ?hh ?_); (case hh => exact condA); conv => whnf) | fail))
      exact ⟨(i + 1, s i), [], by dsimp only; omega, ⟨by dsimp only; omega, (hps i).symm, below_succ hQ ht⟩, Back.auto⟩
    | false =>
      have ht' : ¬ (pv i < s i ∧ s i < (T.length : Int)) := of_decide_eq_false ((hst i).symm.trans ht)
      rw [← hb] at ht'
      have e : stB T.length n s = false := by unfold stB; rw [hP]; exact allF_f hi ht
      rw [e]
      have hw : decide (b + 1 ≤ s i ∧ s i ≤ (T.length : Int) - 1) = false := decide_eq_false (by omega)
      have kW2 := fun h' sv hs => (hw ▸ kW h' (b + 1) ((T.length : Int) - 1) (s i) sv hs)
      (conv => whnf); (repeat' (first | ((with_reducible refine ifb_mk (fun hc => ?_) (fun hc => ?_)) <;> ((try simp only [decide_eq_true_eq, decide_eq_false_iff_not, Bool.not_eq_true', Bool.not_eq_false', Int.not_lt, Int.not_le, ne_eq, Decidable.not_not, beq_iff_eq, List.cons.injEq, and_true] at hc); (first | (exfalso; omega) | exact absurd True.intro hc | conv => whnf))) | ((with_reducible refine And.intro True.intro ?_); conv => whnf) | ((with_reducible refine grd_and ?_); refine And.intro (hi) ?_; conv => whnf) | ((with_reducible refine CallX.all ?_); refine CallW.of_ok (kW2 _ _ (SlC.own rfl)) ?_; conv => whnf) | ((with_reducible refine And.intro ?hh ?_); (case hh => exact condA); conv => whnf) | fail))
      (refine ⟨[], ?_, rfl, rfl, trivial, trivs⟩; simp only [renV, renL]; (first | done | rfl | (simp; done) | (simp; omega) | grind))
  · (conv => whnf); (repeat' (first | ((with_reducible refine ifb_mk (fun hc => ?_) (fun hc => ?_)) <;> ((try simp only [decide_eq_true_eq, decide_eq_false_iff_not, Bool.not_eq_true', Bool.not_eq_false', Int.not_lt, Int.not_le, ne_eq, Decidable.not_not, beq_iff_eq, List.cons.injEq, and_true] at hc); (first | (exfalso; omega) | exact absurd True.intro hc | conv => whnf))) | ((with_reducible refine And.intro True.intro ?_); conv => whnf) | ((with_reducible refine And.intro ?hh ?_); (case hh => exact condA); conv => whnf) | fail))
    have e : stB T.length n s = true := by unfold stB; rw [hP]; exact allF_t fun j hj => hQ j (by omega)
    rw [e]
    (refine ⟨[], ?_, rfl, rfl, trivial, trivs⟩; simp only [renV, renL]; (first | done | rfl | (simp; done) | (simp; omega) | grind))

/-- CheckMarks: the error. -/
def ckM (tn n : Nat) (s : Nat → Int) (k : Nat) (A : Nat → List UInt8) : Int := if tn ≤ 12 then (if k = tn + 1 then (if allT k A = true then (if stB tn n s = true then 0 else 3) else 7) else 15) else 7
theorem ckM_n {tn n : Nat} {s : Nat → Int} {k : Nat} {A : Nat → List UInt8} (h : ckM tn n s k A = 0) : tn ≤ 12 ∧ k = tn + 1 ∧ allT k A = true ∧ stB tn n s = true := by
  unfold ckM at h
  (repeat' split at h) <;> first | (cases h; done) | skip
  exact ⟨by assumption, by assumption, by assumption, by assumption⟩
def zeroPage : V := .agg [.nils, .nils, tx []]
set_option maxHeartbeats 1000000 in
theorem pageFor_err (h : H) (T : List UInt8) (n : Nat) (s : Nat → Int) (k : Nat) (A : Nat → List UInt8) (x1 x2 : Bool) (hT : T.length ≤ 9223372036854775806) (hn : n ≤ 9223372036854775807) (hk : k ≤ 9223372036854775807) (hc : ckM T.length n s k A ≠ 0) :
    CallOk Try.prog 54 [tx T, marksV n s k A x1 x2] h (.tup [zeroPage, .int .i64 (ckM T.length n s k A)]) h := by
  have k1 := fun h' sv hs => areTexts1_ok h' T sv hs
  have k2 := fun h' => areTextsR_ok h' k A x2 hk
  have k3 := fun h' => areLetters_ok h' T n s x1 (by omega) hn
  revert hc
  unfold ckM
  generalize allT k A = z2 at *
  generalize stB T.length n s = z3 at *
  intro hz
  refine CallOk.run0 Try.func54 rfl rfl rfl rfl rfl (WpR.of_vc ?_)
  by_cases h1 : T.length ≤ 12
  · rw [if_pos h1] at *
    rw [decide_eq_true h1] at k1
    by_cases h2 : k = T.length + 1
    · rw [if_pos h2] at *
      cases z2 with
      | true =>
        rw [if_pos rfl] at *
        cases z3 with
        | true => rw [if_pos rfl] at hz; exact absurd rfl hz
        | false =>
          rw [if_neg (by decide)]
          (conv => whnf); (repeat' (first | ((with_reducible refine ifb_mk (fun hc => ?_) (fun hc => ?_)) <;> ((try simp only [decide_eq_true_eq, decide_eq_false_iff_not, Bool.not_eq_true', Bool.not_eq_false', Int.not_lt, Int.not_le, ne_eq, Decidable.not_not, beq_iff_eq, List.cons.injEq, and_true] at hc); (first | (exfalso; omega) | exact absurd True.intro hc | conv => whnf))) | ((with_reducible refine And.intro True.intro ?_); conv => whnf) | ((with_reducible refine CallX.all ?_); refine CallW.of_ok (k1 _ _ (SlC.own rfl)) ?_; conv => whnf) | ((with_reducible refine CallX.all ?_); refine CallW.of_ok (k2 _) ?_; conv => whnf) | ((with_reducible refine CallX.all ?_); refine CallW.of_ok (k3 _) ?_; conv => whnf) | ((with_reducible refine And.intro ?hh ?_); (case hh => exact condA); conv => whnf) | fail))
          all_goals first | (refine ⟨[], ?_, rfl, rfl, trivial, trivs⟩; simp only [renV, renL]; (first | done | rfl | (simp; done) | (simp; omega) | grind)) | (exfalso; omega)
      | false =>
        rw [if_neg (by decide)]
        (conv => whnf); (repeat' (first | ((with_reducible refine ifb_mk (fun hc => ?_) (fun hc => ?_)) <;> ((try simp only [decide_eq_true_eq, decide_eq_false_iff_not, Bool.not_eq_true', Bool.not_eq_false', Int.not_lt, Int.not_le, ne_eq, Decidable.not_not, beq_iff_eq, List.cons.injEq, and_true] at hc); (first | (exfalso; omega) | exact absurd True.intro hc | conv => whnf))) | ((with_reducible refine And.intro True.intro ?_); conv => whnf) | ((with_reducible refine CallX.all ?_); refine CallW.of_ok (k1 _ _ (SlC.own rfl)) ?_; conv => whnf) | ((with_reducible refine CallX.all ?_); refine CallW.of_ok (k2 _) ?_; conv => whnf) | ((with_reducible refine CallX.all ?_); refine CallW.of_ok (k3 _) ?_; conv => whnf) | ((with_reducible refine And.intro ?hh ?_); (case hh => exact condA); conv => whnf) | fail))
        all_goals first | (refine ⟨[], ?_, rfl, rfl, trivial, trivs⟩; simp only [renV, renL]; (first | done | rfl | (simp; done) | (simp; omega) | grind)) | (exfalso; omega)
    · rw [if_neg h2]
      (conv => whnf); (repeat' (first | ((with_reducible refine ifb_mk (fun hc => ?_) (fun hc => ?_)) <;> ((try simp only [decide_eq_true_eq, decide_eq_false_iff_not, Bool.not_eq_true', Bool.not_eq_false', Int.not_lt, Int.not_le, ne_eq, Decidable.not_not, beq_iff_eq, List.cons.injEq, and_true] at hc); (first | (exfalso; omega) | exact absurd True.intro hc | conv => whnf))) | ((with_reducible refine And.intro True.intro ?_); conv => whnf) | ((with_reducible refine CallX.all ?_); refine CallW.of_ok (k1 _ _ (SlC.own rfl)) ?_; conv => whnf) | ((with_reducible refine CallX.all ?_); refine CallW.of_ok (k2 _) ?_; conv => whnf) | ((with_reducible refine CallX.all ?_); refine CallW.of_ok (k3 _) ?_; conv => whnf) | ((with_reducible refine And.intro ?hh ?_); (case hh => exact condA); conv => whnf) | fail))
      all_goals first | (refine ⟨[], ?_, rfl, rfl, trivial, trivs⟩; simp only [renV, renL]; (first | done | rfl | (simp; done) | (simp; omega) | grind)) | (exfalso; omega)
  · rw [if_neg h1]
    rw [decide_eq_false h1] at k1
    (conv => whnf); (repeat' (first | ((with_reducible refine ifb_mk (fun hc => ?_) (fun hc => ?_)) <;> ((try simp only [decide_eq_true_eq, decide_eq_false_iff_not, Bool.not_eq_true', Bool.not_eq_false', Int.not_lt, Int.not_le, ne_eq, Decidable.not_not, beq_iff_eq, List.cons.injEq, and_true] at hc); (first | (exfalso; omega) | exact absurd True.intro hc | conv => whnf))) | ((with_reducible refine And.intro True.intro ?_); conv => whnf) | ((with_reducible refine CallX.all ?_); refine CallW.of_ok (k1 _ _ (SlC.own rfl)) ?_; conv => whnf) | ((with_reducible refine CallX.all ?_); refine CallW.of_ok (k2 _) ?_; conv => whnf) | ((with_reducible refine CallX.all ?_); refine CallW.of_ok (k3 _) ?_; conv => whnf) | ((with_reducible refine And.intro ?hh ?_); (case hh => exact condA); conv => whnf) | fail))
    all_goals first | (refine ⟨[], ?_, rfl, rfl, trivial, trivs⟩; simp only [renV, renL]; (first | done | rfl | (simp; done) | (simp; omega) | grind)) | (exfalso; omega)
set_option maxHeartbeats 1000000 in
theorem pageFor_ok (h : H) (T : List UInt8) (n : Nat) (s : Nat → Int) (k : Nat) (A : Nat → List UInt8) (x1 x2 : Bool) (hn : n ≤ 9223372036854775807) (hc : ckM T.length n s k A = 0) :
    CallOk Try.prog 54 [tx T, marksV n s k A x1 x2] h (.tup [pageV n s k A x1 x2 T, .int .i64 0]) h := by
  obtain ⟨h1, h2, h3, h4⟩ := ckM_n hc
  clear hc
  have k1 := fun h' sv hs => areTexts1_ok h' T sv hs
  have k2 := fun h' => areTextsR_ok h' k A x2 (by omega)
  have k3 := fun h' => areLetters_ok h' T n s x1 (by omega) hn
  rw [h3] at k2
  rw [h4] at k3
  rw [decide_eq_true h1] at k1
  refine CallOk.run0 Try.func54 rfl rfl rfl rfl rfl (WpR.of_vc ?_)
  (conv => whnf); (repeat' (first | ((with_reducible refine ifb_mk (fun hc => ?_) (fun hc => ?_)) <;> ((try simp only [decide_eq_true_eq, decide_eq_false_iff_not, Bool.not_eq_true', Bool.not_eq_false', Int.not_lt, Int.not_le, ne_eq, Decidable.not_not, beq_iff_eq, List.cons.injEq, and_true] at hc); (first | (exfalso; omega) | exact absurd True.intro hc | conv => whnf))) | ((with_reducible refine And.intro True.intro ?_); conv => whnf) | ((with_reducible refine CallX.all ?_); refine CallW.of_ok (k1 _ _ (SlC.own rfl)) ?_; conv => whnf) | ((with_reducible refine CallX.all ?_); refine CallW.of_ok (k2 _) ?_; conv => whnf) | ((with_reducible refine CallX.all ?_); refine CallW.of_ok (k3 _) ?_; conv => whnf) | ((with_reducible refine And.intro ?hh ?_); (case hh => exact condA); conv => whnf) | fail))
  all_goals first | (refine ⟨[], ?_, rfl, rfl, trivial, trivs⟩; simp only [renV, renL]; (first | done | rfl | (simp; done) | (simp; omega) | grind)) | (exfalso; omega)

theorem checkMarks_ok (h : H) (T : List UInt8) (n : Nat) (s : Nat → Int) (k : Nat) (A : Nat → List UInt8) (x1 x2 : Bool) (hT : T.length ≤ 9223372036854775806) (hn : n ≤ 9223372036854775807) (hk : k ≤ 9223372036854775807) :
    CallOk Try.prog 24 [tx T, marksV n s k A x1 x2] h (.int .i64 (ckM T.length n s k A)) h := by
  by_cases hc : ckM T.length n s k A = 0
  · have k1 := fun h' => pageFor_ok h' T n s k A x1 x2 hn hc
    rw [hc]
    refine CallOk.run0 Try.func24 rfl rfl rfl rfl rfl (WpR.of_vc ?_)
    (conv => whnf); (repeat' (first | ((with_reducible refine ifb_mk (fun hc => ?_) (fun hc => ?_)) <;> ((try simp only [decide_eq_true_eq, decide_eq_false_iff_not, Bool.not_eq_true', Bool.not_eq_false', Int.not_lt, Int.not_le, ne_eq, Decidable.not_not, beq_iff_eq, List.cons.injEq, and_true] at hc); (first | (exfalso; omega) | exact absurd True.intro hc | conv => whnf))) | ((with_reducible refine And.intro True.intro ?_); conv => whnf) | ((with_reducible refine CallX.all ?_); refine CallW.of_ok (k1 _) ?_; conv => whnf) | ((with_reducible refine And.intro ?hh ?_); (case hh => exact condA); conv => whnf) | fail))
    (refine ⟨[], ?_, rfl, rfl, trivial, trivs⟩; simp only [renV, renL]; (first | done | rfl | (simp; done) | (simp; omega) | grind))
  · have k1 := fun h' => pageFor_err h' T n s k A x1 x2 hT hn hk hc
    generalize ckM T.length n s k A = e at *
    refine CallOk.run0 Try.func24 rfl rfl rfl rfl rfl (WpR.of_vc ?_)
    (conv => whnf); (repeat' (first | ((with_reducible refine ifb_mk (fun hc => ?_) (fun hc => ?_)) <;> ((try simp only [decide_eq_true_eq, decide_eq_false_iff_not, Bool.not_eq_true', Bool.not_eq_false', Int.not_lt, Int.not_le, ne_eq, Decidable.not_not, beq_iff_eq, List.cons.injEq, and_true] at hc); (first | (exfalso; omega) | exact absurd True.intro hc | conv => whnf))) | ((with_reducible refine And.intro True.intro ?_); conv => whnf) | ((with_reducible refine CallX.all ?_); refine CallW.of_ok (k1 _) ?_; conv => whnf) | ((with_reducible refine And.intro ?hh ?_); (case hh => exact condA); conv => whnf) | fail))
    (refine ⟨[], ?_, rfl, rfl, trivial, trivs⟩; simp only [renV, renL]; (first | done | rfl | (simp; done) | (simp; omega) | grind))

/-! The definitions' side -/
theorem checkTextR_ok (h : H) (T : List UInt8) : CallOk Try.prog 49 [tx T] h (.int .i64 (if T.length ≤ 12 then 0 else 7)) h := by
  refine CallOk.run0 Try.func49 rfl rfl rfl rfl rfl (WpR.of_vc ?_)
  (conv => whnf); (repeat' (first | ((with_reducible refine ifb_mk (fun hc => ?_) (fun hc => ?_)) <;> ((try simp only [decide_eq_true_eq, decide_eq_false_iff_not, Bool.not_eq_true', Bool.not_eq_false', Int.not_lt, Int.not_le, ne_eq, Decidable.not_not, beq_iff_eq, List.cons.injEq, and_true] at hc); (first | (exfalso; omega) | exact absurd True.intro hc | conv => whnf))) | ((with_reducible refine And.intro True.intro ?_); conv => whnf) | ((with_reducible refine And.intro ?hh ?_); (case hh => exact condA); conv => whnf) | fail))
  all_goals first | (rw [if_neg (by omega)]; (refine ⟨[], ?_, rfl, rfl, trivial, trivs⟩; simp only [renV, renL]; (first | done | rfl | (simp; done) | (simp; omega) | grind))) | (rw [if_pos (by omega)]; (refine ⟨[], ?_, rfl, rfl, trivial, trivs⟩; simp only [renV, renL]; (first | done | rfl | (simp; done) | (simp; omega) | grind)))
set_option maxHeartbeats 2000000 in
theorem checkMarksR_ok (h : H) (T : List UInt8) (n : Nat) (s : Nat → Int) (k : Nat) (A : Nat → List UInt8) (x1 x2 : Bool) (hT : T.length ≤ 9223372036854775806) (hn : n ≤ 9223372036854775807) (hk : k ≤ 9223372036854775807) :
    CallOk Try.prog 25 [tx T, marksV n s k A x1 x2] h (.int .i64 (ckM T.length n s k A)) h := by
  have k1 := fun h' => checkTextR_ok h' T
  have hst : ∀ i, stOk T.length s i = decide (prv s i < s i ∧ s i < (T.length : Int)) := fun i => rfl
  have hp := @prv_rng T.length s
  have hp0 : prv s 0 = -1 := rfl
  have hps : ∀ i, prv s (i + 1) = s i := fun i => rfl
  unfold ckM allT stB
  generalize stOk T.length s = P at *
  generalize prv s = pv at *
  refine CallOk.run0 Try.func25 rfl rfl rfl rfl rfl (WpR.of_vc ?_)
  by_cases h1 : T.length ≤ 12
  · rw [if_pos h1] at *
    by_cases h2 : k = T.length + 1
    · rw [if_pos h2]
      (conv => whnf); (repeat' (first | ((with_reducible refine ifb_mk (fun hc => ?_) (fun hc => ?_)) <;> ((try simp only [decide_eq_true_eq, decide_eq_false_iff_not, Bool.not_eq_true', Bool.not_eq_false', Int.not_lt, Int.not_le, ne_eq, Decidable.not_not, beq_iff_eq, List.cons.injEq, and_true] at hc); (first | (exfalso; omega) | exact absurd True.intro hc | conv => whnf))) | ((with_reducible refine And.intro True.intro ?_); conv => whnf) | ((with_reducible refine CallX.all ?_); refine CallW.of_ok (k1 _) ?_; conv => whnf) | ((with_reducible refine And.intro ?hh ?_); (case hh => exact condA); conv => whnf) | fail))
      refine WpR.loopA (ι := Nat) [] [0, 3] [] [] 1 (fun i => [(5, .int .i64 i)]) (fun _ => []) (fun i => k - i) (fun i => i ≤ k ∧ ∀ j, j < i → t12 (A j) = true) ?_ (0) (⟨Nat.zero_le _, fun j hj => by omega⟩) [] Back.auto
      rintro i ⟨j1, hQ⟩
      refine WpR.of_vc ?_
      by_cases hi : i < k
      · cases ht : t12 (A i) with
        | true =>
          have ht' : (A i).length ≤ 12 := of_decide_eq_true ht
          (conv => whnf); (repeat' (first | ((with_reducible refine ifb_mk (fun hc => ?_) (fun hc => ?_)) <;> ((try simp only [decide_eq_true_eq, decide_eq_false_iff_not, Bool.not_eq_true', Bool.not_eq_false', Int.not_lt, Int.not_le, ne_eq, Decidable.not_not, beq_iff_eq, List.cons.injEq, and_true] at hc); (first | (exfalso; omega) | exact absurd True.intro hc | conv => whnf))) | ((with_reducible refine And.intro True.intro ?_); conv => whnf) | ((with_reducible refine grd_and ?_); refine And.intro (hi) ?_; conv => whnf) | ((with_reducible refine And.intro ?hh ?_); (case hh => exact condA); conv => whnf) | fail))
          exact ⟨i + 1, [], by omega, ⟨by omega, below_succ hQ ht⟩, Back.auto⟩
        | false =>
          have ht' : ¬ (A i).length ≤ 12 := of_decide_eq_false ht
          rw [if_neg (by rw [allF_f (p := fun i => t12 (A i)) hi ht]; decide)]
          (conv => whnf); (repeat' (first | ((with_reducible refine ifb_mk (fun hc => ?_) (fun hc => ?_)) <;> ((try simp only [decide_eq_true_eq, decide_eq_false_iff_not, Bool.not_eq_true', Bool.not_eq_false', Int.not_lt, Int.not_le, ne_eq, Decidable.not_not, beq_iff_eq, List.cons.injEq, and_true] at hc); (first | (exfalso; omega) | exact absurd True.intro hc | conv => whnf))) | ((with_reducible refine And.intro True.intro ?_); conv => whnf) | ((with_reducible refine grd_and ?_); refine And.intro (hi) ?_; conv => whnf) | ((with_reducible refine And.intro ?hh ?_); (case hh => exact condA); conv => whnf) | fail))
          (refine ⟨[], ?_, rfl, rfl, trivial, trivs⟩; simp only [renV, renL]; (first | done | rfl | (simp; done) | (simp; omega) | grind))
      · rw [if_pos (allF_t fun j hj => hQ j (by omega))]
        (conv => whnf); (repeat' (first | ((with_reducible refine ifb_mk (fun hc => ?_) (fun hc => ?_)) <;> ((try simp only [decide_eq_true_eq, decide_eq_false_iff_not, Bool.not_eq_true', Bool.not_eq_false', Int.not_lt, Int.not_le, ne_eq, Decidable.not_not, beq_iff_eq, List.cons.injEq, and_true] at hc); (first | (exfalso; omega) | exact absurd True.intro hc | conv => whnf))) | ((with_reducible refine And.intro True.intro ?_); conv => whnf) | ((with_reducible refine And.intro ?hh ?_); (case hh => exact condA); conv => whnf) | fail))
        refine WpR.loopA (ι := Nat) [] [0, 3] [] [] 1 (fun i => [(6, .int .i64 i)]) (fun _ => []) (fun i => n - i) (fun i => i ≤ n ∧ ∀ j, j < i → P j = true) ?_ (0) (⟨Nat.zero_le _, fun j hj => by omega⟩) [] Back.auto
        rintro i ⟨j1, hQ⟩
        refine WpR.of_vc ?_
        by_cases hi : i < n
        · have hr := hp (i := i) hQ
          cases ht : P i with
          | true =>
            have ht' : pv i < s i ∧ s i < (T.length : Int) := of_decide_eq_true ((hst i).symm.trans ht)
            cases i with
            | zero =>
              (conv => whnf); (repeat' (first | ((with_reducible refine ifb_mk (fun hc => ?_) (fun hc => ?_)) <;> ((try simp only [decide_eq_true_eq, decide_eq_false_iff_not, Bool.not_eq_true', Bool.not_eq_false', Int.not_lt, Int.not_le, ne_eq, Decidable.not_not, beq_iff_eq, List.cons.injEq, and_true] at hc); (first | (exfalso; omega) | exact absurd True.intro hc | conv => whnf))) | ((with_reducible refine And.intro True.intro ?_); conv => whnf) | ((with_reducible refine grd_and ?_); refine And.intro (hi) ?_; conv => whnf) | ((with_reducible refine WpR.draw (id := 13) mixed [0, 1, 2, 3, 4, 5, 6, 7, 8, 9, 10, 11, 12, 13, 14, 15, 16, 17, 18, 19, 20, 21, 22, 23, 24, 25, 26, 27, 28, 29, 30, 31, 32, 33] [0, 1, 0, 7, 15, 31, 63, 127, 255, 127, 1023, 2047, 127, 4223, 16383, 32767, 65535, 131071, 262143, 524287, 1048575, 2097151, 1048575, 8388607, 16777215, 1048575, 34603007, 1048575, 135266303, 504365055, 1041235967, 2147483647, 4294967295, 8589934591] ?hh ?_); (case hh => kernel_rfl); conv => whnf) | ((with_reducible refine And.intro ?hh ?_); (case hh => exact condA); conv => whnf) | fail))
              all_goals first | (exfalso; omega) | (exact ⟨0 + 1, [], by omega, ⟨by omega, below_succ hQ ht⟩, Back.auto⟩)
            | succ i =>
              rw [hps] at ht' hr
              (conv => whnf); (repeat' (first | ((with_reducible refine ifb_mk (fun hc => ?_) (fun hc => ?_)) <;> ((try simp only [decide_eq_true_eq, decide_eq_false_iff_not, Bool.not_eq_true', Bool.not_eq_false', Int.not_lt, Int.not_le, ne_eq, Decidable.not_not, beq_iff_eq, List.cons.injEq, and_true] at hc); (first | (exfalso; omega) | exact absurd True.intro hc | conv => whnf))) | ((with_reducible refine And.intro True.intro ?_); conv => whnf) | ((with_reducible refine grd_and ?_); refine And.intro (hi) ?_; conv => whnf) | ((with_reducible refine WpR.draw (id := 13) mixed [0, 1, 2, 3, 4, 5, 6, 7, 8, 9, 10, 11, 12, 13, 14, 15, 16, 17, 18, 19, 20, 21, 22, 23, 24, 25, 26, 27, 28, 29, 30, 31, 32, 33] [0, 1, 0, 7, 15, 31, 63, 127, 255, 127, 1023, 2047, 127, 4223, 16383, 32767, 65535, 131071, 262143, 524287, 1048575, 2097151, 1048575, 8388607, 16777215, 1048575, 34603007, 1048575, 135266303, 504365055, 1041235967, 2147483647, 4294967295, 8589934591] ?hh ?_); (case hh => kernel_rfl); conv => whnf) | ((with_reducible refine idxP_mk (k := i) ?hh ?_); (case hh => omega); conv => whnf) | ((with_reducible refine And.intro ?hh ?_); (case hh => exact condA); conv => whnf) | fail))
              all_goals first | (exfalso; omega) | (exact ⟨i + 1 + 1, [], by omega, ⟨by omega, below_succ hQ ht⟩, Back.auto⟩)
          | false =>
            have ht' : ¬ (pv i < s i ∧ s i < (T.length : Int)) := of_decide_eq_false ((hst i).symm.trans ht)
            rw [if_neg (by rw [allF_f hi ht]; decide)]
            cases i with
            | zero =>
              (conv => whnf); (repeat' (first | ((with_reducible refine ifb_mk (fun hc => ?_) (fun hc => ?_)) <;> ((try simp only [decide_eq_true_eq, decide_eq_false_iff_not, Bool.not_eq_true', Bool.not_eq_false', Int.not_lt, Int.not_le, ne_eq, Decidable.not_not, beq_iff_eq, List.cons.injEq, and_true] at hc); (first | (exfalso; omega) | exact absurd True.intro hc | conv => whnf))) | ((with_reducible refine And.intro True.intro ?_); conv => whnf) | ((with_reducible refine grd_and ?_); refine And.intro (hi) ?_; conv => whnf) | ((with_reducible refine WpR.draw (id := 13) mixed [0, 1, 2, 3, 4, 5, 6, 7, 8, 9, 10, 11, 12, 13, 14, 15, 16, 17, 18, 19, 20, 21, 22, 23, 24, 25, 26, 27, 28, 29, 30, 31, 32, 33] [0, 1, 0, 7, 15, 31, 63, 127, 255, 127, 1023, 2047, 127, 4223, 16383, 32767, 65535, 131071, 262143, 524287, 1048575, 2097151, 1048575, 8388607, 16777215, 1048575, 34603007, 1048575, 135266303, 504365055, 1041235967, 2147483647, 4294967295, 8589934591] ?hh ?_); (case hh => kernel_rfl); conv => whnf) | ((with_reducible refine And.intro ?hh ?_); (case hh => exact condA); conv => whnf) | fail))
              all_goals first | (refine ⟨[], ?_, rfl, rfl, trivial, trivs⟩; simp only [renV, renL]; (first | done | rfl | (simp; done) | (simp; omega) | grind)) | (exfalso; omega)
            | succ i =>
              rw [hps] at ht' hr
              (conv => whnf); (repeat' (first | ((with_reducible refine ifb_mk (fun hc => ?_) (fun hc => ?_)) <;> ((try simp only [decide_eq_true_eq, decide_eq_false_iff_not, Bool.not_eq_true', Bool.not_eq_false', Int.not_lt, Int.not_le, ne_eq, Decidable.not_not, beq_iff_eq, List.cons.injEq, and_true] at hc); (first | (exfalso; omega) | exact absurd True.intro hc | conv => whnf))) | ((with_reducible refine And.intro True.intro ?_); conv => whnf) | ((with_reducible refine grd_and ?_); refine And.intro (hi) ?_; conv => whnf) | ((with_reducible refine WpR.draw (id := 13) mixed [0, 1, 2, 3, 4, 5, 6, 7, 8, 9, 10, 11, 12, 13, 14, 15, 16, 17, 18, 19, 20, 21, 22, 23, 24, 25, 26, 27, 28, 29, 30, 31, 32, 33] [0, 1, 0, 7, 15, 31, 63, 127, 255, 127, 1023, 2047, 127, 4223, 16383, 32767, 65535, 131071, 262143, 524287, 1048575, 2097151, 1048575, 8388607, 16777215, 1048575, 34603007, 1048575, 135266303, 504365055, 1041235967, 2147483647, 4294967295, 8589934591] ?hh ?_); (case hh => kernel_rfl); conv => whnf) | ((with_reducible refine idxP_mk (k := i) ?hh ?_); (case hh => omega); conv => whnf) | ((with_reducible refine And.intro ?hh ?_); (case hh => exact condA); conv => whnf) | fail))
              all_goals first | (refine ⟨[], ?_, rfl, rfl, trivial, trivs⟩; simp only [renV, renL]; (first | done | rfl | (simp; done) | (simp; omega) | grind)) | (exfalso; omega)
        · (conv => whnf); (repeat' (first | ((with_reducible refine ifb_mk (fun hc => ?_) (fun hc => ?_)) <;> ((try simp only [decide_eq_true_eq, decide_eq_false_iff_not, Bool.not_eq_true', Bool.not_eq_false', Int.not_lt, Int.not_le, ne_eq, Decidable.not_not, beq_iff_eq, List.cons.injEq, and_true] at hc); (first | (exfalso; omega) | exact absurd True.intro hc | conv => whnf))) | ((with_reducible refine And.intro True.intro ?_); conv => whnf) | ((with_reducible refine And.intro ?hh ?_); (case hh => exact condA); conv => whnf) | fail))
          rw [if_pos (allF_t fun j hj => hQ j (by omega))]
          (refine ⟨[], ?_, rfl, rfl, trivial, trivs⟩; simp only [renV, renL]; (first | done | rfl | (simp; done) | (simp; omega) | grind))
    · rw [if_neg h2]
      (conv => whnf); (repeat' (first | ((with_reducible refine ifb_mk (fun hc => ?_) (fun hc => ?_)) <;> ((try simp only [decide_eq_true_eq, decide_eq_false_iff_not, Bool.not_eq_true', Bool.not_eq_false', Int.not_lt, Int.not_le, ne_eq, Decidable.not_not, beq_iff_eq, List.cons.injEq, and_true] at hc); (first | (exfalso; omega) | exact absurd True.intro hc | conv => whnf))) | ((with_reducible refine And.intro True.intro ?_); conv => whnf) | ((with_reducible refine CallX.all ?_); refine CallW.of_ok (k1 _) ?_; conv => whnf) | ((with_reducible refine And.intro ?hh ?_); (case hh => exact condA); conv => whnf) | fail))
      all_goals first | (refine ⟨[], ?_, rfl, rfl, trivial, trivs⟩; simp only [renV, renL]; (first | done | rfl | (simp; done) | (simp; omega) | grind)) | (exfalso; omega)
  · rw [if_neg h1] at *
    (conv => whnf); (repeat' (first | ((with_reducible refine ifb_mk (fun hc => ?_) (fun hc => ?_)) <;> ((try simp only [decide_eq_true_eq, decide_eq_false_iff_not, Bool.not_eq_true', Bool.not_eq_false', Int.not_lt, Int.not_le, ne_eq, Decidable.not_not, beq_iff_eq, List.cons.injEq, and_true] at hc); (first | (exfalso; omega) | exact absurd True.intro hc | conv => whnf))) | ((with_reducible refine And.intro True.intro ?_); conv => whnf) | ((with_reducible refine CallX.all ?_); refine CallW.of_ok (k1 _) ?_; conv => whnf) | ((with_reducible refine And.intro ?hh ?_); (case hh => exact condA); conv => whnf) | fail))
    all_goals first | (refine ⟨[], ?_, rfl, rfl, trivial, trivs⟩; simp only [renV, renL]; (first | done | rfl | (simp; done) | (simp; omega) | grind)) | (exfalso; omega)
end Go.Proofs.Q

namespace Go.Proofs.Q
open Go.As
set_option maxRecDepth 20000
set_option linter.unusedVariables false
set_option linter.unusedSimpArgs false

/-! ### The marked text -/

def hasB (n : Nat) (s : Nat → Int) (x : Int) : Bool := anyF n fun i => decide (x = s i)
theorem contains_ok (h : H) (n : Nat) (s : Nat → Int) (ex : Bool) (x : Int) (hn : n ≤ 9223372036854775807) : CallOk Try.prog 99 [.rsl ex 1 n (iG s), .int .i64 x] h (.bool (hasB n s x)) h := by
  refine CallOk.run0 Try.func99 rfl rfl rfl rfl rfl (WpR.of_vc ?_)
  (conv => whnf); (repeat' (first | ((with_reducible refine ifb_mk (fun hc => ?_) (fun hc => ?_)) <;> ((try simp only [decide_eq_true_eq, decide_eq_false_iff_not, Bool.not_eq_true', Bool.not_eq_false', Int.not_lt, Int.not_le, ne_eq, Decidable.not_not, beq_iff_eq, List.cons.injEq, and_true] at hc); (first | (exfalso; omega) | exact absurd True.intro hc | conv => whnf))) | ((with_reducible refine And.intro True.intro ?_); conv => whnf) | ((with_reducible refine CallX.all (f := 103) ?_); refine CallW.inline Try.func103 rfl rfl (Nat.le_of_ble_eq_true rfl) (WpR.of_vc ?_); conv => whnf) | ((with_reducible refine And.intro ?hh ?_); (case hh => exact condA); conv => whnf) | fail))
  refine WpR.loopA (ι := Nat) [] [0, 1, 6, 7] [] [] 0 (fun i => [(8, .int .i64 i)]) (fun _ => []) (fun i => n - i) (fun i => i ≤ n ∧ ∀ j, j < i → decide (x = s j) = false) ?_ (0) (⟨Nat.zero_le _, fun j hj => by omega⟩) [] Back.auto
  rintro i ⟨h1, hP⟩
  refine WpR.of_vc ?_
  by_cases hi : i < n
  · by_cases he : x = s i
    · have e : hasB n s x = true := anyF_t hi (decide_eq_true he)
      rw [e]
      (conv => whnf); (repeat' (first | ((with_reducible refine ifb_mk (fun hc => ?_) (fun hc => ?_)) <;> ((try simp only [decide_eq_true_eq, decide_eq_false_iff_not, Bool.not_eq_true', Bool.not_eq_false', Int.not_lt, Int.not_le, ne_eq, Decidable.not_not, beq_iff_eq, List.cons.injEq, and_true] at hc); (first | (exfalso; omega) | exact absurd True.intro hc | conv => whnf))) | ((with_reducible refine And.intro True.intro ?_); conv => whnf) | ((with_reducible refine grd_and ?_); refine And.intro (hi) ?_; conv => whnf) | ((with_reducible refine And.intro ?hh ?_); (case hh => exact condA); conv => whnf) | fail))
      all_goals first | (refine ⟨[], ?_, rfl, rfl, trivial, trivs⟩; simp only [renV, renL]; (first | done | rfl | (simp; done) | (simp; omega) | grind)) | (exfalso; omega)
    · (conv => whnf); (repeat' (first | ((with_reducible refine ifb_mk (fun hc => ?_) (fun hc => ?_)) <;> ((try simp only [decide_eq_true_eq, decide_eq_false_iff_not, Bool.not_eq_true', Bool.not_eq_false', Int.not_lt, Int.not_le, ne_eq, Decidable.not_not, beq_iff_eq, List.cons.injEq, and_true] at hc); (first | (exfalso; omega) | exact absurd True.intro hc | conv => whnf))) | ((with_reducible refine And.intro True.intro ?_); conv => whnf) | ((with_reducible refine grd_and ?_); refine And.intro (hi) ?_; conv => whnf) | ((with_reducible refine And.intro ?hh ?_); (case hh => exact condA); conv => whnf) | fail))
      all_goals first | (exfalso; omega) | (exact ⟨i + 1, [], by omega, ⟨by omega, below_f hP (decide_eq_false he)⟩, Back.auto⟩)
  · have e : hasB n s x = false := anyF_f fun j hj => hP j (by omega)
    rw [e]
    (conv => whnf); (repeat' (first | ((with_reducible refine ifb_mk (fun hc => ?_) (fun hc => ?_)) <;> ((try simp only [decide_eq_true_eq, decide_eq_false_iff_not, Bool.not_eq_true', Bool.not_eq_false', Int.not_lt, Int.not_le, ne_eq, Decidable.not_not, beq_iff_eq, List.cons.injEq, and_true] at hc); (first | (exfalso; omega) | exact absurd True.intro hc | conv => whnf))) | ((with_reducible refine And.intro True.intro ?_); conv => whnf) | ((with_reducible refine And.intro ?hh ?_); (case hh => exact condA); conv => whnf) | fail))
    all_goals first | (refine ⟨[], ?_, rfl, rfl, trivial, trivs⟩; simp only [renV, renL]; (first | done | rfl | (simp; done) | (simp; omega) | grind)) | (exfalso; omega)
theorem has_ok (h : H) (n : Nat) (s : Nat → Int) (ex : Bool) (x : Int) (hn : n ≤ 9223372036854775807) : CallOk Try.prog 51 [.rsl ex 1 n (iG s), .int .i64 x] h (.bool (hasB n s x)) h := by
  refine CallOk.run0 Try.func51 rfl rfl rfl rfl rfl (WpR.of_vc ?_)
  (conv => whnf); (repeat' (first | ((with_reducible refine ifb_mk (fun hc => ?_) (fun hc => ?_)) <;> ((try simp only [decide_eq_true_eq, decide_eq_false_iff_not, Bool.not_eq_true', Bool.not_eq_false', Int.not_lt, Int.not_le, ne_eq, Decidable.not_not, beq_iff_eq, List.cons.injEq, and_true] at hc); (first | (exfalso; omega) | exact absurd True.intro hc | conv => whnf))) | ((with_reducible refine And.intro True.intro ?_); conv => whnf) | ((with_reducible refine And.intro ?hh ?_); (case hh => exact condA); conv => whnf) | fail))
  refine WpR.loopA (ι := Nat) [] [0, 1] [] [] 0 (fun i => [(5, .int .i64 i)]) (fun _ => []) (fun i => n - i) (fun i => i ≤ n ∧ ∀ j, j < i → decide (x = s j) = false) ?_ (0) (⟨Nat.zero_le _, fun j hj => by omega⟩) [] Back.auto
  rintro i ⟨h1, hP⟩
  refine WpR.of_vc ?_
  by_cases hi : i < n
  · by_cases he : x = s i
    · have e : hasB n s x = true := anyF_t hi (decide_eq_true he)
      rw [e]
      (conv => whnf); (repeat' (first | ((with_reducible refine ifb_mk (fun hc => ?_) (fun hc => ?_)) <;> ((try simp only [decide_eq_true_eq, decide_eq_false_iff_not, Bool.not_eq_true', Bool.not_eq_false', Int.not_lt, Int.not_le, ne_eq, Decidable.not_not, beq_iff_eq, List.cons.injEq, and_true] at hc); (first | (exfalso; omega) | exact absurd True.intro hc | conv => whnf))) | ((with_reducible refine And.intro True.intro ?_); conv => whnf) | ((with_reducible refine grd_and ?_); refine And.intro (hi) ?_; conv => whnf) | ((with_reducible refine And.intro ?hh ?_); (case hh => exact condA); conv => whnf) | fail))
      all_goals first | (refine ⟨[], ?_, rfl, rfl, trivial, trivs⟩; simp only [renV, renL]; (first | done | rfl | (simp; done) | (simp; omega) | grind)) | (exfalso; omega)
    · (conv => whnf); (repeat' (first | ((with_reducible refine ifb_mk (fun hc => ?_) (fun hc => ?_)) <;> ((try simp only [decide_eq_true_eq, decide_eq_false_iff_not, Bool.not_eq_true', Bool.not_eq_false', Int.not_lt, Int.not_le, ne_eq, Decidable.not_not, beq_iff_eq, List.cons.injEq, and_true] at hc); (first | (exfalso; omega) | exact absurd True.intro hc | conv => whnf))) | ((with_reducible refine And.intro True.intro ?_); conv => whnf) | ((with_reducible refine grd_and ?_); refine And.intro (hi) ?_; conv => whnf) | ((with_reducible refine And.intro ?hh ?_); (case hh => exact condA); conv => whnf) | fail))
      all_goals first | (exfalso; omega) | (exact ⟨i + 1, [], by omega, ⟨by omega, below_f hP (decide_eq_false he)⟩, Back.auto⟩)
  · have e : hasB n s x = false := anyF_f fun j hj => hP j (by omega)
    rw [e]
    (conv => whnf); (repeat' (first | ((with_reducible refine ifb_mk (fun hc => ?_) (fun hc => ?_)) <;> ((try simp only [decide_eq_true_eq, decide_eq_false_iff_not, Bool.not_eq_true', Bool.not_eq_false', Int.not_lt, Int.not_le, ne_eq, Decidable.not_not, beq_iff_eq, List.cons.injEq, and_true] at hc); (first | (exfalso; omega) | exact absurd True.intro hc | conv => whnf))) | ((with_reducible refine And.intro True.intro ?_); conv => whnf) | ((with_reducible refine And.intro ?hh ?_); (case hh => exact condA); conv => whnf) | fail))
    all_goals first | (refine ⟨[], ?_, rfl, rfl, trivial, trivs⟩; simp only [renV, renL]; (first | done | rfl | (simp; done) | (simp; omega) | grind)) | (exfalso; omega)
theorem leaves_ok (h : H) (n : Nat) (s : Nat → Int) (k : Nat) (A : Nat → List UInt8) (x1 x2 : Bool) (T : List UInt8) (x : Int) (hn : n ≤ 9223372036854775807) :
    CallOk Try.prog 86 [pageV n s k A x1 x2 T, .int .i64 x] h (.bool (!hasB n s x)) h := by
  have k1 := fun h' => contains_ok h' n s x1 x hn
  generalize hasB n s x = z at *
  refine CallOk.run0 Try.func86 rfl rfl rfl rfl rfl (WpR.of_vc ?_)
  (conv => whnf); (repeat' (first | ((with_reducible refine ifb_mk (fun hc => ?_) (fun hc => ?_)) <;> ((try simp only [decide_eq_true_eq, decide_eq_false_iff_not, Bool.not_eq_true', Bool.not_eq_false', Int.not_lt, Int.not_le, ne_eq, Decidable.not_not, beq_iff_eq, List.cons.injEq, and_true] at hc); (first | (exfalso; omega) | exact absurd True.intro hc | conv => whnf))) | ((with_reducible refine And.intro True.intro ?_); conv => whnf) | ((with_reducible refine CallX.all ?_); refine CallW.of_ok (k1 _) ?_; conv => whnf) | ((with_reducible refine And.intro ?hh ?_); (case hh => exact condA); conv => whnf) | fail))
  (refine ⟨[], ?_, rfl, rfl, trivial, trivs⟩; simp only [renV, renL]; (first | done | rfl | (simp; done) | (simp; omega) | grind))

def stF (n : Nat) (s : Nat → Int) (i : Nat) : Bool := hasB n s i
/-- One byte, as a text. -/
def chr (T : List UInt8) (i : Nat) : List UInt8 := (T.drop i).take (i + 1 - i)
theorem chr_len (T : List UInt8) (i : Nat) : (chr T i).length ≤ 1 := by unfold chr; rw [List.length_take]; omega
/-- The marked text up to what is added before a letter; how many bytes are added so far. -/
def rdF (T : List UInt8) (st : Nat → Bool) (A : Nat → List UInt8) : Nat → List UInt8
  | 0 => A 0
  | i + 1 => rdF T st A i ++ (if st i = true then [] else chr T i) ++ A (i + 1)
def lnF (A : Nat → List UInt8) : Nat → Nat
  | 0 => (A 0).length
  | i + 1 => lnF A i + (A (i + 1)).length
theorem lnF_le {A : Nat → List UInt8} {k : Nat} (h : allT k A = true) : ∀ {i : Nat}, i < k → lnF A i ≤ 12 * (i + 1)
  | 0, hi => of_decide_eq_true (allF_iff.1 h 0 hi)
  | i + 1, hi => by
    have h1 := lnF_le h (i := i) (by omega)
    have h2 : (A (i + 1)).length ≤ 12 := of_decide_eq_true (allF_iff.1 h (i + 1) hi)
    show lnF A i + _ ≤ _
    omega
theorem rdF_le {T : List UInt8} {st : Nat → Bool} {A : Nat → List UInt8} : ∀ {i : Nat}, (rdF T st A i).length ≤ lnF A i + i
  | 0 => Nat.le_refl _
  | i + 1 => by
    have h1 := rdF_le (T := T) (st := st) (A := A) (i := i)
    have h2 := chr_len T i
    have h3 : (if st i = true then [] else chr T i).length ≤ 1 := by
      split
      · simp
      · exact h2
    show (rdF T st A i ++ (if st i = true then [] else chr T i) ++ A (i + 1)).length ≤ lnF A i + (A (i + 1)).length + (i + 1)
    rw [List.length_append, List.length_append]
    omega
theorem st_ge {tn n : Nat} {s : Nat → Int} (h : stB tn n s = true) : ∀ {i : Nat}, i < n → (i : Int) ≤ s i
  | 0, hi => by
    have := of_decide_eq_true (allF_iff.1 h 0 hi)
    have h0 : prv s 0 = -1 := rfl
    omega
  | i + 1, hi => by
    have h1 := st_ge h (i := i) (by omega)
    have h2 := of_decide_eq_true (allF_iff.1 h (i + 1) hi)
    have h0 : prv s (i + 1) = s i := rfl
    omega
theorem st_le {tn n : Nat} {s : Nat → Int} (h : stB tn n s = true) : n ≤ tn := by
  cases n with
  | zero => omega
  | succ n =>
    have h1 := st_ge h (i := n) (by omega)
    have h2 := of_decide_eq_true (allF_iff.1 h n (by omega))
    omega
set_option maxHeartbeats 1000000 in
theorem readOf_ok (h : H) (T : List UInt8) (n : Nat) (s : Nat → Int) (k : Nat) (A : Nat → List UInt8) (x1 x2 : Bool) (hc : ckM T.length n s k A = 0) :
    CallOk Try.prog 48 [tx T, marksV n s k A x1 x2] h (.tup [tx (rdF T (stF n s) A T.length), .int .i64 ((n + lnF A T.length : Nat) : Int)]) h := by
  obtain ⟨h1, h2, h3, h4⟩ := ckM_n hc
  have hn := st_le h4
  have kH := fun h' x => has_ok h' n s x1 x (by omega)
  have hl : ∀ i, i < k → lnF A i ≤ 12 * (i + 1) := fun i hi => lnF_le h3 hi
  have hr := fun i => rdF_le (T := T) (st := stF n s) (A := A) (i := i)
  have eh : ∀ i : Nat, hasB n s i = stF n s i := fun i => rfl
  have kH2 := fun h' (i : Nat) => (eh i ▸ kH h' i)
  generalize stF n s = st at *
  have ha : ∀ i, i < k → (A i).length ≤ 12 := fun i hi => of_decide_eq_true (allF_iff.1 h3 i hi)
  have r0 : rdF T st A 0 = A 0 := rfl
  have rs : ∀ i, rdF T st A (i + 1) = rdF T st A i ++ (if st i = true then [] else chr T i) ++ A (i + 1) := fun i => rfl
  have l0 : lnF A 0 = (A 0).length := rfl
  have ls : ∀ i, lnF A (i + 1) = lnF A i + (A (i + 1)).length := fun i => rfl
  have a0 := ha 0 (by omega)
  generalize rdF T st A = R at *
  generalize lnF A = L at *
  have hl0 := hl 0 (by omega)
  refine CallOk.run0 Try.func48 rfl rfl rfl rfl rfl (WpR.of_vc ?_)
  (conv => whnf); (repeat' (first | ((with_reducible refine ifb_mk (fun hc => ?_) (fun hc => ?_)) <;> ((try simp only [decide_eq_true_eq, decide_eq_false_iff_not, Bool.not_eq_true', Bool.not_eq_false', Int.not_lt, Int.not_le, ne_eq, Decidable.not_not, beq_iff_eq, List.cons.injEq, and_true] at hc); (first | (exfalso; omega) | exact absurd True.intro hc | conv => whnf))) | ((with_reducible refine And.intro True.intro ?_); conv => whnf) | ((with_reducible refine WpR.draw (id := 1) mixed [0, 1, 2, 3, 4, 5, 6, 7, 8, 9, 10, 11, 12, 13, 14] [0, 1, 3, 7, 0, 16, 48, 0, 128, 384, 896, 1920, 4080, 15, 16383] ?hh ?_); (case hh => kernel_rfl); conv => whnf) | ((with_reducible refine And.intro ?hh ?_); (case hh => exact condA); conv => whnf) | fail))
  refine WpR.loopA (ι := Nat × List UInt8 × Int) [] [0, 3] [] [] 1 (fun p => [(8, .int .i64 p.1), (6, tx p.2.1), (7, .int .i64 p.2.2)]) (fun _ => []) (fun p => T.length - p.1) (fun p => p.1 ≤ T.length ∧ p.2.1 = R p.1 ∧ p.2.2 = ((n + L p.1 : Nat) : Int)) ?_ ((0, A 0, (n : Int) + ((A 0).length : Int))) (⟨Nat.zero_le _, r0.symm, by dsimp only; omega⟩) [] Back.auto
  rintro ⟨i, r, c⟩ ⟨j1, j2, j3⟩
  dsimp only at j1 j2 j3
  refine WpR.of_vc ?_
  by_cases hi : i < T.length
  · have hl1 := hl i (by omega)
    have ha1 := ha (i + 1) (by omega)
    have hr1 := hr i
    rw [← j2] at hr1
    have hc1 := chr_len T i
    have e1 : ((T.drop i).take (i + 1 - i)).length ≤ 1 := hc1
    cases hz : st i with
    | true =>
      have kH3 := fun h' => (hz ▸ kH2 h' i)
      (conv => whnf); (repeat' (first | ((with_reducible refine ifb_mk (fun hc => ?_) (fun hc => ?_)) <;> ((try simp only [decide_eq_true_eq, decide_eq_false_iff_not, Bool.not_eq_true', Bool.not_eq_false', Int.not_lt, Int.not_le, ne_eq, Decidable.not_not, beq_iff_eq, List.cons.injEq, and_true] at hc); (first | (exfalso; omega) | exact absurd True.intro hc | conv => whnf))) | ((with_reducible refine And.intro True.intro ?_); conv => whnf) | ((with_reducible refine grd_and ?_); refine And.intro (hi) ?_; conv => whnf) | ((with_reducible refine CallX.all ?_); refine CallW.of_ok (kH3 _) ?_; conv => whnf) | ((with_reducible refine And.intro ?hh ?_); (case hh => exact condA); conv => whnf) | fail))
      refine ⟨(i + 1, r ++ A (i + 1), c + ((A (i + 1)).length : Int)), [], by dsimp only; omega, ⟨by dsimp only; omega, ?_, ?_⟩, Back.auto⟩
      · dsimp only; rw [rs, hz, if_pos rfl, List.append_nil, j2]
      · dsimp only; rw [ls, j3]; omega
    | false =>
      have kH3 := fun h' => (hz ▸ kH2 h' i)
      (conv => whnf); (repeat' (first | ((with_reducible refine ifb_mk (fun hc => ?_) (fun hc => ?_)) <;> ((try simp only [decide_eq_true_eq, decide_eq_false_iff_not, Bool.not_eq_true', Bool.not_eq_false', Int.not_lt, Int.not_le, ne_eq, Decidable.not_not, beq_iff_eq, List.cons.injEq, and_true] at hc); (first | (exfalso; omega) | exact absurd True.intro hc | conv => whnf))) | ((with_reducible refine And.intro True.intro ?_); conv => whnf) | ((with_reducible refine grd_and ?_); refine And.intro (hi) ?_; conv => whnf) | ((with_reducible refine CallX.all ?_); refine CallW.of_ok (kH3 _) ?_; conv => whnf) | ((with_reducible refine grd_and ?_); refine And.intro ((by simp only [List.length_append]; omega)) ?_; conv => whnf) | ((with_reducible refine And.intro ?hh ?_); (case hh => exact condA); conv => whnf) | fail))
      refine ⟨(i + 1, r ++ chr T i ++ A (i + 1), c + ((A (i + 1)).length : Int)), [], by dsimp only; omega, ⟨by dsimp only; omega, ?_, ?_⟩, Back.auto⟩
      · dsimp only; rw [rs, hz, if_neg (by decide), j2]
      · dsimp only; rw [ls, j3]; omega
  · have e : i = T.length := by omega
    subst e
    subst j2 j3
    (conv => whnf); (repeat' (first | ((with_reducible refine ifb_mk (fun hc => ?_) (fun hc => ?_)) <;> ((try simp only [decide_eq_true_eq, decide_eq_false_iff_not, Bool.not_eq_true', Bool.not_eq_false', Int.not_lt, Int.not_le, ne_eq, Decidable.not_not, beq_iff_eq, List.cons.injEq, and_true] at hc); (first | (exfalso; omega) | exact absurd True.intro hc | conv => whnf))) | ((with_reducible refine And.intro True.intro ?_); conv => whnf) | ((with_reducible refine And.intro ?hh ?_); (case hh => exact condA); conv => whnf) | fail))
    (refine ⟨[], ?_, rfl, rfl, trivial, trivs⟩; simp only [renV, renL]; (first | done | rfl | (simp; done) | (simp; omega) | grind))
end Go.Proofs.Q

namespace Go.Proofs.Q
open Go.As
set_option maxRecDepth 20000
set_option linter.unusedVariables false
set_option linter.unusedSimpArgs false

/-- The marked text up to what is left of the letters before one. -/
def mkF (T : List UInt8) (st : Nat → Bool) (A : Nat → List UInt8) : Nat → List UInt8
  | 0 => []
  | i + 1 => mkF T st A i ++ A i ++ (if st i = true then [] else chr T i)
theorem mkF_rd (T : List UInt8) (st : Nat → Bool) (A : Nat → List UInt8) : ∀ i, mkF T st A i ++ A i = rdF T st A i
  | 0 => rfl
  | i + 1 => by
    show mkF T st A i ++ A i ++ (if st i = true then [] else chr T i) ++ A (i + 1) = rdF T st A i ++ (if st i = true then [] else chr T i) ++ A (i + 1)
    rw [mkF_rd]
theorem take_s (L : List UInt8) (j : Nat) : L.take j ++ (L.drop j).take (j + 1 - j) = L.take (j + 1) := by
  rw [Nat.add_sub_cancel_left, List.take_add]
theorem take_all (L : List UInt8) : L.take L.length = L := List.take_length
set_option maxHeartbeats 4000000 in
theorem marked_ok (h : H) (T : List UInt8) (n : Nat) (s : Nat → Int) (k : Nat) (A : Nat → List UInt8) (x1 x2 : Bool) (hc : ckM T.length n s k A = 0) :
    CallOk Try.prog 55 [pageV n s k A x1 x2 T] h (tx (rdF T (stF n s) A T.length)) h := by
  obtain ⟨h1, h2, h3, h4⟩ := ckM_n hc
  have hn := st_le h4
  have kH := fun h' x => leaves_ok h' n s k A x1 x2 T x (by omega)
  have hl : ∀ i, i < k → lnF A i ≤ 12 * (i + 1) := fun i hi => lnF_le h3 hi
  have hr := fun i => rdF_le (T := T) (st := stF n s) (A := A) (i := i)
  have eh : ∀ i : Nat, hasB n s i = stF n s i := fun i => rfl
  have kH2 := fun h' (i : Nat) => (eh i ▸ kH h' i)
  have hmr := mkF_rd T (stF n s) A
  have ms : ∀ i, mkF T (stF n s) A (i + 1) = mkF T (stF n s) A i ++ A i ++ (if stF n s i = true then [] else chr T i) := fun i => rfl
  have m0 : mkF T (stF n s) A 0 = [] := rfl
  generalize stF n s = st at *
  have ha : ∀ i, i < k → (A i).length ≤ 12 := fun i hi => of_decide_eq_true (allF_iff.1 h3 i hi)
  generalize lnF A = L at *
  generalize mkF T st A = M at *
  generalize rdF T st A = R at *
  refine CallOk.run0 Try.func55 rfl rfl rfl rfl rfl (WpR.of_vc ?_)
  (conv => whnf); (repeat' (first | ((with_reducible refine ifb_mk (fun hc => ?_) (fun hc => ?_)) <;> ((try simp only [decide_eq_true_eq, decide_eq_false_iff_not, Bool.not_eq_true', Bool.not_eq_false', Int.not_lt, Int.not_le, ne_eq, Decidable.not_not, beq_iff_eq, List.cons.injEq, and_true] at hc); (first | (exfalso; omega) | exact absurd True.intro hc | conv => whnf))) | ((with_reducible refine And.intro True.intro ?_); conv => whnf) | ((with_reducible refine CallX.all (f := 84) ?_); refine CallW.inline Try.func84 rfl rfl (Nat.le_of_ble_eq_true rfl) (WpR.of_vc ?_); conv => whnf) | ((with_reducible refine RangeX.all ?_); conv => whnf) | ((with_reducible refine CallW.inline (f := 98) Try.func98 rfl rfl (Nat.le_of_ble_eq_true rfl) (WpR.of_vc ?_)); conv => whnf) | ((with_reducible refine And.intro ?hh ?_); (case hh => exact condA); conv => whnf) | fail))
  refine WpR.loopA (ι := Nat × List UInt8) [] [0, 1, 9, 10] [1] [] 5 (fun p => [(11, .int .i64 p.1)]) (fun p => [(1, .cells (ofL [tx p.2] 0) true none)]) (fun p => k - p.1) (fun p => p.1 < k ∧ p.2 = M p.1) ?_ ((0, [])) (⟨by omega, m0.symm⟩) [] Back.auto
  rintro ⟨i, r⟩ ⟨j1, j2⟩
  dsimp only at j1 j2
  refine WpR.of_vc ?_
  have hi := ha i j1
  have hri : r.length + (A i).length ≤ 400 := by
    have q1 := hr i
    have q2 := hl i j1
    rw [← hmr i, List.length_append, ← j2] at q1
    omega
  (conv => whnf); (repeat' (first | ((with_reducible refine ifb_mk (fun hc => ?_) (fun hc => ?_)) <;> ((try simp only [decide_eq_true_eq, decide_eq_false_iff_not, Bool.not_eq_true', Bool.not_eq_false', Int.not_lt, Int.not_le, ne_eq, Decidable.not_not, beq_iff_eq, List.cons.injEq, and_true] at hc); (first | (exfalso; omega) | exact absurd True.intro hc | conv => whnf))) | ((with_reducible refine And.intro True.intro ?_); conv => whnf) | ((with_reducible refine grd_and ?_); refine And.intro (j1) ?_; conv => whnf) | ((with_reducible refine And.intro ?hh ?_); (case hh => exact condA); conv => whnf) | fail))
  refine WpR.loopA (ι := Nat × List UInt8) [] [0, 1, 3, 4, 9, 10, 11, 17] [1] [] 5 (fun p => [(18, .int .i64 p.1)]) (fun p => [(1, .cells (ofL [tx p.2] 0) true none)]) (fun p => (A i).length - p.1) (fun p => p.1 ≤ (A i).length ∧ p.2 = r ++ (A i).take p.1) ?_ ((0, r)) (⟨by omega, (List.append_nil r).symm⟩) [] Back.auto
  rintro ⟨j, r2⟩ ⟨g1, g2⟩
  dsimp only at g1 g2
  refine WpR.of_vc ?_
  have hr2 : r2.length ≤ r.length + (A i).length := by rw [g2, List.length_append, List.length_take]; omega
  have hc0 : ∀ (l : List UInt8) (i : Nat), ((l.drop i).take (i + 1 - i)).length ≤ 1 := fun l i => chr_len l i
  by_cases hj : j < (A i).length
  · have hcj := hc0 (A i) j
    (conv => whnf); (repeat' (first | ((with_reducible refine ifb_mk (fun hc => ?_) (fun hc => ?_)) <;> ((try simp only [decide_eq_true_eq, decide_eq_false_iff_not, Bool.not_eq_true', Bool.not_eq_false', Int.not_lt, Int.not_le, ne_eq, Decidable.not_not, beq_iff_eq, List.cons.injEq, and_true] at hc); (first | (exfalso; omega) | exact absurd True.intro hc | conv => whnf))) | ((with_reducible refine And.intro True.intro ?_); conv => whnf) | ((with_reducible refine grd_and ?_); refine And.intro (hj) ?_; conv => whnf) | ((with_reducible refine grd_and ?_); refine And.intro ((by simp only [List.length_append]; omega)) ?_; conv => whnf) | ((with_reducible refine YldX.all ?_); refine YldW.inline rfl rfl rfl (WpR.of_vc ?_); conv => whnf) | ((with_reducible refine And.intro ?hh ?_); (case hh => exact condA); conv => whnf) | fail))
    refine ⟨_, rfl, rfl, WpR.of_vc ?_⟩
    (conv => whnf); (repeat' (first | ((with_reducible refine ifb_mk (fun hc => ?_) (fun hc => ?_)) <;> ((try simp only [decide_eq_true_eq, decide_eq_false_iff_not, Bool.not_eq_true', Bool.not_eq_false', Int.not_lt, Int.not_le, ne_eq, Decidable.not_not, beq_iff_eq, List.cons.injEq, and_true] at hc); (first | (exfalso; omega) | exact absurd True.intro hc | conv => whnf))) | ((with_reducible refine And.intro True.intro ?_); conv => whnf) | ((with_reducible refine grd_and ?_); refine And.intro ((by simp only [List.length_append]; omega)) ?_; conv => whnf) | ((with_reducible refine And.intro ?hh ?_); (case hh => exact condA); conv => whnf) | fail))
    refine ⟨_, _, rfl, ?_⟩
    (conv => whnf); (repeat' (first | ((with_reducible refine ifb_mk (fun hc => ?_) (fun hc => ?_)) <;> ((try simp only [decide_eq_true_eq, decide_eq_false_iff_not, Bool.not_eq_true', Bool.not_eq_false', Int.not_lt, Int.not_le, ne_eq, Decidable.not_not, beq_iff_eq, List.cons.injEq, and_true] at hc); (first | (exfalso; omega) | exact absurd True.intro hc | conv => whnf))) | ((with_reducible refine And.intro True.intro ?_); conv => whnf) | ((with_reducible refine And.intro ?hh ?_); (case hh => exact condA); conv => whnf) | fail))
    refine ⟨(j + 1, r2 ++ ((A i).drop j).take (j + 1 - j)), [], by dsimp only; omega, ⟨by dsimp only; omega, ?_⟩, Back.auto⟩
    dsimp only
    rw [g2, List.append_assoc, take_s]
  · have ej : j = (A i).length := by omega
    subst ej
    rw [List.take_length] at g2
    have hci := hc0 T i
    cases hz : st i with
    | true =>
      have kH3 := fun h' => (hz ▸ kH2 h' i)
      (conv => whnf); (repeat' (first | ((with_reducible refine ifb_mk (fun hc => ?_) (fun hc => ?_)) <;> ((try simp only [decide_eq_true_eq, decide_eq_false_iff_not, Bool.not_eq_true', Bool.not_eq_false', Int.not_lt, Int.not_le, ne_eq, Decidable.not_not, beq_iff_eq, List.cons.injEq, and_true] at hc); (first | (exfalso; omega) | exact absurd True.intro hc | conv => whnf))) | ((with_reducible refine And.intro True.intro ?_); conv => whnf) | ((with_reducible refine grd_and ?_); refine And.intro (hj) ?_; conv => whnf) | ((with_reducible refine CallX.all ?_); refine CallW.of_ok (kH3 _) ?_; conv => whnf) | ((with_reducible refine grd_and ?_); refine And.intro ((by simp only [List.length_append]; omega)) ?_; conv => whnf) | ((with_reducible refine YldX.all ?_); refine YldW.inline rfl rfl rfl (WpR.of_vc ?_); conv => whnf) | ((with_reducible refine And.intro ?hh ?_); (case hh => exact condA); conv => whnf) | fail))
      · have e : i = T.length := by omega
        subst e
        have e2 : R T.length = r2 := by rw [← hmr, g2, j2]
        rw [e2]
        (refine ⟨[], ?_, rfl, rfl, trivial, trivs⟩; simp only [renV, renL]; (first | done | rfl | (simp; done) | (simp; omega) | grind))
      · refine ⟨_, rfl, rfl, WpR.of_vc ?_⟩
        (conv => whnf); (repeat' (first | ((with_reducible refine ifb_mk (fun hc => ?_) (fun hc => ?_)) <;> ((try simp only [decide_eq_true_eq, decide_eq_false_iff_not, Bool.not_eq_true', Bool.not_eq_false', Int.not_lt, Int.not_le, ne_eq, Decidable.not_not, beq_iff_eq, List.cons.injEq, and_true] at hc); (first | (exfalso; omega) | exact absurd True.intro hc | conv => whnf))) | ((with_reducible refine And.intro True.intro ?_); conv => whnf) | ((with_reducible refine grd_and ?_); refine And.intro ((by simp only [List.length_append]; omega)) ?_; conv => whnf) | ((with_reducible refine And.intro ?hh ?_); (case hh => exact condA); conv => whnf) | fail))
        refine ⟨_, _, rfl, ?_⟩
        (conv => whnf); (repeat' (first | ((with_reducible refine ifb_mk (fun hc => ?_) (fun hc => ?_)) <;> ((try simp only [decide_eq_true_eq, decide_eq_false_iff_not, Bool.not_eq_true', Bool.not_eq_false', Int.not_lt, Int.not_le, ne_eq, Decidable.not_not, beq_iff_eq, List.cons.injEq, and_true] at hc); (first | (exfalso; omega) | exact absurd True.intro hc | conv => whnf))) | ((with_reducible refine And.intro True.intro ?_); conv => whnf) | ((with_reducible refine And.intro ?hh ?_); (case hh => exact condA); conv => whnf) | fail))
        refine ⟨(i + 1, r2), [], by dsimp only; omega, ⟨by dsimp only; omega, ?_⟩, Back.auto⟩
        dsimp only
        rw [ms, hz, if_pos rfl, List.append_nil, g2, j2]
    | false =>
      have kH3 := fun h' => (hz ▸ kH2 h' i)
      (conv => whnf); (repeat' (first | ((with_reducible refine ifb_mk (fun hc => ?_) (fun hc => ?_)) <;> ((try simp only [decide_eq_true_eq, decide_eq_false_iff_not, Bool.not_eq_true', Bool.not_eq_false', Int.not_lt, Int.not_le, ne_eq, Decidable.not_not, beq_iff_eq, List.cons.injEq, and_true] at hc); (first | (exfalso; omega) | exact absurd True.intro hc | conv => whnf))) | ((with_reducible refine And.intro True.intro ?_); conv => whnf) | ((with_reducible refine grd_and ?_); refine And.intro (hj) ?_; conv => whnf) | ((with_reducible refine CallX.all ?_); refine CallW.of_ok (kH3 _) ?_; conv => whnf) | ((with_reducible refine grd_and ?_); refine And.intro ((by simp only [List.length_append]; omega)) ?_; conv => whnf) | ((with_reducible refine YldX.all ?_); refine YldW.inline rfl rfl rfl (WpR.of_vc ?_); conv => whnf) | ((with_reducible refine And.intro ?hh ?_); (case hh => exact condA); conv => whnf) | fail))
      · have e : i = T.length := by omega
        subst e
        have e2 : R T.length = r2 := by rw [← hmr, g2, j2]
        rw [e2]
        (refine ⟨[], ?_, rfl, rfl, trivial, trivs⟩; simp only [renV, renL]; (first | done | rfl | (simp; done) | (simp; omega) | grind))
      · refine ⟨_, rfl, rfl, WpR.of_vc ?_⟩
        (conv => whnf); (repeat' (first | ((with_reducible refine ifb_mk (fun hc => ?_) (fun hc => ?_)) <;> ((try simp only [decide_eq_true_eq, decide_eq_false_iff_not, Bool.not_eq_true', Bool.not_eq_false', Int.not_lt, Int.not_le, ne_eq, Decidable.not_not, beq_iff_eq, List.cons.injEq, and_true] at hc); (first | (exfalso; omega) | exact absurd True.intro hc | conv => whnf))) | ((with_reducible refine And.intro True.intro ?_); conv => whnf) | ((with_reducible refine grd_and ?_); refine And.intro ((by simp only [List.length_append]; omega)) ?_; conv => whnf) | ((with_reducible refine And.intro ?hh ?_); (case hh => exact condA); conv => whnf) | fail))
        refine ⟨_, _, rfl, ?_⟩
        (conv => whnf); (repeat' (first | ((with_reducible refine ifb_mk (fun hc => ?_) (fun hc => ?_)) <;> ((try simp only [decide_eq_true_eq, decide_eq_false_iff_not, Bool.not_eq_true', Bool.not_eq_false', Int.not_lt, Int.not_le, ne_eq, Decidable.not_not, beq_iff_eq, List.cons.injEq, and_true] at hc); (first | (exfalso; omega) | exact absurd True.intro hc | conv => whnf))) | ((with_reducible refine And.intro True.intro ?_); conv => whnf) | ((with_reducible refine And.intro ?hh ?_); (case hh => exact condA); conv => whnf) | fail))
        refine ⟨(i + 1, r2 ++ chr T i), [], by dsimp only; omega, ⟨by dsimp only; omega, ?_⟩, Back.auto⟩
        dsimp only
        rw [ms, hz, if_neg (by decide), g2, j2]
end Go.Proofs.Q
