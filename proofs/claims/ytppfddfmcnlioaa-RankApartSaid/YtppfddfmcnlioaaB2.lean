/- What the functions answer that the laws call, one after another (B2). -/
import Derived.Test.YtppfddfmcnlioaaAs6
import Derived.Test.YtppfddfmcnlioaaB0

set_option linter.unusedVariables false
namespace Go.Proofs.J
open Go.As
set_option maxRecDepth 20000
set_option linter.unusedVariables false
set_option linter.unusedSimpArgs false

/-! ### Groups -/

theorem bit_shr (g s : Nat) : (((g >>> s &&& 1 : Nat) : Int) == 1) = g.testBit s := by
  unfold Nat.testBit
  have h : 1 &&& g >>> s = (g >>> s) % 2 := by rw [Nat.and_comm]; exact Nat.and_one_is_mod _
  rw [Nat.and_comm, h]
  rcases Nat.mod_two_eq_zero_or_one (g >>> s) with e | e <;> rw [e] <;> rfl
theorem shr_lt {g s : Nat} (hg : g < 65536) : g >>> s < 65536 := Nat.lt_of_le_of_lt (by rw [Nat.shiftRight_eq_div_pow]; exact Nat.div_le_self _ _) hg
theorem has_ok (h : As.H) (g s : Nat) (hg : g < 65536) (hs : s < 16) : CallOk Try.prog 72 [.int .u16 g, .int .i64 s] h (.bool (g.testBit s)) h := by
  have e1 := andRaw (a := g >>> s) (b := 1) (shr_lt hg) (by decide)
  have e2 := shrRaw (a := g) hs
  have e3 := bit_shr g s
  rw [← e3, ← e1, ← e2]
  refine CallOk.run0 Try.func72 rfl rfl rfl rfl rfl (WpR.of_vc ?_)
  (conv => whnf); (repeat' (first | ((with_reducible refine ifb_mk (fun hc => ?_) (fun hc => ?_)) <;> ((try simp only [decide_eq_true_eq, decide_eq_false_iff_not, Bool.not_eq_true', Bool.not_eq_false', Int.not_lt, Int.not_le, ne_eq, Decidable.not_not, beq_iff_eq, List.cons.injEq, and_true] at hc); (first | (exfalso; omega) | exact absurd True.intro hc | conv => whnf))) | ((with_reducible refine And.intro True.intro ?_); conv => whnf) | ((with_reducible refine And.intro ?hh ?_); (case hh => exact condA); conv => whnf) | fail))
  all_goals (refine ⟨[], ?_, rfl, rfl, trivial, trivs⟩; simp only [renV, renL]; (first | done | rfl))
/-- Are all of g in a? -/
def subB (g a : Nat) : Bool := ((anN g a : Nat) : Int) == 0
theorem subB_iff {g a : Nat} (hg : g < 65536) : subB g a = true ↔ ∀ i, g.testBit i = true → a.testBit i = true := by
  rw [← anN_zero hg]
  unfold subB
  rw [beq_iff_eq]
  omega
theorem isWithin_ok (h : As.H) (g a : Nat) : CallOk Try.prog 91 [.int .u16 g, .int .u16 a] h (.bool (subB g a)) h := by
  unfold subB
  rw [← anRaw]
  refine CallOk.run0 Try.func91 rfl rfl rfl rfl rfl (WpR.of_vc ?_)
  (conv => whnf); (repeat' (first | ((with_reducible refine ifb_mk (fun hc => ?_) (fun hc => ?_)) <;> ((try simp only [decide_eq_true_eq, decide_eq_false_iff_not, Bool.not_eq_true', Bool.not_eq_false', Int.not_lt, Int.not_le, ne_eq, Decidable.not_not, beq_iff_eq, List.cons.injEq, and_true] at hc); (first | (exfalso; omega) | exact absurd True.intro hc | conv => whnf))) | ((with_reducible refine And.intro True.intro ?_); conv => whnf) | ((with_reducible refine And.intro ?hh ?_); (case hh => exact condA); conv => whnf) | fail))
  all_goals (refine ⟨[], ?_, rfl, rfl, trivial, trivs⟩; simp only [renV, renL]; (first | done | rfl))
theorem pow_lt {s : Nat} (hs : s < 16) : 2 ^ s < 65536 := Nat.pow_lt_pow_right (a := 2) (by omega) hs
theorem with_ok (h : As.H) (g s : Nat) (hg : g < 65536) (hs : s < 16) : CallOk Try.prog 108 [.int .u16 g, .int .i64 s] h (.int .u16 ((g ||| 2 ^ s : Nat) : Int)) h := by
  rw [← orRaw hg (pow_lt hs), ← shlRaw hs]
  refine CallOk.run0 Try.func108 rfl rfl rfl rfl rfl (WpR.of_vc ?_)
  (conv => whnf); (repeat' (first | ((with_reducible refine ifb_mk (fun hc => ?_) (fun hc => ?_)) <;> ((try simp only [decide_eq_true_eq, decide_eq_false_iff_not, Bool.not_eq_true', Bool.not_eq_false', Int.not_lt, Int.not_le, ne_eq, Decidable.not_not, beq_iff_eq, List.cons.injEq, and_true] at hc); (first | (exfalso; omega) | exact absurd True.intro hc | conv => whnf))) | ((with_reducible refine And.intro True.intro ?_); conv => whnf) | ((with_reducible refine And.intro ?hh ?_); (case hh => exact condA); conv => whnf) | fail))
  all_goals (refine ⟨[], ?_, rfl, rfl, trivial, trivs⟩; simp only [renV, renL]; (first | done | rfl))
theorem bwith_ok (h : As.H) (l : Int) (g s : Nat) (hl : 0 ≤ l ∧ l ≤ 1000) (hg : g < 65536) (hs : s < 16) : CallOk Try.prog 92 [.agg [.int .i64 l, .int .u16 g], .int .i64 s] h (.agg [.int .i64 (l + 1), .int .u16 ((g ||| 2 ^ s : Nat) : Int)]) h := by
  have kw := fun h' => with_ok h' g s hg hs
  generalize g ||| 2 ^ s = r at *
  refine CallOk.run0 Try.func92 rfl rfl rfl rfl rfl (WpR.of_vc ?_)
  (conv => whnf); (repeat' (first | ((with_reducible refine ifb_mk (fun hc => ?_) (fun hc => ?_)) <;> ((try simp only [decide_eq_true_eq, decide_eq_false_iff_not, Bool.not_eq_true', Bool.not_eq_false', Int.not_lt, Int.not_le, ne_eq, Decidable.not_not, beq_iff_eq, List.cons.injEq, and_true] at hc); (first | (exfalso; omega) | exact absurd True.intro hc | conv => whnf))) | ((with_reducible refine And.intro True.intro ?_); conv => whnf) | ((with_reducible refine CallX.all ?_); refine CallW.of_ok (kw _) ?_; conv => whnf) | ((with_reducible refine grd_ex ?_); refine ex_ok (kw _) ?_; conv => whnf) | ((with_reducible refine WpR.draw (id := 1) mixed [0, 1, 2, 3, 4, 5, 6, 7, 8] [0, 1, 3, 0, 8, 0, 56, 127, 255] ?hh ?_); (case hh => kernel_rfl); conv => whnf) | ((with_reducible refine And.intro ?hh ?_); (case hh => exact condA); conv => whnf) | fail))
  all_goals first | (refine ⟨[], ?_, rfl, rfl, trivial, trivs⟩; simp only [renV, renL]; (first | done | rfl | (simp; done) | (simp; omega) | grind)) | (exfalso; omega)
theorem testBit_with {g s i : Nat} : (g ||| 2 ^ s).testBit i = (g.testBit i || decide (i = s)) := by
  rw [Nat.testBit_or, Nat.testBit_two_pow]
  congr 1
  rw [Bool.eq_iff_iff]; simp; exact eq_comm

/-! ### Tables -/

def tV (t : Nat → Nat) : List V := arrV 10 fun i => .int .u16 ((t i : Nat) : Int)
/-- A table with one more look. -/
def seT (t : Nat → Nat) (one two : Nat) : Nat → Nat := fun i => if i = two then t i ||| 2 ^ one else t i
theorem tV_bare {t : Nat → Nat} : ∀ v ∈ tV t, bare0 v = true := arrV_bare fun _ => rfl
theorem tV_len (t : Nat → Nat) : (tV t).length = 10 := arrV_len _ _
theorem tV_get {t : Nat → Nat} {o i : Nat} (ho : o = i) (h : i < 10) : (ofL (tV t) 0).get o = some (.int .u16 ((t i : Nat) : Int)) := arrV_get ho h
theorem getN_all : ∀ (l : List V) (c : Tr V) (o : Nat), (∀ k v, l[k]? = some v → c.get (o + k) = some v) → getN c l.length o = some l
  | [], c, o, _ => rfl
  | v :: l, c, o, h => by
    have h0 := h 0 v rfl
    rw [Nat.add_zero] at h0
    have ih := getN_all l c (o + 1) (fun k w hw => by have := h (k + 1) w hw; rwa [show o + (k + 1) = o + 1 + k from by omega] at this)
    show (match c.get o with
      | some v => (match getN c l.length (o + 1) with | some l => some (v :: l) | none => none)
      | none => none) = _
    rw [h0, ih]
theorem tV_set {t u : Nat → Nat} {o w : Nat} (x : Nat) (ho : o = w) (hu : ∀ i, u i = if i = w then x else t i) : getN ((ofL (tV t) 0).set o (.int .u16 ((x : Nat) : Int))) 10 0 = some (tV u) := by
  have := getN_all (tV u) ((ofL (tV t) 0).set o (.int .u16 ((x : Nat) : Int))) 0 (fun k v hk => by
    have hlt : k < 10 := by have := (List.getElem?_eq_some_iff.1 hk).1; rwa [tV_len] at this
    have e : (tV u)[k]? = some (.int .u16 ((u k : Nat) : Int)) := arrV_at hlt
    rw [e] at hk; cases hk
    rw [Nat.zero_add, Tr.get_set, hu]
    by_cases he : k = w
    · rw [if_pos (he.trans ho.symm), if_pos he]
    · rw [if_neg (fun h => he (h.trans ho)), if_neg he]; exact tV_get rfl hlt)
  rwa [tV_len] at this
theorem seen_ok (h : As.H) (t : Nat → Nat) (one two : Nat) (h1 : one < 10) (h2 : two < 10) (ht : ∀ i, i < 10 → t i < 65536) : CallOk Try.prog 89 [.agg (tV t), .int .i64 one, .int .i64 two] h (.agg (tV (seT t one two))) h := by
  have kw := fun h' => with_ok h' (t two) one (ht two h2) (by omega)
  have hg := fun o (ho : o = two) => tV_get (t := t) ho h2
  have hs := fun o (ho : o = two) => tV_set (t := t) (u := seT t one two) (t two ||| 2 ^ one) ho (fun i => by unfold seT; by_cases e : i = two <;> simp [e])
  have hp : ∀ (x : Int) o, o = two → putN [V.int .u16 x] (ofL (tV t) 0) o = some ((ofL (tV t) 0).set o (.int .u16 x)) := fun x o ho => by rw [putN_cons, hg o ho]; rfl
  have hg0 : getN (ofL (tV t) 0) 10 0 = some (tV t) := by
    have := getN_all (tV t) (ofL (tV t) 0) 0 (fun k v hk => by rw [Nat.zero_add]; exact get_ofL0 hk)
    rwa [tV_len] at this
  generalize t two ||| 2 ^ one = x at *
  obtain ⟨u, hu⟩ : ∃ u, seT t one two = u := ⟨_, rfl⟩
  rw [hu] at hs ⊢
  clear hu
  generalize t two = y at *
  refine CallOk.run0 Try.func89 rfl rfl rfl rfl rfl (WpR.of_vc ?_)
  (conv => whnf); (repeat' (first | ((with_reducible refine ifb_mk (fun hc => ?_) (fun hc => ?_)) <;> ((try simp only [decide_eq_true_eq, decide_eq_false_iff_not, Bool.not_eq_true', Bool.not_eq_false', Int.not_lt, Int.not_le, ne_eq, Decidable.not_not, beq_iff_eq, List.cons.injEq, and_true] at hc); (first | (exfalso; omega) | exact absurd True.intro hc | conv => whnf))) | ((with_reducible refine And.intro True.intro ?_); conv => whnf) | ((with_reducible refine CallX.all ?_); refine CallW.of_ok (kw _) ?_; conv => whnf) | ((with_reducible refine grd_get ?_); refine som_mk (a := ?_) ?hh ?_; (case hh => exact hg _ (by show 0 + Int.toNat (two : Int) * 1 = two; omega)); conv => whnf) | ((with_reducible refine grd_putN ?_); refine som_mk (a := ?_) ?hh ?_; (case hh => exact hp _ _ (by show 0 + Int.toNat (two : Int) * 1 = two; omega)); conv => whnf) | ((with_reducible refine grd_getN ?_); refine som_mk (a := ?_) ?hh ?_; (case hh => exact hs _ (by show 0 + Int.toNat (two : Int) * 1 = two; omega)); conv => whnf) | ((with_reducible refine And.intro ?hh ?_); (case hh => exact condA); conv => whnf) | fail))
  all_goals (refine ⟨[], ?_, rfl, rfl, trivial, trivs⟩; simp only [renV, renL]; (first | done | rfl))
end Go.Proofs.J

namespace Go.Proofs.J
open Go.As
set_option maxRecDepth 20000
set_option linter.unusedVariables false
set_option linter.unusedSimpArgs false

/-! ### What follows from looks -/

/-- A number of given bits. -/
def ofB (f : Nat → Bool) : Nat → Nat
  | 0 => 0
  | n + 1 => ofB f n ||| (if f n = true then 2 ^ n else 0)
theorem ofB_bit (f : Nat → Bool) (i : Nat) : ∀ n, (ofB f n).testBit i = (decide (i < n) && f i)
  | 0 => by simp [ofB]
  | n + 1 => by
    rw [ofB, Nat.testBit_or, ofB_bit f i n]
    by_cases h : f n = true
    · rw [if_pos h, Nat.testBit_two_pow]
      by_cases e : n = i
      · subst e; simp [h]
      · have : decide (i < n) = decide (i < n + 1) := by rw [decide_eq_decide]; omega
        rw [this]; simp [e]
    · rw [if_neg h, Nat.zero_testBit, Bool.or_false]
      by_cases e : n = i
      · subst e; simp [h]
      · have : decide (i < n) = decide (i < n + 1) := by rw [decide_eq_decide]; omega
        rw [this]
theorem ofB_lt (f : Nat → Bool) : ∀ n, ofB f n < 2 ^ n
  | 0 => by simp [ofB]
  | n + 1 => by
    rw [ofB]
    refine Nat.or_lt_two_pow (Nat.lt_of_lt_of_le (ofB_lt f n) (Nat.pow_le_pow_right (by omega) (by omega))) ?_
    split
    · exact Nat.pow_lt_pow_right (by omega) (by omega)
    · exact Nat.pow_pos (by omega)
/-- j is brighter than i, by one look after another. -/
inductive Rch (t : Nat → Nat) : Nat → Nat → Prop
  | one {j i : Nat} (h : (t i).testBit j = true) : Rch t j i
  | step {j m i : Nat} (h : (t i).testBit m = true) (r : Rch t j m) : Rch t j i
theorem Rch.trans {t : Nat → Nat} {j m i : Nat} (a : Rch t j m) (b : Rch t m i) : Rch t j i := by
  induction b with
  | one h => exact .step h a
  | step h _ ih => exact .step h ih
open Classical in
/-- All that follows. -/
noncomputable def clo (t : Nat → Nat) : Nat → Nat := fun i => ofB (fun j => decide (Rch t j i)) 10
theorem clo_lt (t : Nat → Nat) (i : Nat) : clo t i < 1024 := ofB_lt _ 10
open Classical in
theorem clo_bit {t : Nat → Nat} {i j : Nat} : (clo t i).testBit j = true ↔ j < 10 ∧ Rch t j i := by
  unfold clo
  rw [ofB_bit, Bool.and_eq_true, decide_eq_true_eq, decide_eq_true_eq]
/-- A table of stars. -/
def Tb (t : Nat → Nat) : Prop := ∀ i, i < 10 → t i < 1024
theorem Tb.bit {t : Nat → Nat} (h : Tb t) {i j : Nat} (hi : i < 10) (hb : (t i).testBit j = true) : j < 10 := by
  apply Classical.byContradiction
  intro hc
  rw [Nat.testBit_lt_two_pow (Nat.lt_of_lt_of_le (h i hi) (Nat.pow_le_pow_right (n := 2) (by omega) (by omega : 10 ≤ j)))] at hb
  cases hb
theorem Rch.lt {t : Nat → Nat} (h : Tb t) {i j : Nat} (hi : i < 10) (r : Rch t j i) : j < 10 := by
  induction r with
  | one hb => exact h.bit hi hb
  | step hb _ ih => exact ih (h.bit hi hb)
/-- Between the looks and all that follows. -/
structure Mi (t0 t : Nat → Nat) : Prop where
  lo : ∀ i, i < 10 → ∀ j, (t0 i).testBit j = true → (t i).testBit j = true
  hi : ∀ i, i < 10 → ∀ j, (t i).testBit j = true → Rch t0 j i
  tb : Tb t
/-- A star's looks with those of another one. -/
def inT (t : Nat → Nat) (s o : Nat) : Nat → Nat := fun i => if i = s then t s ||| t o else t i
theorem Mi.step {t0 t : Nat → Nat} (m : Mi t0 t) {s o : Nat} (hs : s < 10) (ho : o < 10) (hb : (t s).testBit o = true) : Mi t0 (inT t s o) := by
  refine ⟨fun i hi j hj => ?_, fun i hi j hj => ?_, fun i hi => ?_⟩
  · unfold inT
    have h1 := m.lo i hi j hj
    split
    · rename_i e; subst e; rw [Nat.testBit_or, h1]; rfl
    · exact h1
  · unfold inT at hj
    split at hj
    · rename_i e; subst e
      rw [Nat.testBit_or, Bool.or_eq_true] at hj
      rcases hj with hj | hj
      · exact m.hi _ hi j hj
      · exact (m.hi o ho j hj).trans (m.hi _ hi o hb)
    · exact m.hi i hi j hj
  · unfold inT
    split
    · exact Nat.or_lt_two_pow (n := 10) (m.tb s hs) (m.tb o ho)
    · exact m.tb i hi
/-- Behind k of the 100 pairs of a round. -/
structure Ps (t0 tb t : Nat → Nat) (k : Nat) : Prop where
  p : Mi t0 t
  le : ∀ i, i < 10 → tb i ≤ t i
  or : (∃ i, i < 10 ∧ tb i < t i) ∨ ((∀ i, i < 10 → t i = tb i) ∧ ∀ s o, s < 10 → o < 10 → s * 10 + o < k → (tb s).testBit o = true → tb s ||| tb o = tb s)
theorem Ps.begin {t0 t : Nat → Nat} (m : Mi t0 t) : Ps t0 t t 0 := ⟨m, fun _ _ => Nat.le_refl _, .inr ⟨fun _ _ => rfl, fun _ _ _ _ h => absurd h (Nat.not_lt_zero _)⟩⟩
theorem Ps.no {t0 tb t : Nat → Nat} {s o : Nat} (q : Ps t0 tb t (s * 10 + o)) (hs : s < 10) (ho : o < 10) (hb : (t s).testBit o = false) : Ps t0 tb t (s * 10 + (o + 1)) := by
  refine ⟨q.p, q.le, q.or.imp id fun ⟨h1, h2⟩ => ⟨h1, fun s' o' hs' ho' hk hb' => ?_⟩⟩
  by_cases he : s' * 10 + o' < s * 10 + o
  · exact h2 s' o' hs' ho' he hb'
  · have e1 : s' = s := by omega
    have e2 : o' = o := by omega
    subst e1; subst e2
    rw [← h1 _ hs', hb] at hb'; cases hb'
theorem Ps.yes {t0 tb t : Nat → Nat} {s o : Nat} (q : Ps t0 tb t (s * 10 + o)) (hs : s < 10) (ho : o < 10) (hb : (t s).testBit o = true) : Ps t0 tb (inT t s o) (s * 10 + (o + 1)) := by
  have hle : ∀ i, t i ≤ inT t s o i := fun i => by
    unfold inT; split
    · rename_i e; subst e; exact Nat.left_le_or
    · exact Nat.le_refl _
  refine ⟨q.p.step hs ho hb, fun i hi => Nat.le_trans (q.le i hi) (hle i), ?_⟩
  rcases q.or with ⟨i, hi, h1⟩ | ⟨h1, h2⟩
  · exact .inl ⟨i, hi, Nat.lt_of_lt_of_le h1 (hle i)⟩
  · by_cases he : t s ||| t o = t s
    · have hid : ∀ i, inT t s o i = t i := fun i => by
        unfold inT; split
        · rename_i e; rw [he, e]
        · rfl
      refine .inr ⟨fun i hi => by rw [hid]; exact h1 i hi, fun s' o' hs' ho' hk hb' => ?_⟩
      by_cases hc : s' * 10 + o' < s * 10 + o
      · exact h2 s' o' hs' ho' hc hb'
      · have e1 : s' = s := by omega
        have e2 : o' = o := by omega
        subst e1; subst e2
        rw [← h1 _ hs', ← h1 _ ho']; exact he
    · refine .inl ⟨s, hs, ?_⟩
      have h3 : inT t s o s = t s ||| t o := by unfold inT; rw [if_pos rfl]
      have h4 : t s ≤ t s ||| t o := Nat.left_le_or
      rw [h3, ← h1 s hs]; omega
/-- All that follows is there. -/
theorem Ps.done {t0 tb t : Nat → Nat} (q : Ps t0 tb t 100) (h0 : Tb t0) (he : ∀ i, i < 10 → t i = tb i) : ∀ i, i < 10 → t i = clo t0 i := by
  rcases q.or with ⟨i, hi, h1⟩ | ⟨h1, h2⟩
  · have := he i hi; omega
  · intro i hi
    have htr : ∀ s o, s < 10 → (t s).testBit o = true → ∀ j, (t o).testBit j = true → (t s).testBit j = true := fun s o hs hb j hj => by
      have ho := q.p.tb.bit hs hb
      have h3 := h2 s o hs ho (by omega) (by rw [← h1 s hs]; exact hb)
      rw [← h1 s hs, ← h1 o ho] at h3
      rw [← h3, Nat.testBit_or, hj, Bool.or_true]
    have hall : ∀ j i, Rch t0 j i → i < 10 → (t i).testBit j = true := by
      intro j i r
      induction r with
      | one hb => intro hi; exact q.p.lo _ hi _ hb
      | step hb r ih => intro hi; exact htr _ _ hi (q.p.lo _ hi _ hb) _ (ih (h0.bit hi hb))
    refine Nat.eq_of_testBit_eq fun j => ?_
    rw [Bool.eq_iff_iff, clo_bit]
    exact ⟨fun hb => ⟨q.p.tb.bit hi hb, q.p.hi i hi j hb⟩, fun ⟨_, r⟩ => hall j i r hi⟩
/-- A sum to count rounds with. -/
def suT (t : Nat → Nat) : Nat → Nat
  | 0 => 0
  | n + 1 => suT t n + t n
theorem suT_le {t : Nat → Nat} : ∀ n, (∀ i, i < n → t i < 1024) → suT t n ≤ n * 1023
  | 0, _ => by simp [suT]
  | n + 1, h => by have := suT_le n fun i hi => h i (by omega); have := h n (by omega); unfold suT; omega
theorem suT_mono {t u : Nat → Nat} : ∀ n, (∀ i, i < n → t i ≤ u i) → suT t n ≤ suT u n
  | 0, _ => by simp [suT]
  | n + 1, h => by have := suT_mono n fun i hi => h i (by omega); have := h n (by omega); unfold suT; omega
theorem suT_lt {t u : Nat → Nat} : ∀ n, (∀ i, i < n → t i ≤ u i) → (∃ i, i < n ∧ t i < u i) → suT t n < suT u n
  | 0, _, ⟨i, hi, _⟩ => by omega
  | n + 1, h, ⟨i, hi, hl⟩ => by
    have h1 := h n (by omega)
    unfold suT
    by_cases e : i = n
    · subst e; have := suT_mono i fun k hk => h k (by omega); omega
    · have := suT_lt n (fun k hk => h k (by omega)) ⟨i, by omega, hl⟩; omega
theorem Ps.more {t0 tb t : Nat → Nat} (q : Ps t0 tb t 100) (hne : ¬ ∀ i, i < 10 → t i = tb i) : suT tb 10 < suT t 10 ∧ suT t 10 ≤ 10230 := by
  refine ⟨suT_lt 10 q.le ?_, suT_le 10 q.p.tb⟩
  rcases q.or with h | ⟨h1, _⟩
  · exact h
  · exact absurd h1 hne
end Go.Proofs.J

namespace Go.Proofs.J
open Go.As
set_option maxRecDepth 20000
set_option linter.unusedVariables false
set_option linter.unusedSimpArgs false

/-! ### settled -/

theorem tV_eq {t u : Nat → Nat} (h : ∀ i, i < 10 → t i = u i) : tV t = tV u := arrV_eq fun c hc => by rw [h c hc]
def tL (t : Nat → Nat) : List Int := (List.range 10).map fun i => ((t i : Nat) : Int)
theorem tV_map (t : Nat → Nat) : tV t = (tL t).map (V.int .u16) := by unfold tV tL arrV; rw [List.map_map]; rfl
theorem tL_iff {t u : Nat → Nat} : tL t = tL u ↔ ∀ i, i < 10 → t i = u i := by
  unfold tL
  constructor
  · intro h i hi
    have h1 := congrArg (fun l => l[i]?) h
    rw [List.getElem?_map, List.getElem?_map, List.getElem?_range hi] at h1
    exact Int.ofNat.inj (Option.some.inj h1)
  · intro h
    exact List.map_congr_left fun i hi => by rw [h i (List.mem_range.1 hi)]
theorem tab_eql {t u : Nat → Nat} {x y : Operand} : slow Try.prog .eql 78 x y (.agg (tV t)) (.agg (tV u)) = some (.bool (decide (tL t = tL u))) := by
  rw [tV_map, tV_map, U16.slow_eql (k := 10) (by kernel_rfl) (tL t) (tL u) (by simp [tL]) (by simp [tL])]
theorem tab_or {t : Nat → Nat} (ht : Tb t) {s o : Nat} (hs : s < 10) (ho : o < 10) {z : Nat} (hz : z = s) {gg : Option (Nat × Nat)} (ρ : Nat → Nat) : SubQ ρ (.cells (ofL (tV (inT t s o)) 0) true gg) (.cells ((ofL (tV t) 0).set z (.int .u16 (IntKind.u16.wrap (((BitVec.ofInt IntKind.u16.bits ((t s : Nat) : Int) ||| BitVec.ofInt IntKind.u16.bits ((t o : Nat) : Int)).toNat : Nat) : Int)))) true gg) := by
  rw [orRaw (by have := ht s hs; omega) (by have := ht o ho; omega)]
  refine arrV_set (p := s) (fun _ => rfl) rfl hz fun c hc => ?_
  unfold inT
  split <;> rfl
set_option maxHeartbeats 8000000 in
theorem settled_ok (h : As.H) (t0 : Nat → Nat) (h0 : Tb t0) : CallOk Try.prog 90 [.agg (tV t0)] h (.agg (tV (clo t0))) h := by
  have kh := fun h' g s hg hs => has_ok h' g s hg hs
  have hm0 : Mi t0 t0 := ⟨fun i hi j hj => hj, fun i hi j hj => .one hj, h0⟩
  have hdone : ∀ tb t, Ps t0 tb t 100 → tL t = tL tb → tV t = tV (clo t0) := fun tb t q he => tV_eq (q.done h0 (tL_iff.1 he))
  have hmore : ∀ tb t, Ps t0 tb t 100 → ¬ tL t = tL tb → suT tb 10 < suT t 10 ∧ suT t 10 ≤ 10230 := fun tb t q he => q.more (fun h => he (tL_iff.2 h))
  generalize clo t0 = r at *
  have hMap : ∀ t : Nat → Nat, ltB 1000 (.cells (ofL (tV t) 0) true none) := fun t => ltB_ofLb tV_bare
  have hMap2 : ∀ t : Nat → Nat, ltB 2 (.cells (ofL (tV t) 0) true none) := fun t => ltB_ofLb tV_bare
  have hMapA : ∀ t : Nat → Nat, ltB 3 (.cells (ofL (tV t) 0) true none) := fun t => ltB_ofLb tV_bare
  have hMapB : ∀ t : Nat → Nat, ltB 4 (.cells (ofL (tV t) 0) true none) := fun t => ltB_ofLb tV_bare
  have hBare := @tV_bare
  refine CallOk.run0 Try.func90 rfl rfl rfl rfl rfl (WpR.of_vc ?_)
  (conv => whnf); (repeat' (first | ((with_reducible refine ifb_mk (fun hc => ?_) (fun hc => ?_)) <;> ((try simp only [decide_eq_true_eq, decide_eq_false_iff_not, Bool.not_eq_true', Bool.not_eq_false', Int.not_lt, Int.not_le, ne_eq, Decidable.not_not, beq_iff_eq, List.cons.injEq, and_true] at hc); (first | (exfalso; omega) | exact absurd True.intro hc | conv => whnf))) | ((with_reducible refine And.intro True.intro ?_); conv => whnf) | ((with_reducible refine And.intro ?hh ?_); (case hh => exact condA); conv => whnf) | fail))
  refine WpR.loopA (ι := Nat → Nat) [] [1, 2] [0] [] 2 (fun _ => []) (fun t => [(0, .cells (ofL (tV t) 0) true none)]) (fun t => 10230 - suT t 10) (fun t => Mi t0 t) ?_ (t0) (hm0) [] Back.auto
  intro tb jb
  refine WpR.of_vc ?_
  (conv => whnf); (repeat' (first | ((with_reducible refine ifb_mk (fun hc => ?_) (fun hc => ?_)) <;> ((try simp only [decide_eq_true_eq, decide_eq_false_iff_not, Bool.not_eq_true', Bool.not_eq_false', Int.not_lt, Int.not_le, ne_eq, Decidable.not_not, beq_iff_eq, List.cons.injEq, and_true] at hc); (first | (exfalso; omega) | exact absurd True.intro hc | conv => whnf))) | ((with_reducible refine And.intro True.intro ?_); conv => whnf) | ((with_reducible refine And.intro ?hh ?_); (case hh => exact condA); conv => whnf) | fail))
  refine WpR.loopA (ι := Nat × (Nat → Nat)) [] [1, 2, 3] [0] [] 3 (fun p => [(7, .int .i64 p.1)]) (fun p => [(0, .cells (ofL (tV p.2) 0) true none)]) (fun p => 10 - p.1) (fun p => p.1 ≤ 10 ∧ Ps t0 tb p.2 (p.1 * 10)) ?_ ((0, tb)) (⟨by omega, .begin jb⟩) [] Back.auto
  rintro ⟨s, t⟩ ⟨j1, j2⟩
  dsimp only at j1 j2
  refine WpR.of_vc ?_
  by_cases hs : s < 10
  · (conv => whnf); (repeat' (first | ((with_reducible refine ifb_mk (fun hc => ?_) (fun hc => ?_)) <;> ((try simp only [decide_eq_true_eq, decide_eq_false_iff_not, Bool.not_eq_true', Bool.not_eq_false', Int.not_lt, Int.not_le, ne_eq, Decidable.not_not, beq_iff_eq, List.cons.injEq, and_true] at hc); (first | (exfalso; omega) | exact absurd True.intro hc | conv => whnf))) | ((with_reducible refine And.intro True.intro ?_); conv => whnf) | ((with_reducible refine grd_and ?_); refine And.intro (hs) ?_; conv => whnf) | ((with_reducible refine And.intro ?hh ?_); (case hh => exact condA); conv => whnf) | fail))
    refine WpR.loopA (ι := Nat × (Nat → Nat)) [] [1, 2, 3, 4, 7] [0] [] 3 (fun p => [(10, .int .i64 p.1)]) (fun p => [(0, .cells (ofL (tV p.2) 0) true none)]) (fun p => 10 - p.1) (fun p => p.1 ≤ 10 ∧ Ps t0 tb p.2 (s * 10 + p.1)) ?_ ((0, t)) (⟨by omega, j2⟩) [] Back.auto
    rintro ⟨o, u⟩ ⟨i1, i2⟩
    dsimp only at i1 i2
    refine WpR.of_vc ?_
    by_cases ho : o < 10
    · have hg1 := fun z (hz : z = s) => tV_get (t := u) hz hs
      have hg2 := fun z (hz : z = o) => tV_get (t := u) hz ho
      have hu := i2.p.tb
      have k1 := fun h' => kh h' (u s) o (by have := hu s hs; omega) (by omega)
      cases hb : (u s).testBit o with
      | false =>
        rw [hb] at k1
        have hn := i2.no hs ho hb
        (conv => whnf); (repeat' (first | ((with_reducible refine ifb_mk (fun hc => ?_) (fun hc => ?_)) <;> ((try simp only [decide_eq_true_eq, decide_eq_false_iff_not, Bool.not_eq_true', Bool.not_eq_false', Int.not_lt, Int.not_le, ne_eq, Decidable.not_not, beq_iff_eq, List.cons.injEq, and_true] at hc); (first | (exfalso; omega) | exact absurd True.intro hc | conv => whnf))) | ((with_reducible refine And.intro True.intro ?_); conv => whnf) | ((with_reducible refine grd_and ?_); refine And.intro (ho) ?_; conv => whnf) | ((with_reducible refine CallX.all ?_); refine CallW.of_ok (k1 _) ?_; conv => whnf) | ((with_reducible refine grd_get ?_); refine som_mk (a := ?_) ?hh ?_; (case hh => exact hg1 _ (by show 0 + Int.toNat (s : Int) * 1 = s; omega)); conv => whnf) | ((with_reducible refine And.intro ?hh ?_); (case hh => exact condA); conv => whnf) | fail))
        all_goals first | (exfalso; omega) | exact ⟨(o + 1, u), [], by dsimp only; omega, ⟨by dsimp only; omega, hn⟩, Back.auto⟩
      | true =>
        rw [hb] at k1
        have hy := i2.yes hs ho hb
        have hgs := fun ρ => tab_or hu hs ho (z := 0 + Int.toNat (s : Int) * 1) (by omega) (gg := none) ρ
        have hp : ∀ (x : Int) z, z = s → putN [V.int .u16 x] (ofL (tV u) 0) z = some ((ofL (tV u) 0).set z (.int .u16 x)) := fun x z hz => by rw [putN_cons, hg1 z hz]; rfl
        (conv => whnf); (repeat' (first | ((with_reducible refine ifb_mk (fun hc => ?_) (fun hc => ?_)) <;> ((try simp only [decide_eq_true_eq, decide_eq_false_iff_not, Bool.not_eq_true', Bool.not_eq_false', Int.not_lt, Int.not_le, ne_eq, Decidable.not_not, beq_iff_eq, List.cons.injEq, and_true] at hc); (first | (exfalso; omega) | exact absurd True.intro hc | conv => whnf))) | ((with_reducible refine And.intro True.intro ?_); conv => whnf) | ((with_reducible refine grd_and ?_); refine And.intro (ho) ?_; conv => whnf) | ((with_reducible refine CallX.all ?_); refine CallW.of_ok (k1 _) ?_; conv => whnf) | ((with_reducible refine grd_get ?_); refine som_mk (a := ?_) ?hh ?_; (case hh => exact hg1 _ (by show 0 + Int.toNat (s : Int) * 1 = s; omega)); conv => whnf) | ((with_reducible refine grd_get ?_); refine som_mk (a := ?_) ?hh ?_; (case hh => exact hg2 _ (by show 0 + Int.toNat (o : Int) * 1 = o; omega)); conv => whnf) | ((with_reducible refine grd_putN ?_); refine som_mk (a := ?_) ?hh ?_; (case hh => exact hp _ _ (by show 0 + Int.toNat (s : Int) * 1 = s; omega)); conv => whnf) | ((with_reducible refine WpR.draw (id := 9) mixed [0, 1, 2, 3, 4, 5, 6, 7, 8] [0, 1, 3, 0, 8, 24, 63, 127, 255] ?hh ?_); (case hh => kernel_rfl); conv => whnf) | ((with_reducible refine And.intro ?hh ?_); (case hh => exact condA); conv => whnf) | fail))
        all_goals first | (exfalso; omega) | exact ⟨(o + 1, inT u s o), [], by dsimp only; omega, ⟨by dsimp only; omega, hy⟩, Back.auto⟩
    · have eo : o = 10 := by omega
      subst eo
      (conv => whnf); (repeat' (first | ((with_reducible refine ifb_mk (fun hc => ?_) (fun hc => ?_)) <;> ((try simp only [decide_eq_true_eq, decide_eq_false_iff_not, Bool.not_eq_true', Bool.not_eq_false', Int.not_lt, Int.not_le, ne_eq, Decidable.not_not, beq_iff_eq, List.cons.injEq, and_true] at hc); (first | (exfalso; omega) | exact absurd True.intro hc | conv => whnf))) | ((with_reducible refine And.intro True.intro ?_); conv => whnf) | ((with_reducible refine grd_and ?_); refine And.intro (ho) ?_; conv => whnf) | ((with_reducible refine And.intro ?hh ?_); (case hh => exact condA); conv => whnf) | fail))
      all_goals first | (exfalso; omega) | exact ⟨(s + 1, u), [], by dsimp only; omega, ⟨by dsimp only; omega, by rw [show (s + 1) * 10 = s * 10 + 10 from by omega]; exact i2⟩, Back.auto⟩
  · have es : s = 10 := by omega
    subst es
    by_cases he : tL t = tL tb
    · have hd := hdone tb t j2 he
      have e1 := fun x y => (tab_eql (t := t) (u := tb) (x := x) (y := y)).trans (by rw [decide_eq_true he])
      (conv => whnf); (repeat' (first | ((with_reducible refine ifb_mk (fun hc => ?_) (fun hc => ?_)) <;> ((try simp only [decide_eq_true_eq, decide_eq_false_iff_not, Bool.not_eq_true', Bool.not_eq_false', Int.not_lt, Int.not_le, ne_eq, Decidable.not_not, beq_iff_eq, List.cons.injEq, and_true] at hc); (first | (exfalso; omega) | exact absurd True.intro hc | conv => whnf))) | ((with_reducible refine And.intro True.intro ?_); conv => whnf) | ((with_reducible refine grd_and ?_); refine And.intro (hs) ?_; conv => whnf) | ((with_reducible refine grd_slow ?_); refine som_mk (a := ?_) ?hh ?_; (case hh => exact e1 _ _); conv => whnf) | ((with_reducible refine And.intro ?hh ?_); (case hh => exact condA); conv => whnf) | fail))
      all_goals (refine ⟨[], ?_, rfl, rfl, trivial, trivs⟩; simp only [renV, renL]; (first | done | exact congrArg V.agg hd | rfl))
    · have hd := hmore tb t j2 he
      have e1 := fun x y => (tab_eql (t := t) (u := tb) (x := x) (y := y)).trans (by rw [decide_eq_false he])
      (conv => whnf); (repeat' (first | ((with_reducible refine ifb_mk (fun hc => ?_) (fun hc => ?_)) <;> ((try simp only [decide_eq_true_eq, decide_eq_false_iff_not, Bool.not_eq_true', Bool.not_eq_false', Int.not_lt, Int.not_le, ne_eq, Decidable.not_not, beq_iff_eq, List.cons.injEq, and_true] at hc); (first | (exfalso; omega) | exact absurd True.intro hc | conv => whnf))) | ((with_reducible refine And.intro True.intro ?_); conv => whnf) | ((with_reducible refine grd_and ?_); refine And.intro (hs) ?_; conv => whnf) | ((with_reducible refine grd_slow ?_); refine som_mk (a := ?_) ?hh ?_; (case hh => exact e1 _ _); conv => whnf) | ((with_reducible refine And.intro ?hh ?_); (case hh => exact condA); conv => whnf) | fail))
      all_goals first | (exfalso; omega) | exact ⟨t, [], by omega, j2.p, Back.auto⟩
end Go.Proofs.J

namespace Go.Proofs.J
open Go.As
set_option maxRecDepth 20000
set_option linter.unusedVariables false
set_option linter.unusedSimpArgs false

/-! ### Books -/

def lkG (a b : Nat → Int) (i : Nat) : List V := [.int .i64 (a i), .int .i64 (b i)]
def bkV (S : Int) (ex : Bool) (n : Nat) (a b : Nat → Int) : V := .agg [.int .i64 S, .rsl ex 2 n (lkG a b)]
/-- Is that a look of a valid book? -/
def okL (S : Int) (a b : Nat → Int) (i : Nat) : Bool := decide ((0 ≤ a i ∧ a i ≤ S - 1) ∧ (0 ≤ b i ∧ b i ≤ S - 1) ∧ a i ≠ b i)
/-- CheckBook: the error. -/
def ckB (S : Int) (n : Nat) (a b : Nat → Int) : Int := if 1 ≤ S ∧ S ≤ 10 ∧ n ≤ 40 then (if allF n (okL S a b) = true then 0 else 2) else 6
theorem within2_ok (h : As.H) (a b x y : Int) (sv : V) (hs : SlC h (iVs [x, y]) 2 sv) : CallOk Try.prog 55 [.int .i64 a, .int .i64 b, sv] h (.bool (decide ((a ≤ x ∧ x ≤ b) ∧ a ≤ y ∧ y ≤ b))) h := by
  have := within_ok h a b [x, y] sv (by simp) hs
  unfold wi at this
  simpa using this
set_option maxHeartbeats 4000000 in
theorem checkBook_ok (h : As.H) (S : Int) (ex : Bool) (n : Nat) (a b : Nat → Int) (hn : n ≤ 9223372036854775807) : CallOk Try.prog 20 [bkV S ex n a b] h (.int .i64 (ckB S n a b)) h := by
  have k1 := fun h' sv hs => within1_ok h' 1 10 S sv hs
  have k2 := fun i h' sv hs => within2_ok h' 0 (S - 1) (a i) (b i) sv hs
  have ho : ∀ i, okL S a b i = decide ((0 ≤ a i ∧ a i ≤ S - 1) ∧ (0 ≤ b i ∧ b i ≤ S - 1) ∧ a i ≠ b i) := fun i => rfl
  unfold ckB
  generalize okL S a b = ok at *
  by_cases h1 : 1 ≤ S ∧ S ≤ 10 ∧ n ≤ 40
  rotate_left
  · rw [if_neg h1]
    by_cases h2 : 1 ≤ S ∧ S ≤ 10
    · rw [decide_eq_true h2] at k1
      refine CallOk.run0 Try.func20 rfl rfl rfl rfl rfl (WpR.of_vc ?_)
      (conv => whnf); (repeat' (first | ((with_reducible refine ifb_mk (fun hc => ?_) (fun hc => ?_)) <;> ((try simp only [decide_eq_true_eq, decide_eq_false_iff_not, Bool.not_eq_true', Bool.not_eq_false', Int.not_lt, Int.not_le, ne_eq, Decidable.not_not, beq_iff_eq, List.cons.injEq, and_true] at hc); (first | (exfalso; omega) | exact absurd True.intro hc | conv => whnf))) | ((with_reducible refine And.intro True.intro ?_); conv => whnf) | ((with_reducible refine CallX.all ?_); refine CallW.of_ok (k1 _ _ (SlC.own rfl)) ?_; conv => whnf) | ((with_reducible refine And.intro ?hh ?_); (case hh => exact condA); conv => whnf) | fail))
      all_goals first | (refine ⟨[], ?_, rfl, rfl, trivial, trivs⟩; simp only [renV, renL]; (first | done | rfl | (simp; done) | (simp; omega) | grind)) | (exfalso; omega)
    · rw [decide_eq_false h2] at k1
      refine CallOk.run0 Try.func20 rfl rfl rfl rfl rfl (WpR.of_vc ?_)
      (conv => whnf); (repeat' (first | ((with_reducible refine ifb_mk (fun hc => ?_) (fun hc => ?_)) <;> ((try simp only [decide_eq_true_eq, decide_eq_false_iff_not, Bool.not_eq_true', Bool.not_eq_false', Int.not_lt, Int.not_le, ne_eq, Decidable.not_not, beq_iff_eq, List.cons.injEq, and_true] at hc); (first | (exfalso; omega) | exact absurd True.intro hc | conv => whnf))) | ((with_reducible refine And.intro True.intro ?_); conv => whnf) | ((with_reducible refine CallX.all ?_); refine CallW.of_ok (k1 _ _ (SlC.own rfl)) ?_; conv => whnf) | ((with_reducible refine And.intro ?hh ?_); (case hh => exact condA); conv => whnf) | fail))
      all_goals first | (refine ⟨[], ?_, rfl, rfl, trivial, trivs⟩; simp only [renV, renL]; (first | done | rfl | (simp; done) | (simp; omega) | grind)) | (exfalso; omega)
  · rw [if_pos h1]
    rw [decide_eq_true (by omega)] at k1
    have hf := @allF_f n
    have ht := @allF_t n
    generalize hz : allF n ok = z at *
    refine CallOk.run0 Try.func20 rfl rfl rfl rfl rfl (WpR.of_vc ?_)
    (conv => whnf); (repeat' (first | ((with_reducible refine ifb_mk (fun hc => ?_) (fun hc => ?_)) <;> ((try simp only [decide_eq_true_eq, decide_eq_false_iff_not, Bool.not_eq_true', Bool.not_eq_false', Int.not_lt, Int.not_le, ne_eq, Decidable.not_not, beq_iff_eq, List.cons.injEq, and_true] at hc); (first | (exfalso; omega) | exact absurd True.intro hc | conv => whnf))) | ((with_reducible refine And.intro True.intro ?_); conv => whnf) | ((with_reducible refine CallX.all ?_); refine CallW.of_ok (k1 _ _ (SlC.own rfl)) ?_; conv => whnf) | ((with_reducible refine And.intro ?hh ?_); (case hh => exact condA); conv => whnf) | fail))
    all_goals first | (exfalso; omega) | skip
    refine WpR.loopA (ι := Nat) [] [1, 17, 18] [] [] 2 (fun i => [(19, .int .i64 i)]) (fun _ => []) (fun i => n - i) (fun i => i ≤ n ∧ ∀ k, k < i → ok k = true) ?_ (0) (⟨by omega, fun k hk => absurd hk (Nat.not_lt_zero _)⟩) [] Back.auto
    rintro i ⟨j1, j2⟩
    refine WpR.of_vc ?_
    by_cases hi : i < n
    · have k2 := k2 i
      have ho := ho i
      by_cases hw : (0 ≤ a i ∧ a i ≤ S - 1) ∧ 0 ≤ b i ∧ b i ≤ S - 1
      · rw [decide_eq_true hw] at k2
        by_cases hne : a i = b i
        · have ez : z = false := by rw [← hz]; exact hf hi (by rw [ho]; exact decide_eq_false (by omega))
          subst ez
          (conv => whnf); (repeat' (first | ((with_reducible refine ifb_mk (fun hc => ?_) (fun hc => ?_)) <;> ((try simp only [decide_eq_true_eq, decide_eq_false_iff_not, Bool.not_eq_true', Bool.not_eq_false', Int.not_lt, Int.not_le, ne_eq, Decidable.not_not, beq_iff_eq, List.cons.injEq, and_true] at hc); (first | (exfalso; omega) | exact absurd True.intro hc | conv => whnf))) | ((with_reducible refine And.intro True.intro ?_); conv => whnf) | ((with_reducible refine grd_and ?_); refine And.intro (hi) ?_; conv => whnf) | ((with_reducible refine grd_ex ?_); refine ex_ok (k2 _ _ (SlC.own rfl)) ?_; conv => whnf) | ((with_reducible refine CallX.all ?_); refine CallW.of_ok (k2 _ _ (SlC.own rfl)) ?_; conv => whnf) | ((with_reducible refine WpR.draw (id := 6) mixed [0, 1, 2, 3, 4, 5, 6, 7, 8, 9, 10, 11, 12] [0, 1, 3, 0, 15, 31, 63, 127, 255, 127, 639, 2047, 4095] ?hh ?_); (case hh => kernel_rfl); conv => whnf) | ((with_reducible refine And.intro ?hh ?_); (case hh => exact condA); conv => whnf) | fail))
          all_goals first | (refine ⟨[], ?_, rfl, rfl, trivial, trivs⟩; simp only [renV, renL]; (first | done | rfl | (simp; done) | (simp; omega) | grind)) | (exfalso; omega)
        · have hok : ok i = true := by rw [ho]; exact decide_eq_true ⟨hw.1, hw.2, hne⟩
          (conv => whnf); (repeat' (first | ((with_reducible refine ifb_mk (fun hc => ?_) (fun hc => ?_)) <;> ((try simp only [decide_eq_true_eq, decide_eq_false_iff_not, Bool.not_eq_true', Bool.not_eq_false', Int.not_lt, Int.not_le, ne_eq, Decidable.not_not, beq_iff_eq, List.cons.injEq, and_true] at hc); (first | (exfalso; omega) | exact absurd True.intro hc | conv => whnf))) | ((with_reducible refine And.intro True.intro ?_); conv => whnf) | ((with_reducible refine grd_and ?_); refine And.intro (hi) ?_; conv => whnf) | ((with_reducible refine grd_ex ?_); refine ex_ok (k2 _ _ (SlC.own rfl)) ?_; conv => whnf) | ((with_reducible refine CallX.all ?_); refine CallW.of_ok (k2 _ _ (SlC.own rfl)) ?_; conv => whnf) | ((with_reducible refine WpR.draw (id := 6) mixed [0, 1, 2, 3, 4, 5, 6, 7, 8, 9, 10, 11, 12] [0, 1, 3, 0, 15, 31, 63, 127, 255, 127, 639, 2047, 4095] ?hh ?_); (case hh => kernel_rfl); conv => whnf) | ((with_reducible refine And.intro ?hh ?_); (case hh => exact condA); conv => whnf) | fail))
          all_goals first | (exfalso; omega) | exact ⟨i + 1, [], by omega, ⟨by omega, below_succ j2 hok⟩, Back.auto⟩
      · rw [decide_eq_false hw] at k2
        have ez : z = false := by rw [← hz]; exact hf hi (by rw [ho]; exact decide_eq_false (by omega))
        subst ez
        (conv => whnf); (repeat' (first | ((with_reducible refine ifb_mk (fun hc => ?_) (fun hc => ?_)) <;> ((try simp only [decide_eq_true_eq, decide_eq_false_iff_not, Bool.not_eq_true', Bool.not_eq_false', Int.not_lt, Int.not_le, ne_eq, Decidable.not_not, beq_iff_eq, List.cons.injEq, and_true] at hc); (first | (exfalso; omega) | exact absurd True.intro hc | conv => whnf))) | ((with_reducible refine And.intro True.intro ?_); conv => whnf) | ((with_reducible refine grd_and ?_); refine And.intro (hi) ?_; conv => whnf) | ((with_reducible refine grd_ex ?_); refine ex_ok (k2 _ _ (SlC.own rfl)) ?_; conv => whnf) | ((with_reducible refine CallX.all ?_); refine CallW.of_ok (k2 _ _ (SlC.own rfl)) ?_; conv => whnf) | ((with_reducible refine WpR.draw (id := 6) mixed [0, 1, 2, 3, 4, 5, 6, 7, 8, 9, 10, 11, 12] [0, 1, 3, 0, 15, 31, 63, 127, 255, 127, 639, 2047, 4095] ?hh ?_); (case hh => kernel_rfl); conv => whnf) | ((with_reducible refine And.intro ?hh ?_); (case hh => exact condA); conv => whnf) | fail))
        all_goals first | (refine ⟨[], ?_, rfl, rfl, trivial, trivs⟩; simp only [renV, renL]; (first | done | rfl | (simp; done) | (simp; omega) | grind)) | (exfalso; omega)
    · have ez : z = true := by rw [← hz]; exact ht fun k hk => j2 k (by omega)
      subst ez
      (conv => whnf); (repeat' (first | ((with_reducible refine ifb_mk (fun hc => ?_) (fun hc => ?_)) <;> ((try simp only [decide_eq_true_eq, decide_eq_false_iff_not, Bool.not_eq_true', Bool.not_eq_false', Int.not_lt, Int.not_le, ne_eq, Decidable.not_not, beq_iff_eq, List.cons.injEq, and_true] at hc); (first | (exfalso; omega) | exact absurd True.intro hc | conv => whnf))) | ((with_reducible refine And.intro True.intro ?_); conv => whnf) | ((with_reducible refine grd_and ?_); refine And.intro (hi) ?_; conv => whnf) | ((with_reducible refine And.intro ?hh ?_); (case hh => exact condA); conv => whnf) | fail))
      all_goals first | (refine ⟨[], ?_, rfl, rfl, trivial, trivs⟩; simp only [renV, renL]; (first | done | rfl | (simp; done) | (simp; omega) | grind)) | (exfalso; omega)
end Go.Proofs.J

namespace Go.Proofs.J
open Go.As
set_option maxRecDepth 20000
set_option linter.unusedVariables false
set_option linter.unusedSimpArgs false

/-! ### The definitions: books, looks -/

theorem isStar_ok (h : As.H) (S : Int) (ex : Bool) (n : Nat) (a b : Nat → Int) (x : Int) : CallOk Try.prog 56 [bkV S ex n a b, .int .i64 x] h (.bool (decide (0 ≤ x ∧ x < S))) h := by
  by_cases h1 : 0 ≤ x
  · by_cases h2 : x < S
    · rw [decide_eq_true ⟨h1, h2⟩]
      refine CallOk.run0 Try.func56 rfl rfl rfl rfl rfl (WpR.of_vc ?_)
      (conv => whnf); (repeat' (first | ((with_reducible refine ifb_mk (fun hc => ?_) (fun hc => ?_)) <;> ((try simp only [decide_eq_true_eq, decide_eq_false_iff_not, Bool.not_eq_true', Bool.not_eq_false', Int.not_lt, Int.not_le, ne_eq, Decidable.not_not, beq_iff_eq, List.cons.injEq, and_true] at hc); (first | (exfalso; omega) | exact absurd True.intro hc | conv => whnf))) | ((with_reducible refine And.intro True.intro ?_); conv => whnf) | ((with_reducible refine And.intro ?hh ?_); (case hh => exact condA); conv => whnf) | fail))
      all_goals first | (refine ⟨[], ?_, rfl, rfl, trivial, trivs⟩; simp only [renV, renL]; (first | done | rfl | (simp; done) | (simp; omega) | grind)) | (exfalso; omega)
    · rw [decide_eq_false (by omega)]
      refine CallOk.run0 Try.func56 rfl rfl rfl rfl rfl (WpR.of_vc ?_)
      (conv => whnf); (repeat' (first | ((with_reducible refine ifb_mk (fun hc => ?_) (fun hc => ?_)) <;> ((try simp only [decide_eq_true_eq, decide_eq_false_iff_not, Bool.not_eq_true', Bool.not_eq_false', Int.not_lt, Int.not_le, ne_eq, Decidable.not_not, beq_iff_eq, List.cons.injEq, and_true] at hc); (first | (exfalso; omega) | exact absurd True.intro hc | conv => whnf))) | ((with_reducible refine And.intro True.intro ?_); conv => whnf) | ((with_reducible refine And.intro ?hh ?_); (case hh => exact condA); conv => whnf) | fail))
      all_goals first | (refine ⟨[], ?_, rfl, rfl, trivial, trivs⟩; simp only [renV, renL]; (first | done | rfl | (simp; done) | (simp; omega) | grind)) | (exfalso; omega)
  · rw [decide_eq_false (by omega)]
    refine CallOk.run0 Try.func56 rfl rfl rfl rfl rfl (WpR.of_vc ?_)
    (conv => whnf); (repeat' (first | ((with_reducible refine ifb_mk (fun hc => ?_) (fun hc => ?_)) <;> ((try simp only [decide_eq_true_eq, decide_eq_false_iff_not, Bool.not_eq_true', Bool.not_eq_false', Int.not_lt, Int.not_le, ne_eq, Decidable.not_not, beq_iff_eq, List.cons.injEq, and_true] at hc); (first | (exfalso; omega) | exact absurd True.intro hc | conv => whnf))) | ((with_reducible refine And.intro True.intro ?_); conv => whnf) | ((with_reducible refine And.intro ?hh ?_); (case hh => exact condA); conv => whnf) | fail))
    all_goals first | (refine ⟨[], ?_, rfl, rfl, trivial, trivs⟩; simp only [renV, renL]; (first | done | rfl | (simp; done) | (simp; omega) | grind)) | (exfalso; omega)
set_option maxHeartbeats 4000000 in
theorem checkBookR_ok (h : As.H) (S : Int) (ex : Bool) (n : Nat) (a b : Nat → Int) (hn : n ≤ 9223372036854775807) : CallOk Try.prog 21 [bkV S ex n a b] h (.int .i64 (ckB S n a b)) h := by
  have kS := fun i h' => isStar_ok h' S ex n a b (a i)
  have kT := fun i h' => isStar_ok h' S ex n a b (b i)
  have ho : ∀ i, okL S a b i = decide ((0 ≤ a i ∧ a i ≤ S - 1) ∧ (0 ≤ b i ∧ b i ≤ S - 1) ∧ a i ≠ b i) := fun i => rfl
  unfold ckB
  generalize okL S a b = ok at *
  by_cases h1 : 1 ≤ S ∧ S ≤ 10 ∧ n ≤ 40
  rotate_left
  · rw [if_neg h1]
    refine CallOk.run0 Try.func21 rfl rfl rfl rfl rfl (WpR.of_vc ?_)
    (conv => whnf); (repeat' (first | ((with_reducible refine ifb_mk (fun hc => ?_) (fun hc => ?_)) <;> ((try simp only [decide_eq_true_eq, decide_eq_false_iff_not, Bool.not_eq_true', Bool.not_eq_false', Int.not_lt, Int.not_le, ne_eq, Decidable.not_not, beq_iff_eq, List.cons.injEq, and_true] at hc); (first | (exfalso; omega) | exact absurd True.intro hc | conv => whnf))) | ((with_reducible refine And.intro True.intro ?_); conv => whnf) | ((with_reducible refine And.intro ?hh ?_); (case hh => exact condA); conv => whnf) | fail))
    all_goals first | (refine ⟨[], ?_, rfl, rfl, trivial, trivs⟩; simp only [renV, renL]; (first | done | rfl | (simp; done) | (simp; omega) | grind)) | (exfalso; omega)
  · rw [if_pos h1]
    have hf := @allF_f n
    have ht := @allF_t n
    generalize hz : allF n ok = z at *
    refine CallOk.run0 Try.func21 rfl rfl rfl rfl rfl (WpR.of_vc ?_)
    (conv => whnf); (repeat' (first | ((with_reducible refine ifb_mk (fun hc => ?_) (fun hc => ?_)) <;> ((try simp only [decide_eq_true_eq, decide_eq_false_iff_not, Bool.not_eq_true', Bool.not_eq_false', Int.not_lt, Int.not_le, ne_eq, Decidable.not_not, beq_iff_eq, List.cons.injEq, and_true] at hc); (first | (exfalso; omega) | exact absurd True.intro hc | conv => whnf))) | ((with_reducible refine And.intro True.intro ?_); conv => whnf) | ((with_reducible refine And.intro ?hh ?_); (case hh => exact condA); conv => whnf) | fail))
    all_goals first | (exfalso; omega) | skip
    refine WpR.loopA (ι := Nat) [] [1] [] [] 1 (fun i => [(3, .int .i64 i)]) (fun _ => []) (fun i => n - i) (fun i => i ≤ n ∧ ∀ k, k < i → ok k = true) ?_ (0) (⟨by omega, fun k hk => absurd hk (Nat.not_lt_zero _)⟩) [] Back.auto
    rintro i ⟨j1, j2⟩
    refine WpR.of_vc ?_
    by_cases hi : i < n
    · have kS := kS i
      have kT := kT i
      have ho := ho i
      by_cases hw : (0 ≤ a i ∧ a i < S)
      · rw [decide_eq_true hw] at kS
        by_cases hw2 : (0 ≤ b i ∧ b i < S)
        · rw [decide_eq_true hw2] at kT
          by_cases hne : a i = b i
          · have ez : z = false := by rw [← hz]; exact hf hi (by rw [ho]; exact decide_eq_false (by omega))
            subst ez
            (conv => whnf); (repeat' (first | ((with_reducible refine ifb_mk (fun hc => ?_) (fun hc => ?_)) <;> ((try simp only [decide_eq_true_eq, decide_eq_false_iff_not, Bool.not_eq_true', Bool.not_eq_false', Int.not_lt, Int.not_le, ne_eq, Decidable.not_not, beq_iff_eq, List.cons.injEq, and_true] at hc); (first | (exfalso; omega) | exact absurd True.intro hc | conv => whnf))) | ((with_reducible refine And.intro True.intro ?_); conv => whnf) | ((with_reducible refine grd_and ?_); refine And.intro (hi) ?_; conv => whnf) | ((with_reducible refine grd_ex ?_); refine ex_ok (kS _) ?_; conv => whnf) | ((with_reducible refine CallX.all ?_); refine CallW.of_ok (kS _) ?_; conv => whnf) | ((with_reducible refine grd_ex ?_); refine ex_ok (kT _) ?_; conv => whnf) | ((with_reducible refine CallX.all ?_); refine CallW.of_ok (kT _) ?_; conv => whnf) | ((with_reducible refine WpR.draw (id := 6) mixed [0, 1, 2, 3, 4, 5, 6, 7, 8, 9, 10, 11, 12, 13, 14, 15, 16, 17, 18, 19, 20, 21, 22, 23, 24, 25, 26, 27, 28, 29, 30, 31, 32, 33, 34] [0, 0, 2, 0, 14, 30, 62, 127, 255, 511, 1023, 1023, 3071, 1023, 15359, 31743, 64511, 131071, 262143, 524287, 1048575, 2097151, 4194303, 2097151, 16777215, 33554431, 67108863, 2097151, 136314879, 2097151, 941621247, 2015363071, 4162846719, 8589934591, 17179869183] ?hh ?_); (case hh => kernel_rfl); conv => whnf) | ((with_reducible refine And.intro ?hh ?_); (case hh => exact condA); conv => whnf) | fail))
            all_goals first | (refine ⟨[], ?_, rfl, rfl, trivial, trivs⟩; simp only [renV, renL]; (first | done | rfl | (simp; done) | (simp; omega) | grind)) | (exfalso; omega)
          · have hok : ok i = true := by rw [ho]; exact decide_eq_true ⟨by omega, by omega, hne⟩
            (conv => whnf); (repeat' (first | ((with_reducible refine ifb_mk (fun hc => ?_) (fun hc => ?_)) <;> ((try simp only [decide_eq_true_eq, decide_eq_false_iff_not, Bool.not_eq_true', Bool.not_eq_false', Int.not_lt, Int.not_le, ne_eq, Decidable.not_not, beq_iff_eq, List.cons.injEq, and_true] at hc); (first | (exfalso; omega) | exact absurd True.intro hc | conv => whnf))) | ((with_reducible refine And.intro True.intro ?_); conv => whnf) | ((with_reducible refine grd_and ?_); refine And.intro (hi) ?_; conv => whnf) | ((with_reducible refine grd_ex ?_); refine ex_ok (kS _) ?_; conv => whnf) | ((with_reducible refine CallX.all ?_); refine CallW.of_ok (kS _) ?_; conv => whnf) | ((with_reducible refine grd_ex ?_); refine ex_ok (kT _) ?_; conv => whnf) | ((with_reducible refine CallX.all ?_); refine CallW.of_ok (kT _) ?_; conv => whnf) | ((with_reducible refine WpR.draw (id := 6) mixed [0, 1, 2, 3, 4, 5, 6, 7, 8, 9, 10, 11, 12, 13, 14, 15, 16, 17, 18, 19, 20, 21, 22, 23, 24, 25, 26, 27, 28, 29, 30, 31, 32, 33, 34] [0, 0, 2, 0, 14, 30, 62, 127, 255, 511, 1023, 1023, 3071, 1023, 15359, 31743, 64511, 131071, 262143, 524287, 1048575, 2097151, 4194303, 2097151, 16777215, 33554431, 67108863, 2097151, 136314879, 2097151, 941621247, 2015363071, 4162846719, 8589934591, 17179869183] ?hh ?_); (case hh => kernel_rfl); conv => whnf) | ((with_reducible refine And.intro ?hh ?_); (case hh => exact condA); conv => whnf) | fail))
            all_goals first | (exfalso; omega) | exact ⟨i + 1, [], by omega, ⟨by omega, below_succ j2 hok⟩, Back.auto⟩
        · rw [decide_eq_false hw2] at kT
          have ez : z = false := by rw [← hz]; exact hf hi (by rw [ho]; exact decide_eq_false (by omega))
          subst ez
          (conv => whnf); (repeat' (first | ((with_reducible refine ifb_mk (fun hc => ?_) (fun hc => ?_)) <;> ((try simp only [decide_eq_true_eq, decide_eq_false_iff_not, Bool.not_eq_true', Bool.not_eq_false', Int.not_lt, Int.not_le, ne_eq, Decidable.not_not, beq_iff_eq, List.cons.injEq, and_true] at hc); (first | (exfalso; omega) | exact absurd True.intro hc | conv => whnf))) | ((with_reducible refine And.intro True.intro ?_); conv => whnf) | ((with_reducible refine grd_and ?_); refine And.intro (hi) ?_; conv => whnf) | ((with_reducible refine grd_ex ?_); refine ex_ok (kS _) ?_; conv => whnf) | ((with_reducible refine CallX.all ?_); refine CallW.of_ok (kS _) ?_; conv => whnf) | ((with_reducible refine grd_ex ?_); refine ex_ok (kT _) ?_; conv => whnf) | ((with_reducible refine CallX.all ?_); refine CallW.of_ok (kT _) ?_; conv => whnf) | ((with_reducible refine WpR.draw (id := 6) mixed [0, 1, 2, 3, 4, 5, 6, 7, 8, 9, 10, 11, 12, 13, 14, 15, 16, 17, 18, 19, 20, 21, 22, 23, 24, 25, 26, 27, 28, 29, 30, 31, 32, 33, 34] [0, 0, 2, 0, 14, 30, 62, 127, 255, 511, 1023, 1023, 3071, 1023, 15359, 31743, 64511, 131071, 262143, 524287, 1048575, 2097151, 4194303, 2097151, 16777215, 33554431, 67108863, 2097151, 136314879, 2097151, 941621247, 2015363071, 4162846719, 8589934591, 17179869183] ?hh ?_); (case hh => kernel_rfl); conv => whnf) | ((with_reducible refine And.intro ?hh ?_); (case hh => exact condA); conv => whnf) | fail))
          all_goals first | (refine ⟨[], ?_, rfl, rfl, trivial, trivs⟩; simp only [renV, renL]; (first | done | rfl | (simp; done) | (simp; omega) | grind)) | (exfalso; omega)
      · rw [decide_eq_false hw] at kS
        have ez : z = false := by rw [← hz]; exact hf hi (by rw [ho]; exact decide_eq_false (by omega))
        subst ez
        (conv => whnf); (repeat' (first | ((with_reducible refine ifb_mk (fun hc => ?_) (fun hc => ?_)) <;> ((try simp only [decide_eq_true_eq, decide_eq_false_iff_not, Bool.not_eq_true', Bool.not_eq_false', Int.not_lt, Int.not_le, ne_eq, Decidable.not_not, beq_iff_eq, List.cons.injEq, and_true] at hc); (first | (exfalso; omega) | exact absurd True.intro hc | conv => whnf))) | ((with_reducible refine And.intro True.intro ?_); conv => whnf) | ((with_reducible refine grd_and ?_); refine And.intro (hi) ?_; conv => whnf) | ((with_reducible refine grd_ex ?_); refine ex_ok (kS _) ?_; conv => whnf) | ((with_reducible refine CallX.all ?_); refine CallW.of_ok (kS _) ?_; conv => whnf) | ((with_reducible refine grd_ex ?_); refine ex_ok (kT _) ?_; conv => whnf) | ((with_reducible refine CallX.all ?_); refine CallW.of_ok (kT _) ?_; conv => whnf) | ((with_reducible refine WpR.draw (id := 6) mixed [0, 1, 2, 3, 4, 5, 6, 7, 8, 9, 10, 11, 12, 13, 14, 15, 16, 17, 18, 19, 20, 21, 22, 23, 24, 25, 26, 27, 28, 29, 30, 31, 32, 33, 34] [0, 0, 2, 0, 14, 30, 62, 127, 255, 511, 1023, 1023, 3071, 1023, 15359, 31743, 64511, 131071, 262143, 524287, 1048575, 2097151, 4194303, 2097151, 16777215, 33554431, 67108863, 2097151, 136314879, 2097151, 941621247, 2015363071, 4162846719, 8589934591, 17179869183] ?hh ?_); (case hh => kernel_rfl); conv => whnf) | ((with_reducible refine And.intro ?hh ?_); (case hh => exact condA); conv => whnf) | fail))
        all_goals first | (refine ⟨[], ?_, rfl, rfl, trivial, trivs⟩; simp only [renV, renL]; (first | done | rfl | (simp; done) | (simp; omega) | grind)) | (exfalso; omega)
    · have ez : z = true := by rw [← hz]; exact ht fun k hk => j2 k (by omega)
      subst ez
      (conv => whnf); (repeat' (first | ((with_reducible refine ifb_mk (fun hc => ?_) (fun hc => ?_)) <;> ((try simp only [decide_eq_true_eq, decide_eq_false_iff_not, Bool.not_eq_true', Bool.not_eq_false', Int.not_lt, Int.not_le, ne_eq, Decidable.not_not, beq_iff_eq, List.cons.injEq, and_true] at hc); (first | (exfalso; omega) | exact absurd True.intro hc | conv => whnf))) | ((with_reducible refine And.intro True.intro ?_); conv => whnf) | ((with_reducible refine grd_and ?_); refine And.intro (hi) ?_; conv => whnf) | ((with_reducible refine And.intro ?hh ?_); (case hh => exact condA); conv => whnf) | fail))
      all_goals first | (refine ⟨[], ?_, rfl, rfl, trivial, trivs⟩; simp only [renV, renL]; (first | done | rfl | (simp; done) | (simp; omega) | grind)) | (exfalso; omega)
end Go.Proofs.J

