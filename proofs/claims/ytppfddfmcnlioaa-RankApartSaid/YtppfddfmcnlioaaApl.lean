/- What the functions answer that the laws call, one after another (Apl). -/
import Derived.Test.YtppfddfmcnlioaaAs6
import Derived.Test.YtppfddfmcnlioaaCnt
import Derived.Test.YtppfddfmcnlioaaLei
import Derived.Test.YtppfddfmcnlioaaTh

set_option linter.unusedVariables false
namespace Go.Proofs.J
open Go.As
set_option maxRecDepth 20000
set_option linter.unusedVariables false
set_option linter.unusedSimpArgs false

/-! ### Two books that know nothing of each other: how many ways -/

def chN : Nat → Nat → Nat
  | _, 0 => 1
  | 0, _ + 1 => 0
  | n + 1, k + 1 => chN n k + chN n (k + 1)
theorem chN_0 (n : Nat) : chN n 0 = 1 := by cases n <;> rfl
theorem chN_lt : ∀ n k, n < k → chN n k = 0
  | _, 0, h => by omega
  | 0, k + 1, _ => rfl
  | n + 1, k + 1, h => by unfold chN; rw [chN_lt n k (by omega), chN_lt n (k + 1) (by omega)]
theorem smZ_add (f : Nat → Int) (a : Nat) : ∀ b, smZ (a + b) f = smZ a f + smZ b fun y => f (a + y)
  | 0 => by show smZ a f = smZ a f + 0; omega
  | b + 1 => by
    show smZ (a + b) f + f (a + b) = smZ a f + (smZ b (fun y => f (a + y)) + f (a + b))
    rw [smZ_add f a b]; omega
theorem smZ_mul (c : Int) (f : Nat → Int) : ∀ n, smZ n (fun x => c * f x) = c * smZ n f
  | 0 => by show (0 : Int) = c * 0; rw [Int.mul_zero]
  | n + 1 => by show smZ n (fun x => c * f x) + c * f n = c * (smZ n f + f n); rw [smZ_mul c f n, Int.mul_add]
/-- A table of two. -/
structure Un (sa sb : Nat) (ba bb bu : Nat → Nat) : Prop where
  hs : sa + sb ≤ 10
  l : ∀ x, x < sa → ∀ i, (bu x).testBit i = (ba x).testBit i
  r : ∀ y, y < sb → ∀ i, (bu (sa + y)).testBit i = (decide (sa ≤ i) && (bb y).testBit (i - sa))
  la : ∀ x, x < sa → ∀ i, (ba x).testBit i = true → i < sa
  lb : ∀ y, y < sb → ∀ i, (bb y).testBit i = true → i < sb
  zu : ∀ x, x < sa + sb → bu x < 65536
  za : ∀ x, x < sa → ba x < 65536
  zb : ∀ x, x < sb → bb x < 65536
/-- What is there of both. -/
structure Of (sa : Nat) (g g1 g2 : Nat) : Prop where
  b : ∀ i, g.testBit i = if i < sa then g1.testBit i else g2.testBit (i - sa)
section
variable {sa sb : Nat} {ba bb bu : Nat → Nat} {g g1 g2 : Nat}
theorem Un.el1 (u : Un sa sb ba bb bu) (o : Of sa g g1 g2) {x : Nat} (hx : x < sa) : elB bu g x = elB ba g1 x := by
  unfold elB
  rw [o.b, if_pos hx]
  congr 1
  refine Bool.eq_iff_iff.2 ?_
  rw [subB_iff (u.zu x (by omega)), subB_iff (u.za x hx)]
  refine forall_congr' fun i => ?_
  rw [u.l x hx]
  constructor
  · intro h hb
    have := h hb
    rwa [o.b, if_pos (u.la x hx i hb)] at this
  · intro h hb
    rw [o.b, if_pos (u.la x hx i hb)]
    exact h hb
theorem Un.el2 (u : Un sa sb ba bb bu) (o : Of sa g g1 g2) {y : Nat} (hy : y < sb) : elB bu g (sa + y) = elB bb g2 y := by
  unfold elB
  rw [o.b, if_neg (by omega), show sa + y - sa = y from by omega]
  congr 1
  refine Bool.eq_iff_iff.2 ?_
  rw [subB_iff (u.zu (sa + y) (by omega)), subB_iff (u.zb y hy)]
  constructor
  · intro h i hb
    have := h (sa + i) (by rw [u.r y hy, decide_eq_true (by omega), show sa + i - sa = i from by omega, hb]; rfl)
    rwa [o.b, if_neg (by omega), show sa + i - sa = i from by omega] at this
  · intro h i hb
    rw [u.r y hy, Bool.and_eq_true, decide_eq_true_eq] at hb
    rw [o.b, if_neg (by omega)]
    exact h _ hb.2
theorem Of.one (o : Of sa g g1 g2) {x : Nat} (hx : x < sa) : Of sa (g ||| 2 ^ x) (g1 ||| 2 ^ x) g2 where
  b := fun i => by
    rw [testBit_with, testBit_with, o.b]
    by_cases hi : i < sa
    · rw [if_pos hi, if_pos hi]
    · rw [if_neg hi, if_neg hi, decide_eq_false (by omega), Bool.or_false]
theorem Of.two (o : Of sa g g1 g2) (y : Nat) : Of sa (g ||| 2 ^ (sa + y)) g1 (g2 ||| 2 ^ y) where
  b := fun i => by
    rw [testBit_with, testBit_with, o.b]
    by_cases hi : i < sa
    · rw [if_pos hi, if_pos hi, decide_eq_false (by omega), Bool.or_false]
    · rw [if_neg hi, if_neg hi]
      congr 1
      exact decide_eq_decide.2 (by omega)
theorem el_in {br : Nat → Nat} {g x : Nat} (h : elB br g x = true) : g.testBit x = false := by
  unfold elB at h; rw [Bool.and_eq_true, Bool.not_eq_true'] at h; exact h.1
/-- The ways of both: how the two are mixed, times the ways of each. -/
theorem Un.ways (u : Un sa sb ba bb bu) : ∀ k m1 m2 g g1 g2, m1 + m2 = k → Of sa g g1 g2 → pcN g1 sa + m1 = sa → pcN g2 sb + m2 = sb → wN bu (sa + sb) k g = (chN k m1 : Int) * (wN ba sa m1 g1 * wN bb sb m2 g2)
  | 0, m1, m2, g, g1, g2, hk, o, h1, h2 => by
    have e1 : m1 = 0 := by omega
    have e2 : m2 = 0 := by omega
    subst e1; subst e2
    rfl
  | k + 1, m1, m2, g, g1, g2, hk, o, h1, h2 => by
    have ex : wN bu (sa + sb) (k + 1) g = smZ (sa + sb) fun x => if elB bu g x = true then wN bu (sa + sb) k (g ||| 2 ^ x) else 0 := rfl
    rw [ex, smZ_add]
    have s1 : smZ sa (fun x => if elB bu g x = true then wN bu (sa + sb) k (g ||| 2 ^ x) else 0) = ((if m1 = 0 then 0 else chN k (m1 - 1) : Nat) : Int) * (wN ba sa m1 g1 * wN bb sb m2 g2) := by
      cases m1 with
      | zero =>
        rw [if_pos rfl]
        rw [smZ_zero sa fun x hx => ?_]
        · show (0 : Int) = 0 * _; rw [Int.zero_mul]
        · rw [u.el1 o hx]
          rw [if_neg (fun h => by have := el_in h; rw [pcN_all (by omega) x hx] at this; cases this)]
      | succ m =>
        rw [if_neg (by omega), show m + 1 - 1 = m from rfl]
        have e1 : wN ba sa (m + 1) g1 = smZ sa fun x => if elB ba g1 x = true then wN ba sa m (g1 ||| 2 ^ x) else 0 := rfl
        rw [e1, Int.mul_comm (smZ sa _), ← Int.mul_assoc, ← smZ_mul]
        refine smZ_congr sa fun x hx => ?_
        rw [u.el1 o hx]
        by_cases he : elB ba g1 x = true
        · rw [if_pos he, if_pos he, Un.ways u k m m2 _ _ _ (by omega) (o.one hx) (by rw [pcN_with (el_in he), if_pos hx]; omega) h2, Int.mul_assoc, Int.mul_comm (wN bb sb m2 g2)]
        · rw [if_neg he, if_neg he, Int.mul_zero]
    have s2 : smZ sb (fun y => if elB bu g (sa + y) = true then wN bu (sa + sb) k (g ||| 2 ^ (sa + y)) else 0) = ((if m2 = 0 then 0 else chN k m1 : Nat) : Int) * (wN ba sa m1 g1 * wN bb sb m2 g2) := by
      cases m2 with
      | zero =>
        rw [if_pos rfl]
        rw [smZ_zero sb fun x hx => ?_]
        · show (0 : Int) = 0 * _; rw [Int.zero_mul]
        · rw [u.el2 o hx]
          rw [if_neg (fun h => by have := el_in h; rw [pcN_all (by omega) x hx] at this; cases this)]
      | succ m =>
        rw [if_neg (by omega)]
        have e1 : wN bb sb (m + 1) g2 = smZ sb fun x => if elB bb g2 x = true then wN bb sb m (g2 ||| 2 ^ x) else 0 := rfl
        rw [e1, ← Int.mul_assoc, ← smZ_mul]
        refine smZ_congr sb fun x hx => ?_
        rw [u.el2 o hx]
        by_cases he : elB bb g2 x = true
        · rw [if_pos he, if_pos he, Un.ways u k m1 m _ _ _ (by omega) (o.two x) h1 (by rw [pcN_with (el_in he), if_pos hx]; omega), Int.mul_assoc]
        · rw [if_neg he, if_neg he, Int.mul_zero]
    rw [s1, s2, ← Int.add_mul, ← Int.natCast_add]
    congr 2
    cases m1 with
    | zero => rw [if_pos rfl, if_neg (by omega), chN_0, chN_0]
    | succ m =>
      rw [if_neg (by omega), show m + 1 - 1 = m from rfl]
      show _ = chN k m + chN k (m + 1)
      by_cases e : m2 = 0
      · rw [if_pos e, chN_lt k (m + 1) (by omega)]
      · rw [if_neg e]
end
/-- There are no more ways than S!. -/
def faN : Nat → Nat
  | 0 => 1
  | n + 1 => (n + 1) * faN n
theorem ways_fa {br : Nat → Nat} {S : Nat} : ∀ m g, pcN g S + m = S → 0 ≤ wN br S m g ∧ wN br S m g ≤ (faN m : Int)
  | 0, g, _ => ⟨(by show (0 : Int) ≤ 1; decide), (by show (1 : Int) ≤ ((1 : Nat) : Int); decide)⟩
  | m + 1, g, h => by
    have ex : wN br S (m + 1) g = smZ S fun x => if elB br g x = true then wN br S m (g ||| 2 ^ x) else 0 := rfl
    have key : ∀ n, n ≤ S → 0 ≤ smZ n (fun x => if elB br g x = true then wN br S m (g ||| 2 ^ x) else 0) ∧ smZ n (fun x => if elB br g x = true then wN br S m (g ||| 2 ^ x) else 0) ≤ ((n - pcN g n : Nat) : Int) * (faN m : Int) := fun n => by
      induction n with
      | zero => intro _; refine ⟨Int.le_refl 0, ?_⟩; show (0 : Int) ≤ ((0 - 0 : Nat) : Int) * _; simp
      | succ n ih =>
        intro hn
        obtain ⟨i1, i2⟩ := ih (by omega)
        have hp := pcN_le g n
        have e1 : pcN g (n + 1) = pcN g n + (if g.testBit n = true then 1 else 0) := rfl
        have e2 : smZ (n + 1) (fun x => if elB br g x = true then wN br S m (g ||| 2 ^ x) else 0) = smZ n (fun x => if elB br g x = true then wN br S m (g ||| 2 ^ x) else 0) + (if elB br g n = true then wN br S m (g ||| 2 ^ n) else 0) := rfl
        rw [e1, e2]
        generalize smZ n (fun x => if elB br g x = true then wN br S m (g ||| 2 ^ x) else 0) = s at *
        by_cases he : elB br g n = true
        · have hb := el_in he
          have hq : pcN (g ||| 2 ^ n) S + m = S := by
            have hq := pcN_with hb S
            rw [if_pos (by omega : n < S)] at hq
            omega
          have hw := ways_fa (br := br) m (g ||| 2 ^ n) hq
          rw [if_pos he, hb, if_neg (by decide), show n + 1 - (pcN g n + 0) = (n - pcN g n) + 1 from by omega, Int.natCast_add, Int.add_mul]
          refine ⟨by omega, ?_⟩
          have : ((1 : Nat) : Int) * (faN m : Int) = (faN m : Int) := by simp
          rw [this]
          omega
        · rw [if_neg he, Int.add_zero]
          refine ⟨i1, Int.le_trans i2 (Int.mul_le_mul_of_nonneg_right ?_ (Int.natCast_nonneg _))⟩
          split <;> omega
    have := key S (Nat.le_refl _)
    rw [← ex] at this
    refine ⟨this.1, Int.le_trans this.2 ?_⟩
    rw [show S - pcN g S = m + 1 from by omega, ← Int.natCast_mul]
    exact Int.le_refl _
end Go.Proofs.J

namespace Go.Proofs.J
open Go.As
set_option maxRecDepth 20000
set_option linter.unusedVariables false
set_option linter.unusedSimpArgs false

/-- The looks of both, the stars of the second one numbered on. -/
def joF (na : Nat) (d : Int) (a b : Nat → Int) : Nat → Int := fun i => if i < na then a i else b (i - na) + d
section
variable {sa sb na nb : Nat} {a1 b1 a2 b2 : Nat → Int}
theorem jo_ok (h1 : ∀ i, i < na → okL sa a1 b1 i = true) (h2 : ∀ i, i < nb → okL sb a2 b2 i = true) : ∀ i, i < na + nb → okL ((sa + sb : Nat) : Int) (joF na sa a1 a2) (joF na sa b1 b2) i = true := fun i hi => by
  unfold okL joF
  refine decide_eq_true ?_
  by_cases h : i < na
  · have := of_decide_eq_true (h1 i h)
    simp only [if_pos h]
    omega
  · have := of_decide_eq_true (h2 (i - na) (by omega))
    simp only [if_neg h]
    omega
theorem jo_bit (h1 : ∀ i, i < na → okL sa a1 b1 i = true) (h2 : ∀ i, i < nb → okL sb a2 b2 i = true) (x y : Nat) : (loT (joF na sa a1 a2) (joF na sa b1 b2) (na + nb) y).testBit x = true ↔ (x < sa ∧ y < sa ∧ (loT a1 b1 na y).testBit x = true) ∨ (sa ≤ x ∧ sa ≤ y ∧ (loT a2 b2 nb (y - sa)).testBit (x - sa) = true) := by
  rw [loT_bit (jo_ok h1 h2), loT_bit h1, loT_bit h2]
  constructor
  · rintro ⟨i, hi, ea, eb⟩
    unfold joF at ea eb
    by_cases h : i < na
    · have := of_decide_eq_true (h1 i h)
      rw [if_pos h] at ea eb
      exact .inl ⟨by omega, by omega, i, h, ea, eb⟩
    · have := of_decide_eq_true (h2 (i - na) (by omega))
      rw [if_neg h] at ea eb
      exact .inr ⟨by omega, by omega, i - na, by omega, by omega, by omega⟩
  · rintro (⟨_, _, i, hi, ea, eb⟩ | ⟨hx, hy, i, hi, ea, eb⟩)
    · exact ⟨i, by omega, by unfold joF; rw [if_pos hi]; exact ea, by unfold joF; rw [if_pos hi]; exact eb⟩
    · exact ⟨na + i, by omega, by unfold joF; rw [if_neg (by omega), show na + i - na = i from by omega]; omega, by unfold joF; rw [if_neg (by omega), show na + i - na = i from by omega]; omega⟩
theorem jo_rch (h1 : ∀ i, i < na → okL sa a1 b1 i = true) (h2 : ∀ i, i < nb → okL sb a2 b2 i = true) {x y : Nat} : Rch (loT (joF na sa a1 a2) (joF na sa b1 b2) (na + nb)) x y ↔ (x < sa ∧ y < sa ∧ Rch (loT a1 b1 na) x y) ∨ (sa ≤ x ∧ sa ≤ y ∧ Rch (loT a2 b2 nb) (x - sa) (y - sa)) := by
  constructor
  · intro r
    induction r with
    | @one i h =>
      rcases (jo_bit h1 h2 x i).1 h with ⟨e1, e2, e3⟩ | ⟨e1, e2, e3⟩
      · exact .inl ⟨e1, e2, .one e3⟩
      · exact .inr ⟨e1, e2, .one e3⟩
    | @step m i h r ih =>
      rcases (jo_bit h1 h2 m i).1 h with ⟨e1, e2, e3⟩ | ⟨e1, e2, e3⟩
      · rcases ih with ⟨f1, f2, f3⟩ | ⟨f1, f2, f3⟩
        · exact .inl ⟨f1, e2, .step e3 f3⟩
        · omega
      · rcases ih with ⟨f1, f2, f3⟩ | ⟨f1, f2, f3⟩
        · omega
        · exact .inr ⟨f1, e2, .step e3 f3⟩
  · rintro (⟨_, _, r⟩ | ⟨hx, hy, r⟩)
    · have hr := r
      induction r with
      | @one i h => exact .one ((jo_bit h1 h2 _ i).2 (.inl ⟨by assumption, by assumption, h⟩))
      | @step m i h r ih =>
        have hl := lk_in h1 h
        exact .step ((jo_bit h1 h2 m i).2 (.inl ⟨hl.1, hl.2.1, h⟩)) (ih hl.1 r)
    · generalize hX : x - sa = X at r
      generalize hY : y - sa = Y at r
      have ex : x = sa + X := by omega
      have ey : y = sa + Y := by omega
      subst ex; subst ey
      clear hX hY hx hy
      induction r with
      | @one i h => exact .one ((jo_bit h1 h2 _ _).2 (.inr ⟨by omega, by omega, by rw [show sa + i - sa = i from by omega, show sa + X - sa = X from by omega]; exact h⟩))
      | @step m i h r ih => exact .step ((jo_bit h1 h2 (sa + m) _).2 (.inr ⟨by omega, by omega, by rw [show sa + i - sa = i from by omega, show sa + m - sa = m from by omega]; exact h⟩)) ih
theorem jo_un (hs : sa + sb ≤ 10) (h1 : ∀ i, i < na → okL sa a1 b1 i = true) (h2 : ∀ i, i < nb → okL sb a2 b2 i = true) : Un sa sb (clo (loT a1 b1 na)) (clo (loT a2 b2 nb)) (clo (loT (joF na sa a1 a2) (joF na sa b1 b2) (na + nb))) where
  hs := hs
  l := fun x hx i => by
    refine Bool.eq_iff_iff.2 ?_
    rw [clo_bit, clo_bit, jo_rch h1 h2]
    constructor
    · rintro ⟨hi, ⟨_, _, r⟩ | ⟨_, h, _⟩⟩
      · exact ⟨hi, r⟩
      · omega
    · rintro ⟨hi, r⟩
      exact ⟨hi, .inl ⟨(rch_in h1 r).1, hx, r⟩⟩
  r := fun y hy i => by
    refine Bool.eq_iff_iff.2 ?_
    rw [Bool.and_eq_true, decide_eq_true_eq, clo_bit, clo_bit, jo_rch h1 h2, show sa + y - sa = y from by omega]
    constructor
    · rintro ⟨hi, ⟨_, h, _⟩ | ⟨h, _, r⟩⟩
      · omega
      · exact ⟨h, by omega, r⟩
    · rintro ⟨h, hi, r⟩
      have := (rch_in h2 r).1
      exact ⟨by omega, .inr ⟨h, by omega, r⟩⟩
  la := fun x _ i h => (rch_in h1 (clo_bit.1 h).2).1
  lb := fun y _ i h => (rch_in h2 (clo_bit.1 h).2).1
  zu := fun x _ => by have := clo_lt (loT (joF na sa a1 a2) (joF na sa b1 b2) (na + nb)) x; omega
  za := fun x _ => by have := clo_lt (loT a1 b1 na) x; omega
  zb := fun x _ => by have := clo_lt (loT a2 b2 nb) x; omega
/-- How many ways there are for both. -/
theorem jo_ways (hs : sa + sb ≤ 10) (h1 : ∀ i, i < na → okL sa a1 b1 i = true) (h2 : ∀ i, i < nb → okL sb a2 b2 i = true) :
    wN (clo (loT (joF na sa a1 a2) (joF na sa b1 b2) (na + nb))) (sa + sb) (sa + sb) 0 = (chN (sa + sb) sa : Int) * (wN (clo (loT a1 b1 na)) sa sa 0 * wN (clo (loT a2 b2 nb)) sb sb 0) :=
  (jo_un hs h1 h2).ways (sa + sb) sa sb 0 0 0 rfl ⟨fun i => by rw [Nat.zero_testBit, Nat.zero_testBit]; split <;> rfl⟩ (by rw [pc_zero]; omega) (by rw [pc_zero]; omega)
end
end Go.Proofs.J

namespace Go.Proofs.J
open Go.As
set_option maxRecDepth 20000
set_option linter.unusedVariables false
set_option linter.unusedSimpArgs false

/-! ### The list of looks that grows -/

def eP (p : Int × Int) : List V := [.int .i64 p.1, .int .i64 p.2]
theorem eP_len (p : Int × Int) : (eP p).length = 2 := rfl
theorem eP_bare (p : Int × Int) : ∀ v ∈ eP p, bare0 v = true := by
  intro v hv
  (repeat (rcases List.mem_cons.1 hv with rfl | hv; exact rfl))
  exact absurd hv (List.not_mem_nil)
/-- The first i looks, newest first. -/
def prP (a b : Nat → Int) : Nat → List (Int × Int)
  | 0 => []
  | i + 1 => (a i, b i) :: prP a b i
theorem prP_len (a b : Nat → Int) : ∀ i, (prP a b i).length = i
  | 0 => rfl
  | i + 1 => by show (prP a b i).length + 1 = _; rw [prP_len a b i]
theorem prP_congr {a b a' b' : Nat → Int} : ∀ i, (∀ j, j < i → a j = a' j ∧ b j = b' j) → prP a b i = prP a' b' i
  | 0, _ => rfl
  | i + 1, h => by unfold prP; rw [prP_congr i fun j hj => h j (by omega), (h i (by omega)).1, (h i (by omega)).2]
theorem prP_at (a b : Nat → Int) : ∀ n i, i < n → (prP a b n).reverse[i]? = some (a i, b i)
  | 0, i, h => by omega
  | n + 1, i, h => by
    unfold prP
    rw [List.reverse_cons]
    have hl : (prP a b n).reverse.length = n := by rw [List.length_reverse, prP_len]
    by_cases e : i = n
    · subst e; rw [List.getElem?_append_right (by omega), hl, Nat.sub_self]; rfl
    · rw [List.getElem?_append_left (by omega)]; exact prP_at a b n i (by omega)
theorem flat_snoc (g : Nat → List V) : ∀ n i, flat g (n + 1) i = flat g n i ++ g (i + n)
  | 0, i => by show g i ++ [] = [] ++ g (i + 0); rw [List.append_nil]; rfl
  | n + 1, i => by
    show g i ++ flat g (n + 1) (i + 1) = (g i ++ flat g n (i + 1)) ++ g (i + (n + 1))
    rw [flat_snoc g n (i + 1), List.append_assoc, show i + 1 + n = i + (n + 1) from by omega]
theorem lkG_pr (a b : Nat → Int) : ∀ n, flat (lkG a b) n 0 = gR eP (prP a b n)
  | 0 => rfl
  | n + 1 => by rw [flat_snoc, lkG_pr a b n, Nat.zero_add]; rfl
theorem lkG_one (a b : Nat → Int) (n : Nat) : (flat (lkG a b) n 0).all one = true := by rw [lkG_pr]; exact gR_one eP_bare _
theorem lkG_cells (a b : Nat → Int) (n : Nat) : (flat (lkG a b) n 0).length = n * 2 := by rw [lkG_pr, gR_len eP_len, prP_len]
/-- What an append of a list of looks appends. -/
theorem added_lk (h : As.H) (ex : Bool) (n : Nat) (a b : Nat → Int) : added 2 h (.rsl ex 2 n (lkG a b)) = some (n, gR eP (prP a b n)) := by
  unfold added
  show (if (flat (lkG a b) n 0).all one = true ∧ (flat (lkG a b) n 0).length = n * 2 then some (n, flat (lkG a b) n 0) else none) = _
  rw [if_pos ⟨lkG_one a b n, lkG_cells a b n⟩, lkG_pr]
/-- The list as a value: an empty array's, or its own. -/
def lvW : List (Int × Int) → V
  | [] => .sl 2 0 0 0 true
  | _ :: l => .sl 4 0 (l.length + 1) (l.length + 1) false
theorem lvW_lt (q : List (Int × Int)) (n : Nat) (h : 5 ≤ n) : ltV n (lvW q) = true := by
  cases q with
  | nil => show Nat.blt 2 n = true; exact Nat.ble_eq_true_of_le (by omega)
  | cons x l => show Nat.blt 4 n = true; exact Nat.ble_eq_true_of_le (by omega)
end Go.Proofs.J

namespace Go.Proofs.J
open Go.As
set_option maxRecDepth 20000
set_option linter.unusedVariables false
set_option linter.unusedSimpArgs false

set_option maxHeartbeats 16000000 in
theorem lawApart (h : As.H) (S1 : Int) (n1 : Nat) (a1 b1 : Nat → Int) (hn1 : n1 ≤ 9223372036854775807) (S2 : Int) (n2 : Nat) (a2 b2 : Nat → Int) (hn2 : n2 ≤ 9223372036854775807) :
    CallOk Try.prog 15 [bkV S1 false n1 a1 b1, bkV S2 false n2 a2 b2] h (.bool true) h := by
  have kWk := fun h : As.H => wwhole.everywhere rfl h
  have kG1 := fun h' => fine_ok h' S1 false n1 a1 b1 hn1
  have kG2 := fun h' => fine_ok h' S2 false n2 a2 b2 hn2
  have hf : ∀ (S : Int) (n : Nat) (a b : Nat → Int), (!decide (50 < n) && decide (ckB S n a b = 0)) = decide (ckB S n a b = 0) := fun S n a b => by
    by_cases hv : ckB S n a b = 0
    · obtain ⟨s, rfl⟩ := ckB_nat hv
      have := (ckB_fine hv).2.1
      rw [decide_eq_false (by omega : ¬ 50 < n)]; rfl
    · rw [decide_eq_false hv, Bool.and_false]
  rw [hf] at kG1 kG2
  by_cases v1 : ckB S1 n1 a1 b1 = 0
  rotate_left
  · rw [decide_eq_false v1] at kG1
    refine CallOk.run0 Try.func15 rfl rfl rfl rfl rfl (WpR.of_vc ?_)
    (conv => whnf); (repeat' (first | ((with_reducible refine ifb_mk (fun hc => ?_) (fun hc => ?_)) <;> ((try simp only [decide_eq_true_eq, decide_eq_false_iff_not, Bool.not_eq_true', Bool.not_eq_false', Int.not_lt, Int.not_le, ne_eq, Decidable.not_not, beq_iff_eq, List.cons.injEq, and_true] at hc); (first | (exfalso; omega) | exact absurd True.intro hc | conv => whnf))) | ((with_reducible refine And.intro True.intro ?_); conv => whnf) | ((with_reducible refine CallX.all ?_); refine CallW.of_ok (kG1 _) ?_; conv => whnf) | ((with_reducible refine CallX.all ?_); refine CallW.of_ok (kG2 _) ?_; conv => whnf) | ((with_reducible refine CallX.all ?_); refine CallW.of_ok (kWk _) ?_; conv => whnf) | ((with_reducible refine WpR.draw (id := 3) mixed [0, 1, 2, 3, 4, 5, 6, 7, 10, 8, 9, 11] [0, 1, 0, 4, 15, 0, 0, 64, 224, 511, 0, 2047] ?hh ?_); (case hh => kernel_rfl); conv => whnf) | ((with_reducible refine WpR.draw (id := 7) mixed [0, 1, 2, 3, 4, 5, 6, 7, 8, 9, 10, 11, 12, 13, 14, 15, 16, 17, 18, 19, 20, 21, 22, 23, 24] [0, 1, 0, 4, 0, 28, 60, 124, 0, 256, 1020, 0, 2048, 0, 14336, 30720, 63488, 0, 131072, 522240, 1048572, 2097148, 4194303, 8388607, 16777215] ?hh ?_); (case hh => kernel_rfl); conv => whnf) | ((with_reducible refine And.intro ?hh ?_); (case hh => exact condA); conv => whnf) | fail))
    all_goals first | (refine ⟨[], ?_, rfl, rfl, trivial, trivs⟩; simp only [renV, renL]; (first | done | rfl | (simp; done) | (simp; omega) | grind)) | (exfalso; omega)
  by_cases v2 : ckB S2 n2 a2 b2 = 0
  rotate_left
  · rw [decide_eq_true v1] at kG1
    rw [decide_eq_false v2] at kG2
    refine CallOk.run0 Try.func15 rfl rfl rfl rfl rfl (WpR.of_vc ?_)
    (conv => whnf); (repeat' (first | ((with_reducible refine ifb_mk (fun hc => ?_) (fun hc => ?_)) <;> ((try simp only [decide_eq_true_eq, decide_eq_false_iff_not, Bool.not_eq_true', Bool.not_eq_false', Int.not_lt, Int.not_le, ne_eq, Decidable.not_not, beq_iff_eq, List.cons.injEq, and_true] at hc); (first | (exfalso; omega) | exact absurd True.intro hc | conv => whnf))) | ((with_reducible refine And.intro True.intro ?_); conv => whnf) | ((with_reducible refine CallX.all ?_); refine CallW.of_ok (kG1 _) ?_; conv => whnf) | ((with_reducible refine CallX.all ?_); refine CallW.of_ok (kG2 _) ?_; conv => whnf) | ((with_reducible refine CallX.all ?_); refine CallW.of_ok (kWk _) ?_; conv => whnf) | ((with_reducible refine WpR.draw (id := 3) mixed [0, 1, 2, 3, 4, 5, 6, 7, 10, 8, 9, 11] [0, 1, 0, 4, 15, 0, 0, 64, 224, 511, 0, 2047] ?hh ?_); (case hh => kernel_rfl); conv => whnf) | ((with_reducible refine WpR.draw (id := 7) mixed [0, 1, 2, 3, 4, 5, 6, 7, 8, 9, 10, 11, 12, 13, 14, 15, 16, 17, 18, 19, 20, 21, 22, 23, 24] [0, 1, 0, 4, 0, 28, 60, 124, 0, 256, 1020, 0, 2048, 0, 14336, 30720, 63488, 0, 131072, 522240, 1048572, 2097148, 4194303, 8388607, 16777215] ?hh ?_); (case hh => kernel_rfl); conv => whnf) | ((with_reducible refine And.intro ?hh ?_); (case hh => exact condA); conv => whnf) | fail))
    all_goals first | (refine ⟨[], ?_, rfl, rfl, trivial, trivs⟩; simp only [renV, renL]; (first | done | rfl | (simp; done) | (simp; omega) | grind)) | (exfalso; omega)
  rw [decide_eq_true v1] at kG1
  rw [decide_eq_true v2] at kG2
  clear hf
  obtain ⟨s1, rfl⟩ := ckB_nat v1
  obtain ⟨s2, rfl⟩ := ckB_nat v2
  obtain ⟨hs1, hm1, ok1⟩ := ckB_fine v1
  obtain ⟨hs2, hm2, ok2⟩ := ckB_fine v2
  by_cases hb : s1 + s2 ≤ 10 ∧ n1 + n2 ≤ 40
  rotate_left
  · refine CallOk.run0 Try.func15 rfl rfl rfl rfl rfl (WpR.of_vc ?_)
    (conv => whnf); (repeat' (first | ((with_reducible refine ifb_mk (fun hc => ?_) (fun hc => ?_)) <;> ((try simp only [decide_eq_true_eq, decide_eq_false_iff_not, Bool.not_eq_true', Bool.not_eq_false', Int.not_lt, Int.not_le, ne_eq, Decidable.not_not, beq_iff_eq, List.cons.injEq, and_true] at hc); (first | (exfalso; omega) | exact absurd True.intro hc | conv => whnf))) | ((with_reducible refine And.intro True.intro ?_); conv => whnf) | ((with_reducible refine CallX.all ?_); refine CallW.of_ok (kG1 _) ?_; conv => whnf) | ((with_reducible refine CallX.all ?_); refine CallW.of_ok (kG2 _) ?_; conv => whnf) | ((with_reducible refine CallX.all ?_); refine CallW.of_ok (kWk _) ?_; conv => whnf) | ((with_reducible refine WpR.draw (id := 3) mixed [0, 1, 2, 3, 4, 5, 6, 7, 10, 8, 9, 11] [0, 1, 0, 4, 15, 0, 0, 64, 224, 511, 0, 2047] ?hh ?_); (case hh => kernel_rfl); conv => whnf) | ((with_reducible refine WpR.draw (id := 7) mixed [0, 1, 2, 3, 4, 5, 6, 7, 8, 9, 10, 11, 12, 13, 14, 15, 16, 17, 18, 19, 20, 21, 22, 23, 24] [0, 1, 0, 4, 0, 28, 60, 124, 0, 256, 1020, 0, 2048, 0, 14336, 30720, 63488, 0, 131072, 522240, 1048572, 2097148, 4194303, 8388607, 16777215] ?hh ?_); (case hh => kernel_rfl); conv => whnf) | ((with_reducible refine And.intro ?hh ?_); (case hh => exact condA); conv => whnf) | fail))
    all_goals first | (refine ⟨[], ?_, rfl, rfl, trivial, trivs⟩; simp only [renV, renL]; (first | done | rfl | (simp; done) | (simp; omega) | grind)) | (exfalso; omega)
  have k1 := fun h' => count_top h' s1 false n1 a1 b1 v1
  have k2 := fun h' => count_top h' s2 false n2 a2 b2 v2
  have hlk : ∀ i, i < n2 → (0 ≤ a2 i ∧ a2 i ≤ (s2 : Int) - 1) ∧ (0 ≤ b2 i ∧ b2 i ≤ (s2 : Int) - 1) := fun i hi => by have := of_decide_eq_true (ok2 i hi); omega
  have hP0 : prP (joF n1 s1 a1 a2) (joF n1 s1 b1 b2) n1 = prP a1 b1 n1 := prP_congr n1 fun j hj => by unfold joF; rw [if_pos hj, if_pos hj]; exact ⟨rfl, rfl⟩
  have hPS : ∀ i, i < n2 → prP (joF n1 s1 a1 a2) (joF n1 s1 b1 b2) (n1 + (i + 1)) = (a2 i + (s1 : Int), b2 i + (s1 : Int)) :: prP (joF n1 s1 a1 a2) (joF n1 s1 b1 b2) (n1 + i) := fun i _ => by
    have e1 : joF n1 s1 a1 a2 (n1 + i) = a2 i + (s1 : Int) := by unfold joF; rw [if_neg (by omega), show n1 + i - n1 = i from by omega]
    have e2 : joF n1 s1 b1 b2 (n1 + i) = b2 i + (s1 : Int) := by unfold joF; rw [if_neg (by omega), show n1 + i - n1 = i from by omega]
    rw [← e1, ← e2]; rfl
  have hPat := fun j (hj : j < n1 + n2) => prP_at (joF n1 s1 a1 a2) (joF n1 s1 b1 b2) (n1 + n2) j hj
  have hvU : ckB ((s1 + s2 : Nat) : Int) (n1 + n2) (joF n1 s1 a1 a2) (joF n1 s1 b1 b2) = 0 := by
    unfold ckB
    rw [if_pos (by omega), if_pos (allF_iff.2 (jo_ok ok1 ok2))]
  have hwy := jo_ways hb.1 ok1 ok2
  have hc1 := ways_fa (br := clo (loT a1 b1 n1)) (S := s1) s1 0 (by rw [pc_zero]; omega)
  have hc2 := ways_fa (br := clo (loT a2 b2 n2)) (S := s2) s2 0 (by rw [pc_zero]; omega)
  generalize wN (clo (loT a1 b1 n1)) s1 s1 0 = c1 at *
  generalize wN (clo (loT a2 b2 n2)) s2 s2 0 = c2 at *
  have hfa : ∀ s, s ≤ 10 → faN s ≤ 3628800 := fun s hs => (by decide : ∀ s, s < 11 → faN s ≤ 3628800) s (by omega)
  have hc1 : 0 ≤ c1 ∧ c1 ≤ 3628800 := by have := hfa s1 (by omega); omega
  have hc2 : 0 ≤ c2 ∧ c2 ≤ 3628800 := by have := hfa s2 (by omega); omega
  have hcc : 0 ≤ c1 * c2 ∧ c1 * c2 ≤ 13168189440000 := ⟨Int.mul_nonneg hc1.1 hc2.1, Int.le_trans (Int.mul_le_mul hc1.2 hc2.2 hc2.1 (by decide)) (by decide)⟩
  have hch : ∀ s, s < 11 → ∀ i, i < 11 → chN (s + i) i ≤ 200000 ∧ chN (s + i) i * (s + (i + 1)) = chN (s + (i + 1)) (i + 1) * (i + 1) := by decide +kernel
  have hC := (hch s2 (by omega) s1 (by omega)).1
  have kU0 := fun (h' : As.H) (sv : V) (ht : ThL h' (fun _ => True) [bkV ((s1 + s2 : Nat) : Int) false (n1 + n2) (joF n1 s1 a1 a2) (joF n1 s1 b1 b2)] [.agg [.int .i64 ((s1 : Int) + s2), sv]]) => CallOk.thaw (count_top As.H.empty (s1 + s2) false (n1 + n2) _ _ hvU) rfl h' ht
  rw [hwy, Int.mul_comm ((chN (s1 + s2) s1 : Nat) : Int), Nat.add_comm s1 s2] at kU0
  clear hwy hvU
  have hPl := fun i => prP_len (joF n1 s1 a1 a2) (joF n1 s1 b1 b2) (n1 + i)
  generalize prP (joF n1 s1 a1 a2) (joF n1 s1 b1 b2) = P at *
  have hMap : ∀ q, ltB 5 (.cells (ofL [.int .i64 ((s1 : Int) + s2), lvW q] 0) true none) := fun q => ltB_ofL (by intro v hv; (repeat (rcases List.mem_cons.1 hv with rfl | hv; (first | rfl | exact lvW_lt q _ (Nat.le_of_ble_eq_true rfl)))); cases hv)
  have hMapA : ∀ q, ltB 1000 (.cells (ofL [.int .i64 ((s1 : Int) + s2), lvW q] 0) true none) := fun q => ltB_ofL (by intro v hv; (repeat (rcases List.mem_cons.1 hv with rfl | hv; (first | rfl | exact lvW_lt q _ (Nat.le_of_ble_eq_true rfl)))); cases hv)
  have hMap2 : ∀ q : List (Int × Int), ltB 5 (grB 2 (gR eP q) q.length) := fun q => grB_lt (gR_bare eP_bare) _
  have gP_len : ∀ q : List (Int × Int), (gR eP q).length = q.length * 2 := gR_len eP_len
  have gP_one : ∀ q : List (Int × Int), (gR eP q).all one = true := fun q => gR_one eP_bare q
  by_cases hn0 : n1 = 0
  · subst hn0
    have hP00 : P (0 + 0) = [] := List.eq_nil_of_length_eq_zero (by rw [hPl 0])
    have hi1 : ∀ ρ : Nat → Nat, ρ 2 = 2 → SubQ ρ (.cells (ofL [.int .i64 ((s1 : Int) + s2), lvW []] 0) true none) (.cells (ofL [.int .i64 ((s1 : Int) + s2), .sl 2 0 0 0 true] 0) true none) := fun ρ h2 => by
      refine .cells (fun k v hv => ?_) (fun h => h) (.inl rfl)
      have hv2 := hv
      rw [get_ofL, if_pos (Nat.zero_le _), Nat.sub_zero] at hv2
      match k with
      | 0 => simp at hv2; subst hv2; rfl
      | 1 => simp at hv2; subst hv2; show (some (V.sl 2 0 0 0 true) : Option V) = some (V.sl (ρ 2) 0 0 0 true); rw [h2]
      | k + 2 => simp at hv2
    refine CallOk.run0 Try.func15 rfl rfl rfl rfl rfl (WpR.of_vc ?_)
    (conv => whnf); (repeat' (first | ((with_reducible refine ifb_mk (fun hc => ?_) (fun hc => ?_)) <;> ((try simp only [decide_eq_true_eq, decide_eq_false_iff_not, Bool.not_eq_true', Bool.not_eq_false', Int.not_lt, Int.not_le, ne_eq, Decidable.not_not, beq_iff_eq, List.cons.injEq, and_true] at hc); (first | (exfalso; omega) | exact absurd True.intro hc | conv => whnf))) | ((with_reducible refine And.intro True.intro ?_); conv => whnf) | ((with_reducible refine CallX.all ?_); refine CallW.of_ok (kG1 _) ?_; conv => whnf) | ((with_reducible refine CallX.all ?_); refine CallW.of_ok (kG2 _) ?_; conv => whnf) | ((with_reducible refine CallX.all ?_); refine CallW.of_ok (kWk _) ?_; conv => whnf) | ((with_reducible refine WpR.draw (id := 3) mixed [0, 1, 2, 3, 4, 5, 6, 7, 10, 8, 9, 11] [0, 1, 0, 4, 15, 0, 0, 64, 224, 511, 0, 2047] ?hh ?_); (case hh => kernel_rfl); conv => whnf) | ((with_reducible refine WpR.draw (id := 7) mixed [0, 1, 2, 3, 4, 5, 6, 7, 8, 9, 10, 11, 12, 13, 14, 15, 16, 17, 18, 19, 20, 21, 22, 23, 24] [0, 1, 0, 4, 0, 28, 60, 124, 0, 256, 1020, 0, 2048, 0, 14336, 30720, 63488, 0, 131072, 522240, 1048572, 2097148, 4194303, 8388607, 16777215] ?hh ?_); (case hh => kernel_rfl); conv => whnf) | (((with_reducible refine som_mk (a := (0, gR eP (prP a1 b1 0))) ?hh ?_); (case hh => exact added_lk _ _ _ _ _)); conv => whnf) | (refine AppX.room (n := 0) (len := 0) rfl (by omega) rfl ?_; conv => whnf) | ((with_reducible refine And.intro ?hh ?_); (case hh => exact condA); conv => whnf) | fail))
    all_goals first | (exfalso; omega) | skip
    refine WpR.loopA (ι := Nat × List (Int × Int)) [4] [2, 3, 5] [3, 4] [] 5 (fun p => [(6, .int .i64 p.1)]) (fun p => [(3, .cells (ofL [.int .i64 ((s1 : Int) + s2), lvW p.2] 0) true none), (4, grB 2 (gR eP p.2) p.2.length)]) (fun p => n2 - p.1) (fun p => p.1 ≤ n2 ∧ p.2 = P (0 + p.1)) ?_ ((0, [])) (⟨Nat.zero_le _, hP00.symm⟩) [] ⟨rfl, rfl, (by (repeat' (first | exact True.intro | rfl | exact gr_ren rfl | exact aV_ren rfl | exact aW_ren rfl rfl | refine And.intro ?_ ?_))), (by (repeat' (first | exact True.intro | rfl | exact gr_ren rfl | exact aV_ren rfl | exact aW_ren rfl rfl | refine And.intro ?_ ?_))), (by (repeat' (first | exact True.intro | rfl | exact gr_ren rfl | exact aV_ren rfl | exact aW_ren rfl rfl | refine And.intro ?_ ?_))), ⟨.inr ⟨_, rfl, hi1 _ rfl⟩, .inl rfl, trivial⟩, rfl, rfl⟩
    rintro ⟨i, q⟩ ⟨j1, j2⟩
    dsimp only at j1 j2
    refine WpR.of_vc ?_
    by_cases hi : i < n2
    · have hki := hlk i hi
      have hpi := hPS i hi
      have hln := hPl i
      rw [← j2] at hpi hln
      cases q with
      | nil =>
        (conv => whnf); (repeat' (first | ((with_reducible refine ifb_mk (fun hc => ?_) (fun hc => ?_)) <;> ((try simp only [decide_eq_true_eq, decide_eq_false_iff_not, Bool.not_eq_true', Bool.not_eq_false', Int.not_lt, Int.not_le, ne_eq, Decidable.not_not, beq_iff_eq, List.cons.injEq, and_true] at hc); (first | (exfalso; omega) | exact absurd True.intro hc | conv => whnf))) | ((with_reducible refine And.intro True.intro ?_); conv => whnf) | ((with_reducible refine grd_and ?_); refine And.intro (hi) ?_; conv => whnf) | ((with_reducible refine WpR.draw (id := 3) mixed [0, 1, 2, 3, 4, 5, 6, 7, 10, 8, 9, 11] [0, 1, 0, 4, 15, 0, 0, 64, 224, 511, 0, 2047] ?hh ?_); (case hh => kernel_rfl); conv => whnf) | ((with_reducible refine WpR.draw (id := 7) mixed [0, 1, 2, 3, 4, 5, 6, 7, 8, 9, 10, 11, 12, 13, 14, 15, 16, 17, 18, 19, 20, 21, 22, 23, 24] [0, 1, 0, 4, 0, 28, 60, 124, 0, 256, 1020, 0, 2048, 0, 14336, 30720, 63488, 0, 131072, 522240, 1048572, 2097148, 4194303, 8388607, 16777215] ?hh ?_); (case hh => kernel_rfl); conv => whnf) | (refine AppX.copy (L := []) rfl rfl rfl (by omega) (by omega) ?_; conv => whnf) | ((with_reducible refine And.intro ?hh ?_); (case hh => exact condA); conv => whnf) | fail))
        all_goals first | (exfalso; omega) | skip
        all_goals exact ⟨(i + 1, (a2 i + (s1 : Int), b2 i + (s1 : Int)) :: []), [(4, 6)], by dsimp only; omega, ⟨by dsimp only; omega, hpi.symm⟩, Back.auto⟩
      | cons x l =>
        have hgs : ∀ ρ : Nat → Nat, SubQ ρ (grB 2 (gR eP ((a2 i + (s1 : Int), b2 i + (s1 : Int)) :: x :: l)) ((x :: l).length + 1)) (.cells (ofL (gR eP (x :: l) ++ eP (a2 i + (s1 : Int), b2 i + (s1 : Int))) 0) true (some (2, ((x :: l).length + 1) * 2))) := fun ρ => SubQ.ofL rfl (gR_bare (l := (a2 i + (s1 : Int), b2 i + (s1 : Int)) :: x :: l) eP_bare) (.inr rfl)
        (conv => whnf); (repeat' (first | ((with_reducible refine ifb_mk (fun hc => ?_) (fun hc => ?_)) <;> ((try simp only [decide_eq_true_eq, decide_eq_false_iff_not, Bool.not_eq_true', Bool.not_eq_false', Int.not_lt, Int.not_le, ne_eq, Decidable.not_not, beq_iff_eq, List.cons.injEq, and_true] at hc); (first | (exfalso; omega) | exact absurd True.intro hc | conv => whnf))) | ((with_reducible refine And.intro True.intro ?_); conv => whnf) | ((with_reducible refine grd_and ?_); refine And.intro (hi) ?_; conv => whnf) | ((with_reducible refine WpR.draw (id := 3) mixed [0, 1, 2, 3, 4, 5, 6, 7, 10, 8, 9, 11] [0, 1, 0, 4, 15, 0, 0, 64, 224, 511, 0, 2047] ?hh ?_); (case hh => kernel_rfl); conv => whnf) | ((with_reducible refine WpR.draw (id := 7) mixed [0, 1, 2, 3, 4, 5, 6, 7, 8, 9, 10, 11, 12, 13, 14, 15, 16, 17, 18, 19, 20, 21, 22, 23, 24] [0, 1, 0, 4, 0, 28, 60, 124, 0, 256, 1020, 0, 2048, 0, 14336, 30720, 63488, 0, 131072, 522240, 1048572, 2097148, 4194303, 8388607, 16777215] ?hh ?_); (case hh => kernel_rfl); conv => whnf) | (refine AppX.own rfl (gP_len (x :: l)) (gP_one (x :: l)) (by omega) (by rw [List.length_cons] at hln; omega) ?_; conv => whnf) | ((with_reducible refine And.intro ?hh ?_); (case hh => exact condA); conv => whnf) | fail))
        all_goals first | (exfalso; omega) | skip
        all_goals exact ⟨(i + 1, (a2 i + (s1 : Int), b2 i + (s1 : Int)) :: x :: l), [(4, 6)], by dsimp only; omega, ⟨by dsimp only; omega, hpi.symm⟩, Back.auto⟩
    · have ei : i = n2 := by omega
      subst ei
      have hln := hPl i
      rw [← j2] at hln hPat
      have kU : ∀ (h' : As.H), h'.get 4 = some (grB 2 (gR eP q) q.length) → h'.get 2 = some (.cells (ofL [] 0) true none) → CallOk Try.prog 28 [.agg [.int .i64 ((s1 : Int) + s2), lvW q]] h' (.tup [.int .i64 (c1 * c2 * ((chN (s2 + s1) s1 : Nat) : Int)), .int .i64 0]) h' := fun h' hg hg2 => by
        cases q with
        | nil =>
          have e : 0 + i = 0 := by simp at hln; omega
          refine kU0 h' _ (.cons (ThL.agg (.cons (show Th h' (fun _ => True) (V.int .i64 ((s2 + s1 : Nat) : Int)) (V.int .i64 ((s1 : Int) + s2)) by rw [show ((s2 + s1 : Nat) : Int) = (s1 : Int) + s2 by omega]; exact .same rfl) (.cons (by
            show Th h' _ (V.rsl false 2 (0 + i) _) (V.sl 2 0 0 0 true)
            rw [e]
            exact .sl trivial hg2 (fun h => by cases h) (Nat.le_refl _) (fun j hj => by omega) (fun j hj => by omega)) .nil))) .nil)
        | cons x l =>
          have e : l.length + 1 = 0 + i := hln
          refine kU0 h' _ (.cons (ThL.agg (.cons (show Th h' (fun _ => True) (V.int .i64 ((s2 + s1 : Nat) : Int)) (V.int .i64 ((s1 : Int) + s2)) by rw [show ((s2 + s1 : Nat) : Int) = (s1 : Int) + s2 by omega]; exact .same rfl) (.cons (by
            show Th h' _ (V.rsl false 2 (0 + i) _) (V.sl 4 0 (l.length + 1) (l.length + 1) false)
            rw [e]
            exact .sl trivial hg (fun h => by cases h) (Nat.le_refl _) (fun j hj => rfl) fun j hj k v hk => ⟨get_ofL0 (by rw [Nat.zero_add]; exact gR_at eP_len (hPat j hj) hk), eP_bare (joF 0 s1 a1 a2 j, joF 0 s1 b1 b2 j) v (List.mem_of_getElem? hk)⟩) .nil))) .nil)
      clear kU0
      (conv => whnf); (repeat' (first | ((with_reducible refine ifb_mk (fun hc => ?_) (fun hc => ?_)) <;> ((try simp only [decide_eq_true_eq, decide_eq_false_iff_not, Bool.not_eq_true', Bool.not_eq_false', Int.not_lt, Int.not_le, ne_eq, Decidable.not_not, beq_iff_eq, List.cons.injEq, and_true] at hc); (first | (exfalso; omega) | exact absurd True.intro hc | conv => whnf))) | ((with_reducible refine And.intro True.intro ?_); conv => whnf) | ((with_reducible refine grd_and ?_); refine And.intro (hi) ?_; conv => whnf) | ((with_reducible refine WpR.draw (id := 3) mixed [0, 1, 2, 3, 4, 5, 6, 7, 10, 8, 9, 11] [0, 1, 0, 4, 15, 0, 0, 64, 224, 511, 0, 2047] ?hh ?_); (case hh => kernel_rfl); conv => whnf) | ((with_reducible refine WpR.draw (id := 7) mixed [0, 1, 2, 3, 4, 5, 6, 7, 8, 9, 10, 11, 12, 13, 14, 15, 16, 17, 18, 19, 20, 21, 22, 23, 24] [0, 1, 0, 4, 0, 28, 60, 124, 0, 256, 1020, 0, 2048, 0, 14336, 30720, 63488, 0, 131072, 522240, 1048572, 2097148, 4194303, 8388607, 16777215] ?hh ?_); (case hh => kernel_rfl); conv => whnf) | ((with_reducible refine And.intro ?hh ?_); (case hh => exact condA); conv => whnf) | fail))
      all_goals first | (exfalso; omega) | skip
      have e0 : (some (V.int .i64 1) : Option V) = some (.int .i64 ((chN (s2 + 0) 0 : Nat) : Int)) := by rw [chN_0]; rfl
      refine WpR.loopA (ι := Nat) [] [2, 3, 5] [] [] 5 (fun i => [(7, .int .i64 ((chN (s2 + i) i : Nat) : Int)), (8, .int .i64 ((i : Int) + 1))]) (fun _ => []) (fun i => s1 - i) (fun i => i ≤ s1) ?_ (0) (Nat.zero_le _) [] ⟨rfl, rfl, (by (repeat' (first | exact True.intro | rfl | exact e0 | refine And.intro ?_ ?_))), (by (repeat' (first | exact True.intro | rfl | exact e0 | refine And.intro ?_ ?_))), (by (repeat' (first | exact True.intro | rfl | exact e0 | refine And.intro ?_ ?_))), trivial, rfl, rfl⟩
      intro z hz
      refine WpR.of_vc ?_
      by_cases hzs : z < s1
      · obtain ⟨g1, g2⟩ := hch s2 (by omega) z (by omega)
        have g3 : ((chN (s2 + z) z : Nat) : Int) * ((s2 : Int) + ((z : Int) + 1)) = ((chN (s2 + (z + 1)) (z + 1) : Nat) : Int) * ((z : Int) + 1) := by
          have := congrArg (fun n : Nat => (n : Int)) g2
          simpa using this
        have g4 := (hch s2 (by omega) (z + 1) (by omega)).1
        have y0 : ((z : Int) + 1) ≠ 0 := by omega
        have y1 : InR (((chN (s2 + z) z : Nat) : Int) * ((s2 : Int) + ((z : Int) + 1))) := by
          have h1 : ((chN (s2 + z) z : Nat) : Int) * ((s2 : Int) + ((z : Int) + 1)) ≤ 200000 * 100 := Int.mul_le_mul (by omega) (by omega) (by omega) (by decide)
          have h2 := Int.mul_nonneg (a := ((chN (s2 + z) z : Nat) : Int)) (b := (s2 : Int) + ((z : Int) + 1)) (by omega) (by omega)
          unfold InR; omega
        have y2 : (((chN (s2 + z) z : Nat) : Int) * ((s2 : Int) + ((z : Int) + 1))).tdiv ((z : Int) + 1) = ((chN (s2 + (z + 1)) (z + 1) : Nat) : Int) := by rw [g3]; exact Int.mul_tdiv_cancel _ y0
        have y3 : InR ((((chN (s2 + z) z : Nat) : Int) * ((s2 : Int) + ((z : Int) + 1))).tdiv ((z : Int) + 1)) := by rw [y2]; unfold InR; omega
        have e5 : (some (V.int .i64 ((((chN (s2 + z) z : Nat) : Int) * ((s2 : Int) + ((z : Int) + 1))).tdiv ((z : Int) + 1))) : Option V) = some (.int .i64 ((chN (s2 + (z + 1)) (z + 1) : Nat) : Int)) := by rw [y2]
        have hz1 : ((z : Int) + 1) ≤ (s1 : Int) := by omega
        (conv => whnf); (repeat' (first | ((with_reducible refine ifb_mk (fun hc => ?_) (fun hc => ?_)) <;> ((try simp only [decide_eq_true_eq, decide_eq_false_iff_not, Bool.not_eq_true', Bool.not_eq_false', Int.not_lt, Int.not_le, ne_eq, Decidable.not_not, beq_iff_eq, List.cons.injEq, and_true] at hc); (first | (exfalso; omega) | exact absurd True.intro hc | conv => whnf))) | ((with_reducible refine And.intro True.intro ?_); conv => whnf) | ((with_reducible refine grd_and ?_); refine And.intro (hz1) ?_; conv => whnf) | ((with_reducible refine grd_and ?_); refine And.intro (y0) ?_; conv => whnf) | ((with_reducible refine grd_and ?_); refine And.intro (y1) ?_; conv => whnf) | ((with_reducible refine grd_and ?_); refine And.intro (y3) ?_; conv => whnf) | ((with_reducible refine And.intro ?hh ?_); (case hh => exact condA); conv => whnf) | fail))
        all_goals first | (exfalso; omega) | exact ⟨z + 1, [], by omega, by omega, ⟨rfl, rfl, (by (repeat' (first | exact True.intro | rfl | exact e5 | refine And.intro ?_ ?_))), (by (repeat' (first | exact True.intro | rfl | exact e5 | refine And.intro ?_ ?_))), (by (repeat' (first | exact True.intro | rfl | exact e5 | refine And.intro ?_ ?_))), trivial, rfl, rfl⟩⟩
      · have ez : z = s1 := by omega
        subst ez
        have hz2 : ¬ ((z : Int) + 1) ≤ (z : Int) := by omega
        have w1 : InR (c1 * c2) := by unfold InR; omega
        have w2 : InR (c1 * c2 * ((chN (s2 + z) z : Nat) : Int)) := by
          have h1 : c1 * c2 * ((chN (s2 + z) z : Nat) : Int) ≤ 13168189440000 * 200000 := Int.mul_le_mul (by omega) (by omega) (by omega) (by decide)
          have h2 := Int.mul_nonneg (a := c1 * c2) (b := ((chN (s2 + z) z : Nat) : Int)) (by omega) (by omega)
          unfold InR; omega
        (conv => whnf); (repeat' (first | ((with_reducible refine ifb_mk (fun hc => ?_) (fun hc => ?_)) <;> ((try simp only [decide_eq_true_eq, decide_eq_false_iff_not, Bool.not_eq_true', Bool.not_eq_false', Int.not_lt, Int.not_le, ne_eq, Decidable.not_not, beq_iff_eq, List.cons.injEq, and_true] at hc); (first | (exfalso; omega) | exact absurd True.intro hc | conv => whnf))) | ((with_reducible refine And.intro True.intro ?_); conv => whnf) | ((with_reducible refine grd_and ?_); refine And.intro (hz2) ?_; conv => whnf) | ((with_reducible refine WpR.draw (id := 3) mixed [0, 1, 2, 3, 4, 5, 6, 7, 10, 8, 9, 11] [0, 1, 0, 4, 15, 0, 0, 64, 224, 511, 0, 2047] ?hh ?_); (case hh => kernel_rfl); conv => whnf) | ((with_reducible refine WpR.draw (id := 7) mixed [0, 1, 2, 3, 4, 5, 6, 7, 8, 9, 10, 11, 12, 13, 14, 15, 16, 17, 18, 19, 20, 21, 22, 23, 24] [0, 1, 0, 4, 0, 28, 60, 124, 0, 256, 1020, 0, 2048, 0, 14336, 30720, 63488, 0, 131072, 522240, 1048572, 2097148, 4194303, 8388607, 16777215] ?hh ?_); (case hh => kernel_rfl); conv => whnf) | ((with_reducible refine CallX.all ?_); refine CallW.of_ok (k1 _) ?_; conv => whnf) | ((with_reducible refine CallX.all ?_); refine CallW.of_ok (k2 _) ?_; conv => whnf) | ((with_reducible refine CallX.all ?_); refine CallW.of_ok (kU _ rfl rfl) ?_; conv => whnf) | ((with_reducible refine CallX.all ?_); refine CallW.of_ok (kWk _) ?_; conv => whnf) | ((with_reducible refine grd_and ?_); refine And.intro (w1) ?_; conv => whnf) | ((with_reducible refine grd_and ?_); refine And.intro (w2) ?_; conv => whnf) | ((with_reducible refine And.intro ?hh ?_); (case hh => exact condA); conv => whnf) | fail))
        all_goals first | (refine ⟨[], ?_, rfl, rfl, trivial, trivs⟩; simp only [renV, renL]; (first | done | rfl | (simp; done) | (simp; omega) | grind)) | (exfalso; omega)
  have hlv : lvW (P n1) = .sl 4 0 (0 + n1) (0 + n1) false := by
    have := hPl 0
    rw [Nat.add_zero] at this
    cases hq : P n1 with
    | nil => rw [hq] at this; exact absurd this.symm hn0
    | cons x l => rw [hq] at this; rw [← this, Nat.zero_add]; rfl
  have hgr : ∀ q : List (Int × Int), q.length = n1 → grB 2 (gR eP q) q.length = .cells (ofL (gR eP q) 0) true (some (2, (0 + n1) * 2)) := fun q hq => by
    cases q with
    | nil => exact absurd hq.symm hn0
    | cons x l => rw [← hq, Nat.zero_add]; rfl
  have hi1 : ∀ ρ : Nat → Nat, ρ 4 = 4 → SubQ ρ (.cells (ofL [.int .i64 ((s1 : Int) + s2), lvW (P n1)] 0) true none) (.cells (ofL [.int .i64 ((s1 : Int) + s2), .sl 4 0 (0 + n1) (0 + n1) false] 0) true none) := fun ρ h4 => by
    rw [hlv]
    refine .cells (fun k v hv => ?_) (fun h => h) (.inl rfl)
    have hv2 := hv
    rw [get_ofL, if_pos (Nat.zero_le _), Nat.sub_zero] at hv2
    match k with
    | 0 => simp at hv2; subst hv2; rw [hv]; rfl
    | 1 => simp at hv2; subst hv2; rw [hv]; show _ = some (V.sl (ρ 4) 0 n1 n1 false); rw [h4]
    | k + 2 => simp at hv2
  have hi2 : ∀ ρ : Nat → Nat, SubQ ρ (grB 2 (gR eP (P n1)) (P n1).length) (.cells (ofL (gR eP (prP a1 b1 n1)) 0) true (some (2, (0 + n1) * 2))) := fun ρ => by
    rw [hgr _ (by have := hPl 0; rwa [Nat.add_zero] at this), hP0]
    exact SubQ.ofL rfl (gR_bare eP_bare) (.inr rfl)
  refine CallOk.run0 Try.func15 rfl rfl rfl rfl rfl (WpR.of_vc ?_)
  (conv => whnf); (repeat' (first | ((with_reducible refine ifb_mk (fun hc => ?_) (fun hc => ?_)) <;> ((try simp only [decide_eq_true_eq, decide_eq_false_iff_not, Bool.not_eq_true', Bool.not_eq_false', Int.not_lt, Int.not_le, ne_eq, Decidable.not_not, beq_iff_eq, List.cons.injEq, and_true] at hc); (first | (exfalso; omega) | exact absurd True.intro hc | conv => whnf))) | ((with_reducible refine And.intro True.intro ?_); conv => whnf) | ((with_reducible refine CallX.all ?_); refine CallW.of_ok (kG1 _) ?_; conv => whnf) | ((with_reducible refine CallX.all ?_); refine CallW.of_ok (kG2 _) ?_; conv => whnf) | ((with_reducible refine CallX.all ?_); refine CallW.of_ok (kWk _) ?_; conv => whnf) | ((with_reducible refine WpR.draw (id := 3) mixed [0, 1, 2, 3, 4, 5, 6, 7, 10, 8, 9, 11] [0, 1, 0, 4, 15, 0, 0, 64, 224, 511, 0, 2047] ?hh ?_); (case hh => kernel_rfl); conv => whnf) | ((with_reducible refine WpR.draw (id := 7) mixed [0, 1, 2, 3, 4, 5, 6, 7, 8, 9, 10, 11, 12, 13, 14, 15, 16, 17, 18, 19, 20, 21, 22, 23, 24] [0, 1, 0, 4, 0, 28, 60, 124, 0, 256, 1020, 0, 2048, 0, 14336, 30720, 63488, 0, 131072, 522240, 1048572, 2097148, 4194303, 8388607, 16777215] ?hh ?_); (case hh => kernel_rfl); conv => whnf) | (((with_reducible refine som_mk (a := (n1, gR eP (prP a1 b1 n1))) ?hh ?_); (case hh => exact added_lk _ _ _ _ _)); conv => whnf) | (refine AppX.copy (L := []) rfl rfl rfl (by omega) (by omega) ?_; conv => whnf) | ((with_reducible refine And.intro ?hh ?_); (case hh => exact condA); conv => whnf) | fail))
  all_goals first | (exfalso; omega) | skip
  refine WpR.loopA (ι := Nat × List (Int × Int)) [4] [2, 3, 5] [3, 4] [] 5 (fun p => [(6, .int .i64 p.1)]) (fun p => [(3, .cells (ofL [.int .i64 ((s1 : Int) + s2), lvW p.2] 0) true none), (4, grB 2 (gR eP p.2) p.2.length)]) (fun p => n2 - p.1) (fun p => p.1 ≤ n2 ∧ p.2 = P (n1 + p.1)) ?_ ((0, P n1)) (⟨Nat.zero_le _, rfl⟩) [] ⟨rfl, rfl, (by (repeat' (first | exact True.intro | rfl | exact gr_ren rfl | exact aV_ren rfl | exact aW_ren rfl rfl | refine And.intro ?_ ?_))), (by (repeat' (first | exact True.intro | rfl | exact gr_ren rfl | exact aV_ren rfl | exact aW_ren rfl rfl | refine And.intro ?_ ?_))), (by (repeat' (first | exact True.intro | rfl | exact gr_ren rfl | exact aV_ren rfl | exact aW_ren rfl rfl | refine And.intro ?_ ?_))), ⟨.inr ⟨_, rfl, hi1 _ rfl⟩, .inr ⟨_, rfl, hi2 _⟩, trivial⟩, rfl, rfl⟩
  rintro ⟨i, q⟩ ⟨j1, j2⟩
  dsimp only at j1 j2
  refine WpR.of_vc ?_
  by_cases hi : i < n2
  · have hki := hlk i hi
    have hpi := hPS i hi
    have hln := hPl i
    rw [← j2] at hpi hln
    cases q with
    | nil =>
      (conv => whnf); (repeat' (first | ((with_reducible refine ifb_mk (fun hc => ?_) (fun hc => ?_)) <;> ((try simp only [decide_eq_true_eq, decide_eq_false_iff_not, Bool.not_eq_true', Bool.not_eq_false', Int.not_lt, Int.not_le, ne_eq, Decidable.not_not, beq_iff_eq, List.cons.injEq, and_true] at hc); (first | (exfalso; omega) | exact absurd True.intro hc | conv => whnf))) | ((with_reducible refine And.intro True.intro ?_); conv => whnf) | ((with_reducible refine grd_and ?_); refine And.intro (hi) ?_; conv => whnf) | ((with_reducible refine WpR.draw (id := 3) mixed [0, 1, 2, 3, 4, 5, 6, 7, 10, 8, 9, 11] [0, 1, 0, 4, 15, 0, 0, 64, 224, 511, 0, 2047] ?hh ?_); (case hh => kernel_rfl); conv => whnf) | ((with_reducible refine WpR.draw (id := 7) mixed [0, 1, 2, 3, 4, 5, 6, 7, 8, 9, 10, 11, 12, 13, 14, 15, 16, 17, 18, 19, 20, 21, 22, 23, 24] [0, 1, 0, 4, 0, 28, 60, 124, 0, 256, 1020, 0, 2048, 0, 14336, 30720, 63488, 0, 131072, 522240, 1048572, 2097148, 4194303, 8388607, 16777215] ?hh ?_); (case hh => kernel_rfl); conv => whnf) | (refine AppX.copy (L := []) rfl rfl rfl (by omega) (by omega) ?_; conv => whnf) | ((with_reducible refine And.intro ?hh ?_); (case hh => exact condA); conv => whnf) | fail))
      all_goals first | (exfalso; omega) | skip
      all_goals exact ⟨(i + 1, (a2 i + (s1 : Int), b2 i + (s1 : Int)) :: []), [(4, 6)], by dsimp only; omega, ⟨by dsimp only; omega, hpi.symm⟩, Back.auto⟩
    | cons x l =>
      have hgs : ∀ ρ : Nat → Nat, SubQ ρ (grB 2 (gR eP ((a2 i + (s1 : Int), b2 i + (s1 : Int)) :: x :: l)) ((x :: l).length + 1)) (.cells (ofL (gR eP (x :: l) ++ eP (a2 i + (s1 : Int), b2 i + (s1 : Int))) 0) true (some (2, ((x :: l).length + 1) * 2))) := fun ρ => SubQ.ofL rfl (gR_bare (l := (a2 i + (s1 : Int), b2 i + (s1 : Int)) :: x :: l) eP_bare) (.inr rfl)
      (conv => whnf); (repeat' (first | ((with_reducible refine ifb_mk (fun hc => ?_) (fun hc => ?_)) <;> ((try simp only [decide_eq_true_eq, decide_eq_false_iff_not, Bool.not_eq_true', Bool.not_eq_false', Int.not_lt, Int.not_le, ne_eq, Decidable.not_not, beq_iff_eq, List.cons.injEq, and_true] at hc); (first | (exfalso; omega) | exact absurd True.intro hc | conv => whnf))) | ((with_reducible refine And.intro True.intro ?_); conv => whnf) | ((with_reducible refine grd_and ?_); refine And.intro (hi) ?_; conv => whnf) | ((with_reducible refine WpR.draw (id := 3) mixed [0, 1, 2, 3, 4, 5, 6, 7, 10, 8, 9, 11] [0, 1, 0, 4, 15, 0, 0, 64, 224, 511, 0, 2047] ?hh ?_); (case hh => kernel_rfl); conv => whnf) | ((with_reducible refine WpR.draw (id := 7) mixed [0, 1, 2, 3, 4, 5, 6, 7, 8, 9, 10, 11, 12, 13, 14, 15, 16, 17, 18, 19, 20, 21, 22, 23, 24] [0, 1, 0, 4, 0, 28, 60, 124, 0, 256, 1020, 0, 2048, 0, 14336, 30720, 63488, 0, 131072, 522240, 1048572, 2097148, 4194303, 8388607, 16777215] ?hh ?_); (case hh => kernel_rfl); conv => whnf) | (refine AppX.own rfl (gP_len (x :: l)) (gP_one (x :: l)) (by omega) (by rw [List.length_cons] at hln; omega) ?_; conv => whnf) | ((with_reducible refine And.intro ?hh ?_); (case hh => exact condA); conv => whnf) | fail))
      all_goals first | (exfalso; omega) | skip
      all_goals exact ⟨(i + 1, (a2 i + (s1 : Int), b2 i + (s1 : Int)) :: x :: l), [(4, 6)], by dsimp only; omega, ⟨by dsimp only; omega, hpi.symm⟩, Back.auto⟩
  · have ei : i = n2 := by omega
    subst ei
    have hln := hPl i
    rw [← j2] at hln hPat
    have kU : ∀ (h' : As.H), h'.get 4 = some (grB 2 (gR eP q) q.length) → CallOk Try.prog 28 [.agg [.int .i64 ((s1 : Int) + s2), lvW q]] h' (.tup [.int .i64 (c1 * c2 * ((chN (s2 + s1) s1 : Nat) : Int)), .int .i64 0]) h' := fun h' hg => by
      cases q with
      | nil => simp at hln; omega
      | cons x l =>
        have e : l.length + 1 = n1 + i := hln
        refine kU0 h' _ (.cons (ThL.agg (.cons (show Th h' (fun _ => True) (V.int .i64 ((s2 + s1 : Nat) : Int)) (V.int .i64 ((s1 : Int) + s2)) by rw [show ((s2 + s1 : Nat) : Int) = (s1 : Int) + s2 by omega]; exact .same rfl) (.cons (by
          show Th h' _ (V.rsl false 2 (n1 + i) _) (V.sl 4 0 (l.length + 1) (l.length + 1) false)
          rw [e]
          exact .sl trivial hg (fun h => by cases h) (Nat.le_refl _) (fun j hj => rfl) fun j hj k v hk => ⟨get_ofL0 (by rw [Nat.zero_add]; exact gR_at eP_len (hPat j hj) hk), eP_bare (joF n1 s1 a1 a2 j, joF n1 s1 b1 b2 j) v (List.mem_of_getElem? hk)⟩) .nil))) .nil)
    clear kU0
    (conv => whnf); (repeat' (first | ((with_reducible refine ifb_mk (fun hc => ?_) (fun hc => ?_)) <;> ((try simp only [decide_eq_true_eq, decide_eq_false_iff_not, Bool.not_eq_true', Bool.not_eq_false', Int.not_lt, Int.not_le, ne_eq, Decidable.not_not, beq_iff_eq, List.cons.injEq, and_true] at hc); (first | (exfalso; omega) | exact absurd True.intro hc | conv => whnf))) | ((with_reducible refine And.intro True.intro ?_); conv => whnf) | ((with_reducible refine grd_and ?_); refine And.intro (hi) ?_; conv => whnf) | ((with_reducible refine WpR.draw (id := 3) mixed [0, 1, 2, 3, 4, 5, 6, 7, 10, 8, 9, 11] [0, 1, 0, 4, 15, 0, 0, 64, 224, 511, 0, 2047] ?hh ?_); (case hh => kernel_rfl); conv => whnf) | ((with_reducible refine WpR.draw (id := 7) mixed [0, 1, 2, 3, 4, 5, 6, 7, 8, 9, 10, 11, 12, 13, 14, 15, 16, 17, 18, 19, 20, 21, 22, 23, 24] [0, 1, 0, 4, 0, 28, 60, 124, 0, 256, 1020, 0, 2048, 0, 14336, 30720, 63488, 0, 131072, 522240, 1048572, 2097148, 4194303, 8388607, 16777215] ?hh ?_); (case hh => kernel_rfl); conv => whnf) | ((with_reducible refine And.intro ?hh ?_); (case hh => exact condA); conv => whnf) | fail))
    all_goals first | (exfalso; omega) | skip
    have e0 : (some (V.int .i64 1) : Option V) = some (.int .i64 ((chN (s2 + 0) 0 : Nat) : Int)) := by rw [chN_0]; rfl
    refine WpR.loopA (ι := Nat) [] [2, 3, 5] [] [] 5 (fun i => [(7, .int .i64 ((chN (s2 + i) i : Nat) : Int)), (8, .int .i64 ((i : Int) + 1))]) (fun _ => []) (fun i => s1 - i) (fun i => i ≤ s1) ?_ (0) (Nat.zero_le _) [] ⟨rfl, rfl, (by (repeat' (first | exact True.intro | rfl | exact e0 | refine And.intro ?_ ?_))), (by (repeat' (first | exact True.intro | rfl | exact e0 | refine And.intro ?_ ?_))), (by (repeat' (first | exact True.intro | rfl | exact e0 | refine And.intro ?_ ?_))), trivial, rfl, rfl⟩
    intro z hz
    refine WpR.of_vc ?_
    by_cases hzs : z < s1
    · obtain ⟨g1, g2⟩ := hch s2 (by omega) z (by omega)
      have g3 : ((chN (s2 + z) z : Nat) : Int) * ((s2 : Int) + ((z : Int) + 1)) = ((chN (s2 + (z + 1)) (z + 1) : Nat) : Int) * ((z : Int) + 1) := by
        have := congrArg (fun n : Nat => (n : Int)) g2
        simpa using this
      have g4 := (hch s2 (by omega) (z + 1) (by omega)).1
      have y0 : ((z : Int) + 1) ≠ 0 := by omega
      have y1 : InR (((chN (s2 + z) z : Nat) : Int) * ((s2 : Int) + ((z : Int) + 1))) := by
        have h1 : ((chN (s2 + z) z : Nat) : Int) * ((s2 : Int) + ((z : Int) + 1)) ≤ 200000 * 100 := Int.mul_le_mul (by omega) (by omega) (by omega) (by decide)
        have h2 := Int.mul_nonneg (a := ((chN (s2 + z) z : Nat) : Int)) (b := (s2 : Int) + ((z : Int) + 1)) (by omega) (by omega)
        unfold InR; omega
      have y2 : (((chN (s2 + z) z : Nat) : Int) * ((s2 : Int) + ((z : Int) + 1))).tdiv ((z : Int) + 1) = ((chN (s2 + (z + 1)) (z + 1) : Nat) : Int) := by rw [g3]; exact Int.mul_tdiv_cancel _ y0
      have y3 : InR ((((chN (s2 + z) z : Nat) : Int) * ((s2 : Int) + ((z : Int) + 1))).tdiv ((z : Int) + 1)) := by rw [y2]; unfold InR; omega
      have e5 : (some (V.int .i64 ((((chN (s2 + z) z : Nat) : Int) * ((s2 : Int) + ((z : Int) + 1))).tdiv ((z : Int) + 1))) : Option V) = some (.int .i64 ((chN (s2 + (z + 1)) (z + 1) : Nat) : Int)) := by rw [y2]
      have hz1 : ((z : Int) + 1) ≤ (s1 : Int) := by omega
      (conv => whnf); (repeat' (first | ((with_reducible refine ifb_mk (fun hc => ?_) (fun hc => ?_)) <;> ((try simp only [decide_eq_true_eq, decide_eq_false_iff_not, Bool.not_eq_true', Bool.not_eq_false', Int.not_lt, Int.not_le, ne_eq, Decidable.not_not, beq_iff_eq, List.cons.injEq, and_true] at hc); (first | (exfalso; omega) | exact absurd True.intro hc | conv => whnf))) | ((with_reducible refine And.intro True.intro ?_); conv => whnf) | ((with_reducible refine grd_and ?_); refine And.intro (hz1) ?_; conv => whnf) | ((with_reducible refine grd_and ?_); refine And.intro (y0) ?_; conv => whnf) | ((with_reducible refine grd_and ?_); refine And.intro (y1) ?_; conv => whnf) | ((with_reducible refine grd_and ?_); refine And.intro (y3) ?_; conv => whnf) | ((with_reducible refine And.intro ?hh ?_); (case hh => exact condA); conv => whnf) | fail))
      all_goals first | (exfalso; omega) | exact ⟨z + 1, [], by omega, by omega, ⟨rfl, rfl, (by (repeat' (first | exact True.intro | rfl | exact e5 | refine And.intro ?_ ?_))), (by (repeat' (first | exact True.intro | rfl | exact e5 | refine And.intro ?_ ?_))), (by (repeat' (first | exact True.intro | rfl | exact e5 | refine And.intro ?_ ?_))), trivial, rfl, rfl⟩⟩
    · have ez : z = s1 := by omega
      subst ez
      have hz2 : ¬ ((z : Int) + 1) ≤ (z : Int) := by omega
      have w1 : InR (c1 * c2) := by unfold InR; omega
      have w2 : InR (c1 * c2 * ((chN (s2 + z) z : Nat) : Int)) := by
        have h1 : c1 * c2 * ((chN (s2 + z) z : Nat) : Int) ≤ 13168189440000 * 200000 := Int.mul_le_mul (by omega) (by omega) (by omega) (by decide)
        have h2 := Int.mul_nonneg (a := c1 * c2) (b := ((chN (s2 + z) z : Nat) : Int)) (by omega) (by omega)
        unfold InR; omega
      (conv => whnf); (repeat' (first | ((with_reducible refine ifb_mk (fun hc => ?_) (fun hc => ?_)) <;> ((try simp only [decide_eq_true_eq, decide_eq_false_iff_not, Bool.not_eq_true', Bool.not_eq_false', Int.not_lt, Int.not_le, ne_eq, Decidable.not_not, beq_iff_eq, List.cons.injEq, and_true] at hc); (first | (exfalso; omega) | exact absurd True.intro hc | conv => whnf))) | ((with_reducible refine And.intro True.intro ?_); conv => whnf) | ((with_reducible refine grd_and ?_); refine And.intro (hz2) ?_; conv => whnf) | ((with_reducible refine WpR.draw (id := 3) mixed [0, 1, 2, 3, 4, 5, 6, 7, 10, 8, 9, 11] [0, 1, 0, 4, 15, 0, 0, 64, 224, 511, 0, 2047] ?hh ?_); (case hh => kernel_rfl); conv => whnf) | ((with_reducible refine WpR.draw (id := 7) mixed [0, 1, 2, 3, 4, 5, 6, 7, 8, 9, 10, 11, 12, 13, 14, 15, 16, 17, 18, 19, 20, 21, 22, 23, 24] [0, 1, 0, 4, 0, 28, 60, 124, 0, 256, 1020, 0, 2048, 0, 14336, 30720, 63488, 0, 131072, 522240, 1048572, 2097148, 4194303, 8388607, 16777215] ?hh ?_); (case hh => kernel_rfl); conv => whnf) | ((with_reducible refine CallX.all ?_); refine CallW.of_ok (k1 _) ?_; conv => whnf) | ((with_reducible refine CallX.all ?_); refine CallW.of_ok (k2 _) ?_; conv => whnf) | ((with_reducible refine CallX.all ?_); refine CallW.of_ok (kU _ rfl) ?_; conv => whnf) | ((with_reducible refine CallX.all ?_); refine CallW.of_ok (kWk _) ?_; conv => whnf) | ((with_reducible refine grd_and ?_); refine And.intro (w1) ?_; conv => whnf) | ((with_reducible refine grd_and ?_); refine And.intro (w2) ?_; conv => whnf) | ((with_reducible refine And.intro ?hh ?_); (case hh => exact condA); conv => whnf) | fail))
      all_goals first | (refine ⟨[], ?_, rfl, rfl, trivial, trivs⟩; simp only [renV, renL]; (first | done | rfl | (simp; done) | (simp; omega) | grind)) | (exfalso; omega)
end Go.Proofs.J

