/- What the functions answer that the laws call, one after another (Ord). -/
import Derived.Test.YtppfddfmcnlioaaAs6
import Derived.Test.YtppfddfmcnlioaaHo

set_option linter.unusedVariables false
namespace Go.Proofs.J
open Go.As
set_option maxRecDepth 20000
set_option linter.unusedVariables false
set_option linter.unusedSimpArgs false

/-! ### Who comes next -/

/-- The first of n that may come next, n if there is none. -/
def nxF (br : Nat → Nat) (g : Nat) : Nat → Nat
  | 0 => 0
  | n + 1 => if nxF br g n < n then nxF br g n else (if (!g.testBit n && subB (br n) g) = true then n else n + 1)
theorem nxF_spec (br : Nat → Nat) (g : Nat) : ∀ n, nxF br g n ≤ n ∧ (∀ j, j < nxF br g n → (!g.testBit j && subB (br j) g) = false) ∧ (nxF br g n < n → (!g.testBit (nxF br g n) && subB (br (nxF br g n)) g) = true)
  | 0 => ⟨Nat.le_refl _, fun j hj => absurd hj (Nat.not_lt_zero _), fun h => absurd h (Nat.lt_irrefl _)⟩
  | n + 1 => by
    obtain ⟨h1, h2, h3⟩ := nxF_spec br g n
    unfold nxF
    by_cases hc : nxF br g n < n
    · rw [if_pos hc]; exact ⟨by omega, h2, fun _ => h3 hc⟩
    · rw [if_neg hc]
      have e : nxF br g n = n := by omega
      rw [e] at h2
      by_cases hp : (!g.testBit n && subB (br n) g) = true
      · rw [if_pos hp]; exact ⟨by omega, h2, fun _ => hp⟩
      · rw [if_neg hp]
        refine ⟨by omega, fun j hj => ?_, fun h => by omega⟩
        by_cases ej : j = n
        · subst ej; rwa [Bool.not_eq_true] at hp
        · exact h2 j (by omega)
theorem nxF_at {br : Nat → Nat} {g n k : Nat} (hk : k < n) (h1 : ∀ j, j < k → (!g.testBit j && subB (br j) g) = false) (h2 : (!g.testBit k && subB (br k) g) = true) : nxF br g n = k := by
  obtain ⟨a1, a2, a3⟩ := nxF_spec br g n
  rcases Nat.lt_trichotomy (nxF br g n) k with h | h | h
  · rw [h1 _ h] at a3; exact absurd (a3 (by omega)) (by decide)
  · exact h
  · rw [a2 k h] at h2; cases h2
/-- A table of what is brighter: of S stars, with all that follows, and no star brighter than itself. -/
structure Ac (S : Nat) (br : Nat → Nat) : Prop where
  tb : Tb br
  st : ∀ i j, i < 10 → (br i).testBit j = true → j < S
  tr : ∀ i j, i < 10 → (br i).testBit j = true → ∀ k, (br j).testBit k = true → (br i).testBit k = true
  no : ∀ i, i < S → (br i).testBit i = false
theorem lt_of_bits {a b : Nat} (h : ∀ i, a.testBit i = true → b.testBit i = true) (hne : ∃ i, b.testBit i = true ∧ a.testBit i = false) : a < b := by
  have h1 : a ||| b = b := Nat.eq_of_testBit_eq fun i => by
    rw [Nat.testBit_or]
    cases ha : a.testBit i with
    | false => simp
    | true => rw [h i ha]; rfl
  have h2 : a ≤ b := by rw [← h1]; exact Nat.left_le_or
  obtain ⟨i, hb, ha⟩ := hne
  have h3 : a ≠ b := fun e => by rw [e, hb] at ha; cases ha
  omega
/-- As long as a star is missing one may come next. -/
theorem next_ex {S : Nat} {br : Nat → Nat} (hS : S ≤ 10) (c : Ac S br) {g : Nat} : ∀ (m : Nat) (x : Nat), x < S → g.testBit x = false → br x ≤ m → ∃ y, y < S ∧ (!g.testBit y && subB (br y) g) = true
  | m, x, hx, hg, hm => by
    by_cases hs : subB (br x) g = true
    · exact ⟨x, hx, by rw [hg, hs]; rfl⟩
    · have h1 : ∃ y, (br x).testBit y = true ∧ g.testBit y = false := by
        apply Classical.byContradiction
        intro hc
        refine hs ((subB_iff (by have := c.tb x (by omega); omega)).2 fun i hi => ?_)
        cases hgi : g.testBit i with
        | true => rfl
        | false => exact absurd ⟨i, hi, hgi⟩ hc
      obtain ⟨y, hy, hgy⟩ := h1
      have hyS := c.st x y (by omega) hy
      have hlt : br y < br x := lt_of_bits (c.tr x y (by omega) hy) ⟨y, hy, c.no y hyS⟩
      match m with
      | 0 => omega
      | m + 1 => exact next_ex hS c m y hyS hgy (by omega)
theorem nxF_lt {S : Nat} {br : Nat → Nat} (hS : S ≤ 10) (c : Ac S br) {g x : Nat} (hx : x < S) (hg : g.testBit x = false) : nxF br g S < S := by
  obtain ⟨y, hy, h⟩ := next_ex hS c (g := g) _ x hx hg (Nat.le_refl _)
  obtain ⟨a1, a2, a3⟩ := nxF_spec br g S
  apply Classical.byContradiction
  intro hc
  rw [a2 y (by omega)] at h; cases h
/-- The group behind i steps, and the star that comes next. -/
def gG (S : Nat) (br : Nat → Nat) : Nat → Nat
  | 0 => 0
  | i + 1 => gG S br i ||| 2 ^ nxF br (gG S br i) S
def stN (S : Nat) (br : Nat → Nat) (i : Nat) : Nat := nxF br (gG S br i) S
theorem gG_bit {S : Nat} {br : Nat → Nat} {x : Nat} : ∀ {i : Nat}, (gG S br i).testBit x = anyF i fun j => decide (stN S br j = x)
  | 0 => by rw [gG, Nat.zero_testBit]; rfl
  | i + 1 => by
    rw [gG, anyF_succ, ← gG_bit, testBit_with]
    congr 1
    rw [decide_eq_decide]
    exact eq_comm
theorem gG_lt {S : Nat} {br : Nat → Nat} (hS : S ≤ 10) : ∀ {i : Nat}, (∀ j, j < i → stN S br j < S) → gG S br i < 1024
  | 0, _ => by show 0 < 1024; decide
  | i + 1, h => Nat.or_lt_two_pow (n := 10) (gG_lt hS fun j hj => h j (by omega)) (Nat.pow_lt_pow_right (a := 2) (by omega) (by have := h i (by omega); unfold stN at this; omega))
/-- A star is missing as long as fewer than S are there. -/
theorem miss {S i : Nat} {f : Nat → Nat} (hi : i < S) (hf : ∀ j, j < i → f j < S) : ∃ x, x < S ∧ ∀ j, j < i → f j ≠ x := by
  apply Classical.byContradiction
  intro hc
  have hall : ∀ x, x < S → ∃ j, j < i ∧ f j = x := fun x hx => by
    apply Classical.byContradiction
    intro h
    exact hc ⟨x, hx, fun j hj e => h ⟨j, hj, e⟩⟩
  -- a way back that hits all
  have hex : ∃ r : Nat → Nat, ∀ x, x < S → r x < i ∧ f (r x) = x := ⟨fun x => if h : x < S then Classical.choose (hall x h) else 0, fun x hx => by (try dsimp only); rw [dif_pos hx]; exact Classical.choose_spec (hall x hx)⟩
  obtain ⟨r, hr⟩ := hex
  have hinj : ∀ x y, x < S → y < S → r x = r y → x = y := fun x y hx hy e => by rw [← (hr x hx).2, ← (hr y hy).2, e]
  obtain ⟨x, hx, he⟩ := php S r (fun x hx => by have := (hr x hx).1; omega) hinj i hi
  have := (hr x hx).1
  omega
theorem stN_ok {S : Nat} {br : Nat → Nat} (hS : S ≤ 10) (c : Ac S br) : ∀ (i : Nat), i < S → stN S br i < S ∧ (gG S br i).testBit (stN S br i) = false ∧ subB (br (stN S br i)) (gG S br i) = true := by
  intro i
  induction i using Nat.strongRecOn with
  | ind i ih =>
    intro hi
    obtain ⟨x, hx, hm⟩ := miss (f := stN S br) hi fun j hj => (ih j hj (by omega)).1
    have hg : (gG S br i).testBit x = false := by
      rw [gG_bit]
      exact anyF_f fun j hj => decide_eq_false (hm j hj)
    have h1 := nxF_lt hS c hx hg
    have h2 := (nxF_spec br (gG S br i) S).2.2 h1
    rw [Bool.and_eq_true, Bool.not_eq_true'] at h2
    exact ⟨h1, h2.1, h2.2⟩
end Go.Proofs.J

namespace Go.Proofs.J
open Go.As
set_option maxRecDepth 20000
set_option linter.unusedVariables false
set_option linter.unusedSimpArgs false

/-! ### Copies -/

theorem putN_all : ∀ (l : List V) (c : Tr V) (o : Nat), (∀ k, k < l.length → ∃ v, c.get (o + k) = some v) → ∃ c2, putN l c o = some c2 ∧ ∀ k, c2.get k = if o ≤ k ∧ k < o + l.length then l[k - o]? else c.get k := by
  intro l
  induction l with
  | nil => intro c o _; exact ⟨c, rfl, fun k => by rw [if_neg (by simp only [List.length_nil]; omega)]⟩
  | cons u l ih =>
    intro c o h
    obtain ⟨v, hv⟩ := h 0 (by simp)
    rw [Nat.add_zero] at hv
    obtain ⟨c2, h1, h2⟩ := ih (c.set o u) (o + 1) (fun k hk => by
      obtain ⟨w, hw⟩ := h (k + 1) (by simp; omega)
      refine ⟨w, ?_⟩
      rw [Tr.get_set, if_neg (by omega), show o + 1 + k = o + (k + 1) from by omega]; exact hw)
    refine ⟨c2, by rw [putN_cons, hv]; exact h1, fun k => ?_⟩
    rw [h2]
    by_cases he : k = o
    · subst he
      rw [if_neg (by omega), Tr.get_set, if_pos rfl, if_pos (by simp only [List.length_cons]; omega), Nat.sub_self]; rfl
    · by_cases hk : o ≤ k ∧ k < o + (u :: l).length
      · rw [if_pos hk, if_pos (by simp only [List.length_cons] at hk; omega), show k - o = (k - (o + 1)) + 1 from by omega, List.getElem?_cons_succ]
      · rw [if_neg hk, if_neg (by simp only [List.length_cons] at hk; omega), Tr.get_set, if_neg he]
theorem putN_arr {N : Nat} {f g : Nat → V} : ∃ c2, putN (arrV N f) (ofL (arrV N g) 0) 0 = some c2 ∧ ∀ k, c2.get k = (ofL (arrV N f) 0).get k := by
  obtain ⟨c2, h1, h2⟩ := putN_all (arrV N f) (ofL (arrV N g) 0) 0 (fun k hk => ⟨_, by rw [Nat.zero_add]; exact arrV_get rfl (by rwa [arrV_len] at hk)⟩)
  refine ⟨c2, h1, fun k => ?_⟩
  rw [h2, get_ofL, if_pos (Nat.zero_le _), arrV_len, get_ofL, if_pos (Nat.zero_le _), Nat.sub_zero]
  split
  · rfl
  · rename_i hk
    rw [List.getElem?_eq_none (by rw [arrV_len]; omega), List.getElem?_eq_none (by rw [arrV_len]; omega)]
theorem getN_arr {n : Nat} {f : Nat → V} {c : Tr V} {o : Nat} (h : ∀ k, k < n → c.get (o + k) = some (f k)) : getN c n o = some (arrV n f) := by
  have := getN_all (arrV n f) c o (fun k v hk => by
    have hlt : k < n := by have := (List.getElem?_eq_some_iff.1 hk).1; rwa [arrV_len] at this
    rw [arrV_at hlt] at hk
    rw [h k hlt]; exact hk)
  rwa [arrV_len] at this
theorem arrV_one {n : Nat} {f : Nat → V} (h : ∀ k, one (f k) = true) : (arrV n f).all one = true := List.all_eq_true.2 fun v hv => by obtain ⟨x, _, rfl⟩ := List.mem_map.1 hv; exact h x
theorem AppX.room {sz : Nat} {h : As.H} {n len cap b o : Nat} {ex : Bool} {r : List V} {c c' : Tr V} {g : Option (Nat × Nat)} {K : V → As.H → Prop} (hg : h.get b = some (.cells c true g)) (hle : len + n ≤ cap) (hp : putN r c (o + len * sz) = some c')
    (hK : K (.sl b o (len + n) cap ex) (h.put b (.cells c' true g))) : AppX sz h n r (.sl b o len cap ex) K := .all (by
  refine som_mk (a := (.sl b o (len + n) cap ex, h.put b (.cells c' true g))) ?_ hK
  unfold appendTo
  simp only [hg]
  rw [if_pos hle, hp])
set_option maxHeartbeats 4000000 in
theorem taken_new (h : As.H) (n : Nat) (hn : 1 ≤ n ∧ n ≤ 1000) (a : Nat → Int) (sv : V) (hs : SlC h (arrV n fun k => .int .i64 (a k)) n sv) :
    CallOk Try.prog 96 [sv] h (.sl (h.n + 0) 0 n n true) (addBs h [.cells (ofL (arrV n fun k => .int .i64 (a k)) 0) true none]) := by
  obtain ⟨vo, svC, hsv, hca, hvw⟩ := hs.view 0
  have hBare : ∀ v ∈ arrV n fun k => V.int .i64 (a k), bare0 v = true := arrV_bare fun _ => rfl
  refine CallOk.runN Try.func96 rfl rfl (argsC := [svC]) (fun N => .sl (N + 0) 0 n n true) (fun _ => [.cells (ofL (arrV n fun k => .int .i64 (a k)) 0) true none]) (Nat.le_of_ble_eq_true rfl) [vo] (.cons (hca _ rfl) .nil) (viewMc1 (arrV_bare fun _ => rfl) hvw) (.sl (i := 0) (Nat.le_of_ble_eq_true rfl) rfl rfl) rfl (fun i b hi => ?_) (WpR.of_vc ?_)
  · match i, hi with
    | 0, hi => cases hi; exact ⟨_, rfl, rfl, .bare (ofL_bare (arrV_bare fun _ => rfl))⟩
    | i + 1, hi => simp at hi
  · obtain ⟨c2, q1, q2⟩ := putN_arr (N := n) (f := fun k => V.int .i64 (a k)) (g := fun _ => V.int .i64 0)
    have q3 : getN (ofL (arrV n fun k => V.int .i64 (a k)) 0) (min n n * 1) 0 = some (arrV n fun k => .int .i64 (a k)) := by
      rw [Nat.mul_one, Nat.min_self]
      exact getN_arr fun k hk => by rw [Nat.zero_add]; exact arrV_get rfl (by omega)
    have q4 : (arrV n fun k => V.int .i64 (a k)).all one = true := arrV_one fun _ => rfl
    rw [← arrV_rep] at q1
    have hend : ∀ ρ, SubQ ρ (.cells (ofL (arrV n fun k => .int .i64 (a k)) 0) true none) (.cells c2 true none) := fun ρ => SubQ.bare (fun k v hk => ⟨by rw [q2]; exact hk, arrV_bare (fun _ => rfl) v (by rw [get_ofL, if_pos (Nat.zero_le _)] at hk; exact List.mem_of_getElem? hk)⟩) id (.inr rfl)
    have hlt : ltB 2 (.cells (ofL (arrV n fun k => .int .i64 (a k)) 0) true none) := ltB_ofLb (arrV_bare fun _ => rfl)
    have hlt1 : ltB 1 (.cells (ofL (arrV n fun k => .int .i64 (a k)) 0) false none) := ltB_ofLb (arrV_bare fun _ => rfl)
    cases hsv with
    | nil h0' => omega
    | @sl cap ex =>
    (conv => whnf); (repeat' (first | ((with_reducible refine ifb_mk (fun hc => ?_) (fun hc => ?_)) <;> ((try simp only [decide_eq_true_eq, decide_eq_false_iff_not, Bool.not_eq_true', Bool.not_eq_false', Int.not_lt, Int.not_le, ne_eq, Decidable.not_not, beq_iff_eq, List.cons.injEq, and_true] at hc); (first | (exfalso; omega) | exact absurd True.intro hc | conv => whnf))) | ((with_reducible refine And.intro True.intro ?_); conv => whnf) | ((with_reducible refine grd_getN ?_); refine som_mk (a := ?_) ?hh ?_; (case hh => exact q3); conv => whnf) | ((with_reducible refine grd_putN ?_); refine som_mk (a := ?_) ?hh ?_; (case hh => exact q1); conv => whnf) | ((with_reducible refine grd_and ?_); refine And.intro (q4) ?_; conv => whnf) | ((with_reducible refine And.intro ?hh ?_); (case hh => exact condA); conv => whnf) | fail))
    all_goals first | (exfalso; omega) | exact ⟨[1], rfl, rfl, rfl, ⟨⟨_, rfl, rfl, hend _⟩, hlt, rfl, trivial⟩, trivs⟩
end Go.Proofs.J

namespace Go.Proofs.J
open Go.As
set_option maxRecDepth 20000
set_option linter.unusedVariables false
set_option linter.unusedSimpArgs false

/-! ### The first order -/

def rmF (S : Nat) (br : Nat → Nat) (i : Nat) : Nat → Int := fun k => if k < i then ((stN S br k : Nat) : Int) else 0
set_option maxHeartbeats 16000000 in
theorem order_new (h : As.H) (s S : Nat) (hS : 1 ≤ S ∧ S ≤ 10) (lv : V) (hl : bare0 lv = true) (lk br : Nat → Nat) (c : Ac S br) (mk : Nat → Bool) {w : Bool} {g : Option (Nat × Nat)} (hs : h.get s = some (.cells (ofL (skL S lv lk br mk) 0) w g)) :
    CallOk Try.prog 63 [.ptr s 0] h (.sl (h.n + 0) 0 S S true) (addBs h [.cells (ofL (arrV S fun k => .int .i64 ((stN S br k : Nat) : Int)) 0) true none]) := by
  have hst := stN_ok hS.2 c
  have hsp := fun i => nxF_spec br (gG S br i) S
  have hgl := fun i (hi : i ≤ S) => gG_lt (S := S) (br := br) hS.2 (i := i) fun j hj => (hst j (by omega)).1
  have hgS : ∀ i, gG S br (i + 1) = gG S br i ||| 2 ^ stN S br i := fun i => rfl
  have hrm : ∀ i k, rmF S br (i + 1) k = if k = i then ((stN S br i : Nat) : Int) else rmF S br i k := fun i k => by
    unfold rmF
    by_cases e : k = i
    · subst e; rw [if_pos rfl, if_pos (by omega)]
    · rw [if_neg e]
      by_cases hk : k < i
      · rw [if_pos hk, if_pos (by omega)]
      · rw [if_neg hk, if_neg (by omega)]
  have hr0 : (arrV 10 fun k => V.int .i64 (rmF S br 0 k)) = rep 10 [.int .i64 0] := by rw [arrV_rep]; exact arrV_eq fun k _ => by unfold rmF; rw [if_neg (by omega)]
  have hrS : ∀ k, k < S → rmF S br S k = ((stN S br k : Nat) : Int) := fun k hk => if_pos hk
  have kH := fun i k h' hg hk => has_ok h' (gG S br i) k hg hk
  have kI := fun i k h' => isWithin_ok h' (br k) (gG S br i)
  have hgb := fun k (hk : k < 10) o (ho : o = 12 + k) => sk_br (S := S) (lv := lv) (lk := lk) (br := br) (mk := mk) ho hk
  have hnx : ∀ i k, k < S → (∀ j, j < k → (!(gG S br i).testBit j && subB (br j) (gG S br i)) = false) → (!(gG S br i).testBit k && subB (br k) (gG S br i)) = true → stN S br i = k := fun i k hk h1 h2 => nxF_at hk h1 h2
  have hno : ∀ i, stN S br i < S → (!(gG S br i).testBit (stN S br i) && subB (br (stN S br i)) (gG S br i)) = true := fun i hi => (hsp i).2.2 hi
  clear hsp
  have hT := c.tb
  have kT : ∀ (h' : As.H) (q : Nat), q = h'.n + 0 → ∀ sv, SlC h' (arrV S fun k => .int .i64 ((stN S br k : Nat) : Int)) S sv → _ := fun h' q e sv hsv => by
    have := taken_new h' S (by omega) (fun k => ((stN S br k : Nat) : Int)) sv hsv
    rw [← e] at this
    exact this
  have kB := fun i (hi : i ≤ 10) k h' hg hk => bwith_ok h' ((i : Nat) : Int) (gG S br i) k (by omega) hg hk
  have hg0 : gG S br 0 = 0 := rfl
  clear c
  generalize stN S br = st at *
  generalize rmF S br = rm at *
  generalize gG S br = G at *
  have hlt : ∀ n, ltB n (.cells (ofL (skL S lv lk br mk) 0) false none) := fun n => ltB_ofLb (skL_bare hl)
  have hBare : ∀ v ∈ skL S lv lk br mk, bare0 v = true := skL_bare hl
  have hMap2 := hlt 3
  have hMapX := hlt 1000
  have hMapA : ∀ i, ltB 1000 (.cells (ofL (arrV 10 fun k => .int .i64 (rm i k)) 0) true none) := fun i => ltB_ofLb (arrV_bare fun _ => rfl)
  have hMapB : ∀ i, ltB 3 (.cells (ofL (arrV 10 fun k => .int .i64 (rm i k)) 0) true none) := fun i => ltB_ofLb (arrV_bare fun _ => rfl)
  have hMapC : ∀ i, ltB 10 (.cells (ofL (arrV 10 fun k => .int .i64 (rm i k)) 0) true none) := fun i => ltB_ofLb (arrV_bare fun _ => rfl)
  refine CallOk.runN Try.func63 rfl rfl (argsC := [.ptr 0 0]) (fun N => .sl (N + 0) 0 S S true) (fun _ => [.cells (ofL (arrV S fun k => .int .i64 ((st k : Nat) : Int)) 0) true none]) (Nat.le_of_ble_eq_true rfl) [some (s, 0)] (.cons (.ptr (i := 0) rfl) .nil) (one_view hs (skL_bare hl)) (.sl (i := 0) (Nat.le_of_ble_eq_true rfl) rfl rfl) rfl (fun i b hi => ?_) (WpR.of_vc ?_)
  · match i, hi with
    | 0, hi => cases hi; exact ⟨_, rfl, rfl, .bare (ofL_bare (arrV_bare fun _ => rfl))⟩
    | i + 1, hi => simp at hi
  · (conv => whnf); (repeat' (first | ((with_reducible refine ifb_mk (fun hc => ?_) (fun hc => ?_)) <;> ((try simp only [decide_eq_true_eq, decide_eq_false_iff_not, Bool.not_eq_true', Bool.not_eq_false', Int.not_lt, Int.not_le, ne_eq, Decidable.not_not, beq_iff_eq, List.cons.injEq, and_true] at hc); (first | (exfalso; omega) | exact absurd True.intro hc | conv => whnf))) | ((with_reducible refine And.intro True.intro ?_); conv => whnf) | ((with_reducible refine And.intro ?hh ?_); (case hh => exact condA); conv => whnf) | fail))
    refine som_mk (a := .sl 1 0 0 S true) ?hh ?_
    case hh =>
      have hn2 : S = 1 ∨ S = 2 ∨ S = 3 ∨ S = 4 ∨ S = 5 ∨ S = 6 ∨ S = 7 ∨ S = 8 ∨ S = 9 ∨ S = 10 := by omega
      clear hst hgl hgS hrm hr0 hrS kH kI hgb hnx hno kT kB hlt hBare hMap2 hMapX hMapA hMapB hMapC
      rcases hn2 with rfl | rfl | rfl | rfl | rfl | rfl | rfl | rfl | rfl | rfl <;> rfl
    (conv => whnf); (repeat' (first | ((with_reducible refine ifb_mk (fun hc => ?_) (fun hc => ?_)) <;> ((try simp only [decide_eq_true_eq, decide_eq_false_iff_not, Bool.not_eq_true', Bool.not_eq_false', Int.not_lt, Int.not_le, ne_eq, Decidable.not_not, beq_iff_eq, List.cons.injEq, and_true] at hc); (first | (exfalso; omega) | exact absurd True.intro hc | conv => whnf))) | ((with_reducible refine And.intro True.intro ?_); conv => whnf) | ((with_reducible refine And.intro ?hh ?_); (case hh => exact condA); conv => whnf) | fail))
    have hq1 : ∀ ρ : Nat → Nat, SubQ ρ (.cells (ofL (arrV 10 fun k => .int .i64 (rm 0 k)) 0) true none) (.cells (ofL (rep 10 [V.int .i64 0]) 0) true none) := fun ρ => by rw [← hr0]; exact SubQ.ofL rfl (arrV_bare fun _ => rfl) (.inr rfl)
    have hq2 : ∀ ρ : Nat → Nat, SubQ ρ (.cells (ofL [.int .i64 ((0 : Nat) : Int), .int .u16 ((G 0 : Nat) : Int)] 0) true none) (.cells (ofL [.int .i64 0, .int .u16 0] 0) true none) := fun ρ => by rw [hg0]; exact SubQ.ofL rfl (by intro v hv; (repeat (rcases List.mem_cons.1 hv with rfl | hv; exact rfl)); exact absurd hv (List.not_mem_nil)) (.inr rfl)
    refine WpR.loopGA 1 (ι := Nat) [] [0, 5] [1, 2] [] 3 (fun i => [(4, .sl 1 0 i S true)]) (fun i => [(1, .cells (ofL (arrV 10 fun k => .int .i64 (rm i k)) 0) true none), (2, .cells (ofL [.int .i64 (i : Int), .int .u16 ((G i : Nat) : Int)] 0) true none)]) (fun i => S - i) (fun i => i ≤ S) ?_ (0) (Nat.zero_le _) [] ⟨rfl, rfl, (by (repeat' (first | exact True.intro | rfl | exact gr_ren rfl | exact aV_ren rfl | exact aW_ren rfl rfl | refine And.intro ?_ ?_))), (by (repeat' (first | exact True.intro | rfl | exact gr_ren rfl | exact aV_ren rfl | exact aW_ren rfl rfl | refine And.intro ?_ ?_))), (by (repeat' (first | exact True.intro | rfl | exact gr_ren rfl | exact aV_ren rfl | exact aW_ren rfl rfl | refine And.intro ?_ ?_))), ⟨.inr ⟨_, rfl, hq1 _⟩, .inr ⟨_, rfl, hq2 _⟩, trivial⟩, rfl, rfl⟩
    intro i hi
    refine WpR.of_vc ?_
    by_cases hiS : i < S
    · have hsti := hst i hiS
      have hgi := hgl i hi
      have kHi := fun k h' hk => kH i k h' (by omega) hk
      have kIi := kI i
      have hnxi := hnx i
      have hnoi := hno i hsti.1
      have kBi := fun k h' hk => kB i (by omega) k h' (by omega) hk
      have hgSi := hgS i
      have hrmi := hrm i
      (conv => whnf); (repeat' (first | ((with_reducible refine ifb_mk (fun hc => ?_) (fun hc => ?_)) <;> ((try simp only [decide_eq_true_eq, decide_eq_false_iff_not, Bool.not_eq_true', Bool.not_eq_false', Int.not_lt, Int.not_le, ne_eq, Decidable.not_not, beq_iff_eq, List.cons.injEq, and_true] at hc); (first | (exfalso; omega) | exact absurd True.intro hc | conv => whnf))) | ((with_reducible refine And.intro True.intro ?_); conv => whnf) | ((with_reducible refine grd_and ?_); refine And.intro (hiS) ?_; conv => whnf) | ((with_reducible refine WpR.draw (id := 4) mixed [0, 1, 2, 3, 4, 5, 6, 7] [0, 1, 0, 4, 12, 28, 60, 127] ?hh ?_); (case hh => kernel_rfl); conv => whnf) | ((with_reducible refine CallX.all (f := 94) ?_); refine CallW.inline Try.func94 rfl rfl (Nat.le_of_ble_eq_true rfl) (WpR.of_vc ?_); conv => whnf) | ((with_reducible refine CallX.all (f := 93) ?_); refine CallW.inline Try.func93 rfl rfl (Nat.le_of_ble_eq_true rfl) (WpR.of_vc ?_); conv => whnf) | ((with_reducible refine RangeX.all ?_); conv => whnf) | ((with_reducible refine CallW.inline (f := 109) Try.func109 rfl rfl (Nat.le_of_ble_eq_true rfl) (WpR.of_vc ?_)); conv => whnf) | ((with_reducible refine And.intro ?hh ?_); (case hh => exact condA); conv => whnf) | fail))
      have hMapD := hlt 10
      refine WpR.loopA (ι := Nat) [] [0, 1, 2, 9] [] [] 10 (fun k => [(10, .int .i64 k)]) (fun _ => []) (fun k => S - k) (fun k => k ≤ S ∧ ∀ j, j < k → (!(G i).testBit j && subB (br j) (G i)) = false) ?_ (0) (⟨Nat.zero_le _, fun j hj => absurd hj (Nat.not_lt_zero _)⟩) [] Back.auto
      rintro k ⟨j1, j2⟩
      refine WpR.of_vc ?_
      by_cases hk : k < S
      · have k1 := fun h' => kHi k h' (by omega)
        have k2 := kIi k
        have hgk := hgb k (by omega)
        cases hb : (G i).testBit k with
        | true =>
          rw [hb] at k1
          have hnx := below_f (p := fun j => !(G i).testBit j && subB (br j) (G i)) j2 (by rw [hb]; rfl)
          (conv => whnf); (repeat' (first | ((with_reducible refine ifb_mk (fun hc => ?_) (fun hc => ?_)) <;> ((try simp only [decide_eq_true_eq, decide_eq_false_iff_not, Bool.not_eq_true', Bool.not_eq_false', Int.not_lt, Int.not_le, ne_eq, Decidable.not_not, beq_iff_eq, List.cons.injEq, and_true] at hc); (first | (exfalso; omega) | exact absurd True.intro hc | conv => whnf))) | ((with_reducible refine And.intro True.intro ?_); conv => whnf) | ((with_reducible refine grd_and ?_); refine And.intro (hk) ?_; conv => whnf) | ((with_reducible refine WpR.drawTail (id := 3) mixed 19 [0, 1, 2, 3, 4, 5, 6, 7, 8, 9, 10, 11, 12, 13, 14, 15, 16, 17, 18] [0, 1, 0, 7, 15, 31, 63, 63, 127, 383, 1023, 2047, 63, 4159, 16383, 32767, 65535, 131071, 131071] ?hh ?hk ?_); (case hh => kernel_rfl); (case hk => kernel_rfl); conv => whnf) | ((with_reducible refine grd_ex ?_); refine ex_ok (k1 _) ?_; conv => whnf) | ((with_reducible refine CallX.all ?_); refine CallW.of_ok (k1 _) ?_; conv => whnf) | ((with_reducible refine grd_ex ?_); refine ex_ok (k2 _) ?_; conv => whnf) | ((with_reducible refine CallX.all ?_); refine CallW.of_ok (k2 _) ?_; conv => whnf) | ((with_reducible refine grd_get ?_); refine som_mk (a := ?_) ?hh ?_; (case hh => exact hgk _ (by show 12 + Int.toNat (k : Int) * 1 = 12 + k; omega)); conv => whnf) | ((with_reducible refine And.intro ?hh ?_); (case hh => exact condA); conv => whnf) | fail))
          all_goals exact ⟨k + 1, [], by omega, ⟨by omega, hnx⟩, Back.auto⟩
        | false =>
          rw [hb] at k1
          cases hsb : subB (br k) (G i) with
          | false =>
            rw [hsb] at k2
            have hnx := below_f (p := fun j => !(G i).testBit j && subB (br j) (G i)) j2 (by rw [hb, hsb]; rfl)
            (conv => whnf); (repeat' (first | ((with_reducible refine ifb_mk (fun hc => ?_) (fun hc => ?_)) <;> ((try simp only [decide_eq_true_eq, decide_eq_false_iff_not, Bool.not_eq_true', Bool.not_eq_false', Int.not_lt, Int.not_le, ne_eq, Decidable.not_not, beq_iff_eq, List.cons.injEq, and_true] at hc); (first | (exfalso; omega) | exact absurd True.intro hc | conv => whnf))) | ((with_reducible refine And.intro True.intro ?_); conv => whnf) | ((with_reducible refine grd_and ?_); refine And.intro (hk) ?_; conv => whnf) | ((with_reducible refine WpR.drawTail (id := 3) mixed 19 [0, 1, 2, 3, 4, 5, 6, 7, 8, 9, 10, 11, 12, 13, 14, 15, 16, 17, 18] [0, 1, 0, 7, 15, 31, 63, 63, 127, 383, 1023, 2047, 63, 4159, 16383, 32767, 65535, 131071, 131071] ?hh ?hk ?_); (case hh => kernel_rfl); (case hk => kernel_rfl); conv => whnf) | ((with_reducible refine grd_ex ?_); refine ex_ok (k1 _) ?_; conv => whnf) | ((with_reducible refine CallX.all ?_); refine CallW.of_ok (k1 _) ?_; conv => whnf) | ((with_reducible refine grd_ex ?_); refine ex_ok (k2 _) ?_; conv => whnf) | ((with_reducible refine CallX.all ?_); refine CallW.of_ok (k2 _) ?_; conv => whnf) | ((with_reducible refine grd_get ?_); refine som_mk (a := ?_) ?hh ?_; (case hh => exact hgk _ (by show 12 + Int.toNat (k : Int) * 1 = 12 + k; omega)); conv => whnf) | ((with_reducible refine And.intro ?hh ?_); (case hh => exact condA); conv => whnf) | fail))
            all_goals exact ⟨k + 1, [], by omega, ⟨by omega, hnx⟩, Back.auto⟩
          | true =>
            rw [hsb] at k2
            have est := hnxi k hk j2 (by rw [hb, hsb]; rfl)
            have k3 := fun h' => kBi k h' (by omega)
            rw [est] at hgSi hrmi
            rw [← hgSi] at k3
            (conv => whnf); (repeat' (first | ((with_reducible refine ifb_mk (fun hc => ?_) (fun hc => ?_)) <;> ((try simp only [decide_eq_true_eq, decide_eq_false_iff_not, Bool.not_eq_true', Bool.not_eq_false', Int.not_lt, Int.not_le, ne_eq, Decidable.not_not, beq_iff_eq, List.cons.injEq, and_true] at hc); (first | (exfalso; omega) | exact absurd True.intro hc | conv => whnf))) | ((with_reducible refine And.intro True.intro ?_); conv => whnf) | ((with_reducible refine grd_and ?_); refine And.intro (hk) ?_; conv => whnf) | ((with_reducible refine WpR.drawTail (id := 3) mixed 19 [0, 1, 2, 3, 4, 5, 6, 7, 8, 9, 10, 11, 12, 13, 14, 15, 16, 17, 18] [0, 1, 0, 7, 15, 31, 63, 63, 127, 383, 1023, 2047, 63, 4159, 16383, 32767, 65535, 131071, 131071] ?hh ?hk ?_); (case hh => kernel_rfl); (case hk => kernel_rfl); conv => whnf) | ((with_reducible refine grd_ex ?_); refine ex_ok (k1 _) ?_; conv => whnf) | ((with_reducible refine CallX.all ?_); refine CallW.of_ok (k1 _) ?_; conv => whnf) | ((with_reducible refine grd_ex ?_); refine ex_ok (k2 _) ?_; conv => whnf) | ((with_reducible refine CallX.all ?_); refine CallW.of_ok (k2 _) ?_; conv => whnf) | ((with_reducible refine grd_get ?_); refine som_mk (a := ?_) ?hh ?_; (case hh => exact hgk _ (by show 12 + Int.toNat (k : Int) * 1 = 12 + k; omega)); conv => whnf) | ((with_reducible refine And.intro ?hh ?_); (case hh => exact condA); conv => whnf) | fail))
            refine YldX.all ?_
            refine YldW.inline rfl rfl rfl (WpR.of_vc ?_)
            conv => whnf
            refine ⟨rfl, _, rfl, rfl, WpR.of_vc ?_⟩
            (conv => whnf); (repeat' (first | ((with_reducible refine ifb_mk (fun hc => ?_) (fun hc => ?_)) <;> ((try simp only [decide_eq_true_eq, decide_eq_false_iff_not, Bool.not_eq_true', Bool.not_eq_false', Int.not_lt, Int.not_le, ne_eq, Decidable.not_not, beq_iff_eq, List.cons.injEq, and_true] at hc); (first | (exfalso; omega) | exact absurd True.intro hc | conv => whnf))) | ((with_reducible refine And.intro True.intro ?_); conv => whnf) | ((with_reducible refine CallX.all (f := 95) ?_); refine CallW.inline Try.func95 rfl rfl (Nat.le_of_ble_eq_true rfl) (WpR.of_vc ?_); conv => whnf) | ((with_reducible refine And.intro ?hh ?_); (case hh => exact condA); conv => whnf) | fail))
            refine ⟨_, _, rfl, ?_⟩
            have hg10 : (ofL (arrV 10 fun q => V.int .i64 (rm i q)) 0).get (0 + i * 1) = some (.int .i64 (rm i i)) := arrV_get (by omega) (by omega)
            have hp3 : putN [V.int .i64 (k : Int)] (ofL (arrV 10 fun q => V.int .i64 (rm i q)) 0) (0 + i * 1) = some ((ofL (arrV 10 fun q => V.int .i64 (rm i q)) 0).set (0 + i * 1) (.int .i64 (k : Int))) := by rw [putN_cons, hg10]; rfl
            have hgs : ∀ ρ, SubQ ρ (.cells (ofL (arrV 10 fun q => .int .i64 (rm (i + 1) q)) 0) true none) (.cells ((ofL (arrV 10 fun q => V.int .i64 (rm i q)) 0).set (0 + i * 1) (.int .i64 (k : Int))) true none) := fun ρ => arrV_set (p := i) (fun _ => rfl) rfl (by omega) fun q hq => by rw [hrmi]; split <;> rfl
            (conv => whnf); (repeat' (first | ((with_reducible refine ifb_mk (fun hc => ?_) (fun hc => ?_)) <;> ((try simp only [decide_eq_true_eq, decide_eq_false_iff_not, Bool.not_eq_true', Bool.not_eq_false', Int.not_lt, Int.not_le, ne_eq, Decidable.not_not, beq_iff_eq, List.cons.injEq, and_true] at hc); (first | (exfalso; omega) | exact absurd True.intro hc | conv => whnf))) | ((with_reducible refine And.intro True.intro ?_); conv => whnf) | (refine AppX.room (n := 1) (len := i) rfl (by omega) hp3 ?_; conv => whnf) | ((with_reducible refine CallX.all ?_); refine CallW.of_ok (k3 _) ?_; conv => whnf) | ((with_reducible refine And.intro ?hh ?_); (case hh => exact condA); conv => whnf) | fail))
            all_goals first | (exfalso; omega) | exact ⟨i + 1, [], by omega, by omega, Back.auto⟩
      · exfalso
        rw [j2 (st i) (by omega)] at hnoi
        cases hnoi
    · have ei : i = S := by omega
      subst ei
      have kT3 := fun h' (e : 3 = h'.n + 0) sv hsv => kT h' 3 e sv hsv
      (conv => whnf); (repeat' (first | ((with_reducible refine ifb_mk (fun hc => ?_) (fun hc => ?_)) <;> ((try simp only [decide_eq_true_eq, decide_eq_false_iff_not, Bool.not_eq_true', Bool.not_eq_false', Int.not_lt, Int.not_le, ne_eq, Decidable.not_not, beq_iff_eq, List.cons.injEq, and_true] at hc); (first | (exfalso; omega) | exact absurd True.intro hc | conv => whnf))) | ((with_reducible refine And.intro True.intro ?_); conv => whnf) | ((with_reducible refine grd_and ?_); refine And.intro (hiS) ?_; conv => whnf) | ((with_reducible refine WpR.draw (id := 4) mixed [0, 1, 2, 3, 4, 5, 6, 7] [0, 1, 0, 4, 12, 28, 60, 127] ?hh ?_); (case hh => kernel_rfl); conv => whnf) | ((with_reducible refine CallX.all ?_); refine CallW.of_ok (kT3 _ (by rfl) _ (SlC.sl rfl (fun q v hv => by rw [Nat.zero_add]; have hlt' := (List.getElem?_eq_some_iff.1 hv).1; rw [arrV_len] at hlt'; rw [arrV_at hlt'] at hv; cases hv; rw [← hrS q hlt']; exact arrV_get rfl (by omega)))) ?_; conv => whnf) | ((with_reducible refine And.intro ?hh ?_); (case hh => exact condA); conv => whnf) | fail))
      refine ⟨[3], rfl, rfl, rfl, ⟨⟨?bb, ?h1, ?h2, ?h3⟩, ltB_ofLb (arrV_bare fun _ => rfl), rfl, trivial⟩, trivs⟩
      case h1 => conv => lhs; whnf
      case h2 => rfl
      case h3 => exact SubQ.ofL rfl (arrV_bare fun _ => rfl) (.inr rfl)
theorem order_ok (h : As.H) (s S : Nat) (hS : 1 ≤ S ∧ S ≤ 10) (lv : V) (hl : bare0 lv = true) (lk br : Nat → Nat) (c : Ac S br) (mk : Nat → Bool) {w : Bool} {g : Option (Nat × Nat)} (hs : h.get s = some (.cells (ofL (skL S lv lk br mk) 0) w g)) :
    CallOk Try.prog 63 [.ptr s 0] h (.rsl true 1 S (iG fun k => ((stN S br k : Nat) : Int))) h :=
  CallOk.freeze (order_new h s S hS lv hl lk br c mk hs) (arrFz (fun _ => rfl) rfl fun _ _ => rfl) (fun b hb => by rw [List.mem_singleton.1 hb]; rfl)
end Go.Proofs.J

