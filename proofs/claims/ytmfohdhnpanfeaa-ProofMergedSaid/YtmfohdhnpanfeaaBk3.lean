/- What the functions answer that the laws call, one after another (Bk3). -/
import Derived.Test.YtmfohdhnpanfeaaAs6
import Derived.Test.YtmfohdhnpanfeaaBk2

set_option linter.unusedVariables false
namespace Go.Proofs.Q
open Go.As
set_option maxRecDepth 20000
set_option linter.unusedVariables false
set_option linter.unusedSimpArgs false

/-! ### A page, glyph by glyph -/

inductive Kd where
  | left | struck | added
  deriving DecidableEq
abbrev Gl := UInt8 × Kd
def Kd.swap : Kd → Kd
  | .left => .left
  | .struck => .added
  | .added => .struck
def swG (g : List Gl) : List Gl := g.map fun x => (x.1, x.2.swap)
/-- The glyphs ahead of what is added before a letter; all of them. -/
def gcF (T : List UInt8) (st : Nat → Bool) (A : Nat → List UInt8) : Nat → List Gl
  | 0 => []
  | i + 1 => gcF T st A i ++ (A i).map (·, .added) ++ (chr T i).map (·, if st i = true then .struck else .left)
def gcA (T : List UInt8) (st : Nat → Bool) (A : Nat → List UInt8) : List Gl := gcF T st A T.length ++ (A T.length).map (·, .added)
def rdG (g : List Gl) : List UInt8 := (g.filter fun x => decide (x.2 ≠ .struck)).map (·.1)
def ofG (g : List Gl) : List UInt8 := (g.filter fun x => decide (x.2 ≠ .added)).map (·.1)
def nmG (g : List Gl) : Nat := (g.filter fun x => decide (x.2 ≠ .left)).length
def stG (x : BS) (g : Gl) : BS := match g.2 with
  | .added => bAdd x
  | .struck => bStr x [g.1]
  | .left => bLeft x
def bkG (g : List Gl) : BS := g.foldl stG ([], [[]])

theorem rdG_app (a b : List Gl) : rdG (a ++ b) = rdG a ++ rdG b := by unfold rdG; rw [List.filter_append, List.map_append]
theorem ofG_app (a b : List Gl) : ofG (a ++ b) = ofG a ++ ofG b := by unfold ofG; rw [List.filter_append, List.map_append]
theorem nmG_app (a b : List Gl) : nmG (a ++ b) = nmG a + nmG b := by unfold nmG; rw [List.filter_append, List.length_append]
theorem bkG_app (a b : List Gl) : bkG (a ++ b) = b.foldl stG (bkG a) := by unfold bkG; rw [List.foldl_append]
theorem map_k (l : List UInt8) (k : Kd) : (rdG (l.map (·, k)) = if k = .struck then [] else l) ∧ (ofG (l.map (·, k)) = if k = .added then [] else l) ∧ (nmG (l.map (·, k)) = if k = .left then 0 else l.length) := by
  induction l with
  | nil => cases k <;> exact ⟨rfl, rfl, rfl⟩
  | cons a l ih =>
    obtain ⟨h1, h2, h3⟩ := ih
    have e : (a :: l).map (·, k) = [(a, k)] ++ l.map (·, k) := rfl
    rw [e, rdG_app, ofG_app, nmG_app, h1, h2, h3]
    cases k
    · exact ⟨rfl, rfl, rfl⟩
    · exact ⟨rfl, rfl, by show 1 + l.length = _; rw [if_neg (by decide), List.length_cons]; omega⟩
    · exact ⟨rfl, rfl, by show 1 + l.length = _; rw [if_neg (by decide), List.length_cons]; omega⟩
theorem chr_one {T : List UInt8} {i : Nat} (h : i < T.length) : chr T i = [T[i]] := by
  unfold chr
  rw [Nat.add_sub_cancel_left, List.drop_eq_getElem_cons h]
  rfl
theorem addG (x : BS) (l : List UInt8) : (l.map (·, Kd.added)).foldl stG x = bAdds x l.length := by
  induction l generalizing x with
  | nil => rfl
  | cons a l ih =>
    show (l.map (·, Kd.added)).foldl stG (bAdd x) = _
    rw [ih]
    show bAdds (bAdd x) l.length = bAdds x (l.length + 1)
    generalize l.length = n
    induction n with
    | zero => rfl
    | succ n ih2 => show bAdd (bAdds (bAdd x) n) = bAdd (bAdds x (n + 1)); rw [ih2]
theorem gc_all {T : List UInt8} {st : Nat → Bool} {A : Nat → List UInt8} : ∀ {i : Nat}, i ≤ T.length → rdG (gcF T st A i) = mkF T st A i ∧ ofG (gcF T st A i) = T.take i ∧ bkG (gcF T st A i) = bkF T st A i
  | 0, _ => ⟨rfl, rfl, rfl⟩
  | i + 1, hi => by
    obtain ⟨h1, h2, h3⟩ := gc_all (T := T) (st := st) (A := A) (i := i) (by omega)
    have hc := chr_one (T := T) (i := i) (by omega)
    obtain ⟨a1, a2, _⟩ := map_k (A i) .added
    obtain ⟨c1, c2, _⟩ := map_k (chr T i) (if st i = true then .struck else .left)
    show rdG (gcF T st A i ++ (A i).map (·, .added) ++ (chr T i).map (·, if st i = true then .struck else .left)) = _ ∧ ofG (gcF T st A i ++ (A i).map (·, .added) ++ (chr T i).map (·, if st i = true then .struck else .left)) = _ ∧ bkG (gcF T st A i ++ (A i).map (·, .added) ++ (chr T i).map (·, if st i = true then .struck else .left)) = _
    refine ⟨?_, ?_, ?_⟩
    · rw [rdG_app, rdG_app, h1, a1, c1]
      show mkF T st A i ++ A i ++ _ = mkF T st A i ++ A i ++ (if st i = true then [] else chr T i)
      cases st i <;> rfl
    · rw [ofG_app, ofG_app, h2, a2, c2, hc]
      rw [show (if Kd.added = Kd.added then ([] : List UInt8) else A i) = [] from rfl, List.append_nil]
      rw [show (if (if st i = true then Kd.struck else Kd.left) = Kd.added then ([] : List UInt8) else [T[i]]) = [T[i]] from by cases st i <;> rfl]
      exact (List.take_succ_eq_append_getElem (by omega)).symm
    · rw [bkG_app, bkG_app, h3, addG, hc]
      show _ = if st i = true then bStr (bAdds (bkF T st A i) (A i).length) (chr T i) else bLeft (bAdds (bkF T st A i) (A i).length)
      rw [hc]
      cases st i <;> rfl
theorem gc_rd (T : List UInt8) (st : Nat → Bool) (A : Nat → List UInt8) : rdG (gcA T st A) = rdF T st A T.length := by
  unfold gcA
  rw [rdG_app, (gc_all (Nat.le_refl _)).1, (map_k _ _).1, ← mkF_rd]; rfl
theorem gc_of (T : List UInt8) (st : Nat → Bool) (A : Nat → List UInt8) : ofG (gcA T st A) = T := by
  unfold gcA
  rw [ofG_app, (gc_all (Nat.le_refl _)).2.1, (map_k _ _).2.1, List.take_length]
  exact List.append_nil T
theorem gc_bk (T : List UInt8) (st : Nat → Bool) (A : Nat → List UInt8) : bkG (gcA T st A) = bAdds (bkF T st A T.length) (A T.length).length := by
  unfold gcA
  rw [bkG_app, (gc_all (Nat.le_refl _)).2.2, addG]

/-! The other way round. -/
theorem sw_rd (g : List Gl) : rdG (swG g) = ofG g := by
  induction g with
  | nil => rfl
  | cons x g ih =>
    have e : swG (x :: g) = [(x.1, x.2.swap)] ++ swG g := rfl
    have e2 : ofG (x :: g) = ofG [x] ++ ofG g := ofG_app [x] g
    rw [e, rdG_app, ih, e2]
    obtain ⟨c, k⟩ := x
    cases k <;> rfl
theorem sw_nm (g : List Gl) : nmG (swG g) = nmG g := by
  induction g with
  | nil => rfl
  | cons x g ih =>
    have e : swG (x :: g) = [(x.1, x.2.swap)] ++ swG g := rfl
    have e2 : nmG (x :: g) = nmG [x] + nmG g := nmG_app [x] g
    rw [e, nmG_app, ih, e2]
    obtain ⟨c, k⟩ := x
    cases k <;> rfl
/-- Is a letter struck by a list? -/
def memS (S : List Int) (i : Nat) : Bool := decide ((i : Int) ∈ S)
theorem gcF_eq {T T' : List UInt8} {st st' : Nat → Bool} {A A' : Nat → List UInt8} : ∀ {n : Nat}, (∀ i, i < n → chr T i = chr T' i ∧ st i = st' i ∧ A i = A' i) → gcF T st A n = gcF T' st' A' n
  | 0, _ => rfl
  | n + 1, h => by
    obtain ⟨h1, h2, h3⟩ := h n (by omega)
    show gcF T st A n ++ (A n).map (·, .added) ++ (chr T n).map (·, if st n = true then .struck else .left) = gcF T' st' A' n ++ (A' n).map (·, .added) ++ (chr T' n).map (·, if st' n = true then .struck else .left)
    rw [h1, h2, h3, gcF_eq fun i hi => h i (by omega)]
theorem chr_app {T : List UInt8} {c : List UInt8} {i : Nat} (h : i < T.length) : chr (T ++ c) i = chr T i := by
  rw [chr_one h, chr_one (by rw [List.length_append]; omega), List.getElem_append_left h]
/-- The state of a page: what is known of it. -/
def okB (R : List UInt8) (x : BS) : Prop := x.2.length = R.length + 1 ∧ ∀ z ∈ x.1, 0 ≤ z ∧ z < (R.length : Int)
theorem snocInd {α : Type} {p : List α → Prop} (h0 : p []) (h1 : ∀ l x, p l → p (l ++ [x])) (l : List α) : p l := by
  have key : ∀ r : List α, p r.reverse := by
    intro r
    induction r with
    | nil => exact h0
    | cons a r ih => rw [List.reverse_cons]; exact h1 _ _ ih
  have := key l.reverse
  rwa [List.reverse_reverse] at this
theorem bk_sw : ∀ (g : List Gl), okB (rdG g) (bkG g) ∧ gcA (rdG g) (memS (bkG g).1) (tOf (bkG g).2) = swG g ∧ (bkG g).1.Pairwise (· > ·) := by
  refine snocInd ⟨⟨rfl, fun z h => by cases h⟩, rfl, .nil⟩ fun g x ih => ?_
  · obtain ⟨⟨h1, h2⟩, h3, h4⟩ := ih
    obtain ⟨c, kd⟩ := x
    have esw : swG (g ++ [(c, kd)]) = swG g ++ [(c, kd.swap)] := by unfold swG; rw [List.map_append]; rfl
    rw [rdG_app, bkG_app, esw]
    generalize hR : rdG g = R at *
    generalize hx : bkG g = x at *
    obtain ⟨S, D⟩ := x
    dsimp only at h1 h2 h3 h4
    have hD : ∃ d ds, D = d :: ds := by
      cases D with
      | nil => rw [List.length_nil] at h1; omega
      | cons d ds => exact ⟨d, ds, rfl⟩
    obtain ⟨d, ds, rfl⟩ := hD
    rw [List.length_cons] at h1
    have hds : ds.length = R.length := by omega
    cases kd with
    | struck =>
      show okB (R ++ []) (S, (d ++ [c]) :: ds) ∧ gcA (R ++ []) (memS S) (tOf ((d ++ [c]) :: ds)) = swG g ++ [(c, .added)] ∧ S.Pairwise _
      rw [List.append_nil]
      refine ⟨⟨by rw [List.length_cons]; omega, h2⟩, ?_, h4⟩
      rw [← h3]
      unfold gcA
      have e1 : gcF R (memS S) (tOf ((d ++ [c]) :: ds)) R.length = gcF R (memS S) (tOf (d :: ds)) R.length := gcF_eq fun i hi => ⟨rfl, rfl, by rw [tOf_set d, if_neg (by omega)]⟩
      rw [e1, ← hds, tOf_at, tOf_at, List.map_append, List.append_assoc]; rfl
    | added =>
      show okB (R ++ [c]) (((((d :: ds).length : Nat) : Int) - 1) :: S, [] :: d :: ds) ∧ gcA (R ++ [c]) (memS (((((d :: ds).length : Nat) : Int) - 1) :: S)) (tOf ([] :: d :: ds)) = swG g ++ [(c, .struck)] ∧ (_ :: S).Pairwise _
      have hp : (((d :: ds).length : Nat) : Int) - 1 = (R.length : Int) := by rw [List.length_cons]; omega
      rw [hp]
      refine ⟨⟨by rw [List.length_cons, List.length_cons, List.length_append, List.length_singleton]; omega, fun z hz => ?_⟩, ?_, ?_⟩
      · rw [List.length_append, List.length_singleton]
        rcases List.mem_cons.1 hz with rfl | hz
        · omega
        · have := h2 z hz; omega
      · rw [← h3]
        unfold gcA
        rw [List.length_append, List.length_singleton]
        show gcF (R ++ [c]) _ _ R.length ++ (tOf ([] :: d :: ds) R.length).map (·, .added) ++ (chr (R ++ [c]) R.length).map (·, if memS ((R.length : Int) :: S) R.length = true then .struck else .left) ++ (tOf ([] :: d :: ds) (R.length + 1)).map (·, .added) = _
        have e1 : gcF (R ++ [c]) (memS ((R.length : Int) :: S)) (tOf ([] :: d :: ds)) R.length = gcF R (memS S) (tOf (d :: ds)) R.length := gcF_eq fun i hi => ⟨chr_app hi, by
          unfold memS
          exact decide_eq_decide.2 ⟨fun h => (List.mem_cons.1 h).resolve_left (by omega), List.mem_cons_of_mem _⟩, tOf_nil _ _⟩
        have e2 : chr (R ++ [c]) R.length = [c] := by rw [chr_one (by rw [List.length_append, List.length_singleton]; omega)]; simp
        have e3 : memS ((R.length : Int) :: S) R.length = true := decide_eq_true (List.mem_cons_self ..)
        have e4 : tOf (d :: ds) (R.length + 1) = [] := by
          unfold tOf
          rw [List.getD_eq_getElem?_getD, List.getElem?_eq_none (by rw [List.length_reverse, List.length_cons]; omega)]; rfl
        rw [e1, e2, e3, tOf_nil, tOf_nil, e4, if_pos rfl]
        show _ ++ _ ++ [(c, Kd.struck)] ++ [] = _
        rw [List.append_nil]
      · exact .cons (fun z hz => by have := h2 z hz; omega) h4
    | left =>
      show okB (R ++ [c]) (S, [] :: d :: ds) ∧ gcA (R ++ [c]) (memS S) (tOf ([] :: d :: ds)) = swG g ++ [(c, .left)] ∧ S.Pairwise _
      refine ⟨⟨by rw [List.length_cons, List.length_cons, List.length_append, List.length_singleton]; omega, fun z hz => ?_⟩, ?_, h4⟩
      · rw [List.length_append, List.length_singleton]
        have := h2 z hz; omega
      · rw [← h3]
        unfold gcA
        rw [List.length_append, List.length_singleton]
        show gcF (R ++ [c]) _ _ R.length ++ (tOf ([] :: d :: ds) R.length).map (·, .added) ++ (chr (R ++ [c]) R.length).map (·, if memS S R.length = true then .struck else .left) ++ (tOf ([] :: d :: ds) (R.length + 1)).map (·, .added) = _
        have e1 : gcF (R ++ [c]) (memS S) (tOf ([] :: d :: ds)) R.length = gcF R (memS S) (tOf (d :: ds)) R.length := gcF_eq fun i hi => ⟨chr_app hi, rfl, tOf_nil _ _⟩
        have e2 : chr (R ++ [c]) R.length = [c] := by rw [chr_one (by rw [List.length_append, List.length_singleton]; omega)]; simp
        have e3 : memS S R.length = false := decide_eq_false fun h => by have := h2 _ h; omega
        have e4 : tOf (d :: ds) (R.length + 1) = [] := by
          unfold tOf
          rw [List.getD_eq_getElem?_getD, List.getElem?_eq_none (by rw [List.length_reverse, List.length_cons]; omega)]; rfl
        rw [e1, e2, e3, tOf_nil, tOf_nil, e4, if_neg (by decide)]
        show _ ++ _ ++ [(c, Kd.left)] ++ [] = _
        rw [List.append_nil]
end Go.Proofs.Q

namespace Go.Proofs.Q
open Go.As
set_option maxRecDepth 20000
set_option linter.unusedVariables false
set_option linter.unusedSimpArgs false

theorem stF_mem (S : List Int) (i : Nat) : stF S.length (iOf S) i = memS S i := by
  unfold stF hasB memS
  rw [Bool.eq_iff_iff, anyF_iff, decide_eq_true_eq]
  have hl : S.reverse.length = S.length := List.length_reverse
  constructor
  · rintro ⟨j, hj, he⟩
    have he' : (i : Int) = iOf S j := of_decide_eq_true he
    unfold iOf at he'
    rw [List.getD_eq_getElem?_getD, List.getElem?_eq_getElem (by omega)] at he'
    rw [he']
    exact List.mem_reverse.1 (List.getElem_mem _)
  · intro h
    obtain ⟨j, hj, he⟩ := List.getElem_of_mem (List.mem_reverse.2 h)
    refine ⟨j, by omega, decide_eq_true ?_⟩
    unfold iOf
    rw [List.getD_eq_getElem?_getD, List.getElem?_eq_getElem hj, he]; rfl
/-- A list that falls, of letters of a text, as numbers that rise. -/
theorem stB_of {S : List Int} {tn : Nat} (h1 : S.Pairwise (· > ·)) (h2 : ∀ z ∈ S, 0 ≤ z ∧ z < (tn : Int)) : stB tn S.length (iOf S) = true := by
  refine allF_t fun i hi => decide_eq_true ?_
  have hl : S.reverse.length = S.length := List.length_reverse
  have hr : S.reverse.Pairwise (· < ·) := List.pairwise_reverse.2 h1
  have at' : ∀ j (hj : j < S.length), iOf S j = S.reverse[j]'(by omega) := fun j hj => by
    unfold iOf
    rw [List.getD_eq_getElem?_getD, List.getElem?_eq_getElem (by omega)]; rfl
  have rng : ∀ j (hj : j < S.length), 0 ≤ iOf S j ∧ iOf S j < (tn : Int) := fun j hj => by
    rw [at' j hj]
    exact h2 _ (List.mem_reverse.1 (List.getElem_mem _))
  refine ⟨?_, (rng i hi).2⟩
  cases i with
  | zero => have := (rng 0 hi).1; show (-1 : Int) < _; omega
  | succ i =>
    show iOf S i < iOf S (i + 1)
    rw [at' i (by omega), at' (i + 1) hi]
    exact List.pairwise_iff_getElem.1 hr i (i + 1) (by omega) (by omega) (by omega)
/-- What turns back the marks that turn marks back. -/
theorem sw_bk {T : List UInt8} {st : Nat → Bool} {A : Nat → List UInt8} : ∀ {i : Nat}, i ≤ T.length → bkG (swG (gcF T st A i)) = (selR st i, [] :: revR A i)
  | 0, _ => rfl
  | i + 1, hi => by
    have ih := sw_bk (T := T) (st := st) (A := A) (i := i) (by omega)
    have hc := chr_one (T := T) (i := i) (by omega)
    have e : swG (gcF T st A (i + 1)) = swG (gcF T st A i) ++ (A i).map (·, Kd.struck) ++ [(T[i], if st i = true then Kd.added else Kd.left)] := by
      show swG (gcF T st A i ++ (A i).map (·, .added) ++ (chr T i).map (·, if st i = true then .struck else .left)) = _
      rw [hc]
      unfold swG
      rw [List.map_append, List.map_append, List.map_map]
      cases st i <;> rfl
    have key : ∀ (l : List UInt8) (S : List Int) (d : List UInt8) (ds : List (List UInt8)), (l.map (·, Kd.struck)).foldl stG (S, d :: ds) = (S, (d ++ l) :: ds) := by
      intro l
      induction l with
      | nil => intro S d ds; rw [List.append_nil]; rfl
      | cons a l ih2 =>
        intro S d ds
        show (l.map (·, Kd.struck)).foldl stG (S, (d ++ [a]) :: ds) = _
        rw [ih2, List.append_assoc]; rfl
    rw [e, bkG_app, bkG_app, ih, key, List.nil_append]
    show stG (selR st i, A i :: revR A i) (T[i], if st i = true then Kd.added else Kd.left) = (if st i = true then (i : Int) :: selR st i else selR st i, [] :: A i :: revR A i)
    have hl : (((A i :: revR A i).length : Nat) : Int) - 1 = (i : Int) := by rw [List.length_cons, revR_len]; omega
    cases st i with
    | true =>
      show bAdd (selR st i, A i :: revR A i) = _
      unfold bAdd
      rw [hl]; rfl
    | false => rfl
theorem sw_bkA (T : List UInt8) (st : Nat → Bool) (A : Nat → List UInt8) : bkG (swG (gcA T st A)) = (selR st T.length, revR A (T.length + 1)) := by
  have e : swG (gcA T st A) = swG (gcF T st A T.length) ++ (A T.length).map (·, Kd.struck) := by
    unfold gcA swG
    rw [List.map_append, List.map_map]; rfl
  have key : ∀ (l : List UInt8) (S : List Int) (d : List UInt8) (ds : List (List UInt8)), (l.map (·, Kd.struck)).foldl stG (S, d :: ds) = (S, (d ++ l) :: ds) := by
    intro l
    induction l with
    | nil => intro S d ds; rw [List.append_nil]; rfl
    | cons a l ih2 =>
      intro S d ds
      show (l.map (·, Kd.struck)).foldl stG (S, (d ++ [a]) :: ds) = _
      rw [ih2, List.append_assoc]; rfl
  rw [e, bkG_app, sw_bk (Nat.le_refl _), key, List.nil_append]; rfl
/-- A list that rises is that of the letters that it has. -/
theorem selR_st {tn n : Nat} {s : Nat → Int} (h : stB tn n s = true) : (selR (stF n s) tn).length = n ∧ ∀ j, j < n → iOf (selR (stF n s) tn) j = s j := by
  have mono : ∀ {i j : Nat}, i < j → j < n → s i < s j := by
    intro i j hij hj
    induction j with
    | zero => omega
    | succ j ih =>
      have h1 := of_decide_eq_true (allF_iff.1 h (j + 1) hj)
      have h2 : prv s (j + 1) = s j := rfl
      by_cases he : i = j
      · subst he; omega
      · have := ih (by omega) (by omega); omega
  have lo : ∀ j, j < n → 0 ≤ s j ∧ s j < (tn : Int) := fun j hj => ⟨by have := st_ge h hj; omega, (of_decide_eq_true (allF_iff.1 h j hj)).2⟩
  have key : ∀ i, i ≤ tn → ∃ c, c ≤ n ∧ (∀ j, j < n → (s j < (i : Int) ↔ j < c)) ∧ selR (stF n s) i = ((List.range c).map s).reverse := by
    intro i
    induction i with
    | zero => intro _; exact ⟨0, by omega, fun j hj => ⟨fun hlt => by have := lo j hj; omega, fun hlt => by omega⟩, rfl⟩
    | succ i ih =>
      intro hi
      obtain ⟨c, h1, h2, h3⟩ := ih (by omega)
      have e : selR (stF n s) (i + 1) = if stF n s i = true then (i : Int) :: selR (stF n s) i else selR (stF n s) i := rfl
      by_cases hst : stF n s i = true
      · have hst' := hst
        unfold stF hasB at hst'
        rw [anyF_iff] at hst'
        obtain ⟨j, hj, hij⟩ := hst'
        have hij' : (i : Int) = s j := of_decide_eq_true hij
        have hc1 : ¬ j < c := fun hlt => by have := (h2 j hj).2 hlt; omega
        have hc2 : c = j := by
          by_cases hlt : c < j
          · have h4 := mono hlt hj
            have := (h2 c (by omega)).1 (by omega)
            omega
          · omega
        refine ⟨c + 1, by omega, fun k hk => ?_, ?_⟩
        · have h4 := h2 k hk
          constructor
          · intro hlt
            by_cases hk2 : s k < (i : Int)
            · have := h4.1 hk2; omega
            · have hke : s k = s j := by omega
              by_cases hkj : k < j
              · have := mono hkj hj; omega
              · by_cases hjk : j < k
                · have := mono hjk hk; omega
                · omega
          · intro hlt
            by_cases hkc : k < c
            · have := h4.2 hkc; omega
            · have : k = j := by omega
              subst this; omega
        · rw [e, if_pos hst, h3, List.range_succ, List.map_append, List.reverse_append]
          show _ = [s c] ++ _
          rw [hc2, ← hij']; rfl
      · refine ⟨c, h1, fun k hk => ?_, by rw [e, if_neg hst, h3]⟩
        have h4 := h2 k hk
        have hne : s k ≠ (i : Int) := fun he => hst (by unfold stF hasB; exact anyF_t hk (decide_eq_true he.symm))
        constructor
        · intro hlt; exact h4.1 (by omega)
        · intro hlt; have := h4.2 hlt; omega
  obtain ⟨c, h1, h2, h3⟩ := key tn (Nat.le_refl _)
  have hcn : c = n := by
    by_cases hlt : c < n
    · have := (h2 c hlt).1 (lo c hlt).2; omega
    · omega
  subst hcn
  rw [h3]
  refine ⟨by simp, fun j hj => ?_⟩
  unfold iOf
  rw [List.reverse_reverse, List.getD_eq_getElem?_getD, List.getElem?_map, List.getElem?_range hj]; rfl
theorem tOf_rev (A : Nat → List UInt8) {k i : Nat} (h : i < k) : tOf (revR A k) i = A i := by
  unfold tOf
  rw [List.getD_eq_getElem?_getD, revR_at A h]; rfl
end Go.Proofs.Q

namespace Go.Proofs.Q
open Go.As
set_option maxRecDepth 20000
set_option linter.unusedVariables false
set_option linter.unusedSimpArgs false

theorem nm_gcF {T : List UInt8} {st : Nat → Bool} {A : Nat → List UInt8} : ∀ {i : Nat}, i ≤ T.length → nmG (gcF T st A i) = (selR st i).length + lnS A i
  | 0, _ => rfl
  | i + 1, hi => by
    have ih := nm_gcF (T := T) (st := st) (A := A) (i := i) (by omega)
    have hc := chr_one (T := T) (i := i) (by omega)
    show nmG (gcF T st A i ++ (A i).map (·, .added) ++ (chr T i).map (·, if st i = true then .struck else .left)) = (if st i = true then (i : Int) :: selR st i else selR st i).length + (lnS A i + (A i).length)
    rw [nmG_app, nmG_app, ih, (map_k _ _).2.2, (map_k _ _).2.2, hc]
    cases st i with
    | true =>
      rw [if_pos rfl, if_neg (by decide), if_neg (by decide), if_pos rfl]
      simp only [List.length_cons, List.length_nil]; omega
    | false =>
      rw [if_neg (show ¬ Kd.added = Kd.left by decide), if_pos (show (if false = true then Kd.struck else Kd.left) = Kd.left from rfl), if_neg (show ¬ (false = true) by decide)]
      omega
theorem nm_gcA (T : List UInt8) (st : Nat → Bool) (A : Nat → List UInt8) : nmG (gcA T st A) = (selR st T.length).length + lnF A T.length := by
  unfold gcA
  rw [nmG_app, nm_gcF (Nat.le_refl _), (map_k _ _).2.2, if_neg (by decide), ← lnS_F]
  show _ = _ + (lnS A T.length + (A T.length).length)
  omega

section
variable {T : List UInt8} {n : Nat} {s : Nat → Int} {k : Nat} {A : Nat → List UInt8} (hc : ckM T.length n s k A = 0)
include hc
/-- What turns marks back, said at once. -/
theorem back_all : (rdA T n s A).length ≤ 12 → ckM (rdA T n s A).length (bkA T n s A).1.length (iOf (bkA T n s A).1) (bkA T n s A).2.length (tOf (bkA T n s A).2) = 0 ∧
    rdA (rdA T n s A) (bkA T n s A).1.length (iOf (bkA T n s A).1) (tOf (bkA T n s A).2) = T ∧
    (bkA T n s A).1.length + lnF (tOf (bkA T n s A).2) (rdA T n s A).length = n + lnF A T.length ∧
    bkA (rdA T n s A) (bkA T n s A).1.length (iOf (bkA T n s A).1) (tOf (bkA T n s A).2) = (selR (stF n s) T.length, revR A k) := by
  intro hN
  obtain ⟨h1, h2, h3, h4⟩ := ckM_n hc
  have hb := (bkF_len (T := T) (st := stF n s) (A := A) (Nat.le_refl _)).2.2
  have hb2 := bAdds_mem _ hb (A T.length).length
  obtain ⟨q1, q2, q3⟩ := bk_sw (gcA T (stF n s) A)
  have ebk : bkG (gcA T (stF n s) A) = bkA T n s A := gc_bk T (stF n s) A
  have erd : rdG (gcA T (stF n s) A) = rdA T n s A := gc_rd T (stF n s) A
  rw [ebk, erd] at q1 q2
  rw [ebk] at q3
  have est : stF (bkA T n s A).1.length (iOf (bkA T n s A).1) = memS (bkA T n s A).1 := funext fun i => stF_mem _ i
  have hst := stB_of q3 q1.2
  have g1 : rdG (gcA (rdA T n s A) (memS (bkA T n s A).1) (tOf (bkA T n s A).2)) = T := by rw [q2, sw_rd, gc_of]
  have g2 : nmG (gcA (rdA T n s A) (memS (bkA T n s A).1) (tOf (bkA T n s A).2)) = nmG (gcA T (stF n s) A) := by rw [q2, sw_nm]
  have g3 : bkG (gcA (rdA T n s A) (memS (bkA T n s A).1) (tOf (bkA T n s A).2)) = (selR (stF n s) T.length, revR A (T.length + 1)) := by rw [q2, sw_bkA]
  refine ⟨?_, ?_, ?_, ?_⟩
  · unfold ckM
    rw [if_pos hN, if_pos q1.1, if_pos ?_, if_pos hst]
    refine allF_t fun i hi => decide_eq_true ?_
    by_cases hi2 : i < (bkA T n s A).2.reverse.length
    · have hm : tOf (bkA T n s A).2 i ∈ (bkA T n s A).2 := by
        unfold tOf
        rw [List.getD_eq_getElem?_getD, List.getElem?_eq_getElem hi2]
        exact List.mem_reverse.1 (List.getElem_mem _)
      have := hb2 _ hm
      omega
    · unfold tOf
      rw [List.getD_eq_getElem?_getD, List.getElem?_eq_none (by omega)]
      exact Nat.zero_le _
  · show rdF _ (stF _ _) _ _ = T
    rw [est, ← gc_rd]; exact g1
  · rw [nm_gcA, nm_gcA, (selR_st h4).1] at g2
    have e := (selR_st hst).1
    rw [est] at e
    rw [e] at g2
    exact g2
  · show bAdds (bkF _ (stF _ _) _ _) _ = _
    rw [est, ← gc_bk, g3, h2]
end

/-! Marks of a text, none too great. -/
def fineB (T : List UInt8) (n : Nat) (s : Nat → Int) (k : Nat) (A : Nat → List UInt8) : Bool := decide (T.length ≤ 20) && (!grtB n k A && decide (ckM T.length n s k A = 0))
theorem fine_ok (h : H) (T : List UInt8) (n : Nat) (s : Nat → Int) (k : Nat) (A : Nat → List UInt8) (x1 x2 : Bool) (hn : n ≤ 9223372036854775807) (hk : k ≤ 9223372036854775807) : CallOk Try.prog 47 [tx T, marksV n s k A x1 x2] h (.bool (fineB T n s k A)) h := by
  have kL := fun h' => long_ok h' T
  have kG := fun h' => great_ok h' n s k A x1 x2 hk
  have kC : T.length ≤ 20 → ∀ h', CallOk Try.prog 25 [tx T, marksV n s k A x1 x2] h' (.int .i64 (ckM T.length n s k A)) h' := fun hL h' => checkMarksR_ok h' T n s k A x1 x2 (by omega) hn hk
  unfold fineB
  by_cases hL : T.length ≤ 20
  · have kC1 := kC hL
    clear kC
    rw [decide_eq_true hL, Bool.true_and]
    rw [decide_eq_false (show ¬ (20 : Int) < T.length by omega)] at kL
    generalize grtB n k A = z at *
    generalize ckM T.length n s k A = e at *
    cases z with
    | true =>
      rw [Bool.not_true, Bool.false_and]
      refine CallOk.run0 Try.func47 rfl rfl rfl rfl rfl (WpR.of_vc ?_)
      (conv => whnf); (repeat' (first | ((with_reducible refine ifb_mk (fun hc => ?_) (fun hc => ?_)) <;> ((try simp only [decide_eq_true_eq, decide_eq_false_iff_not, Bool.not_eq_true', Bool.not_eq_false', Int.not_lt, Int.not_le, ne_eq, Decidable.not_not, beq_iff_eq, List.cons.injEq, and_true] at hc); (first | (exfalso; omega) | exact absurd True.intro hc | conv => whnf))) | ((with_reducible refine And.intro True.intro ?_); conv => whnf) | ((with_reducible refine CallX.all ?_); refine CallW.of_ok (kL _) ?_; conv => whnf) | ((with_reducible refine CallX.all ?_); refine CallW.of_ok (kG _) ?_; conv => whnf) | ((with_reducible refine And.intro ?hh ?_); (case hh => exact condA); conv => whnf) | fail))
      (refine ⟨[], ?_, rfl, rfl, trivial, trivs⟩; simp only [renV, renL]; (first | done | rfl | (simp; done) | (simp; omega) | grind))
    | false =>
      rw [Bool.not_false, Bool.true_and]
      by_cases he : e = 0
      · rw [decide_eq_true he]
        refine CallOk.run0 Try.func47 rfl rfl rfl rfl rfl (WpR.of_vc ?_)
        (conv => whnf); (repeat' (first | ((with_reducible refine ifb_mk (fun hc => ?_) (fun hc => ?_)) <;> ((try simp only [decide_eq_true_eq, decide_eq_false_iff_not, Bool.not_eq_true', Bool.not_eq_false', Int.not_lt, Int.not_le, ne_eq, Decidable.not_not, beq_iff_eq, List.cons.injEq, and_true] at hc); (first | (exfalso; omega) | exact absurd True.intro hc | conv => whnf))) | ((with_reducible refine And.intro True.intro ?_); conv => whnf) | ((with_reducible refine CallX.all ?_); refine CallW.of_ok (kL _) ?_; conv => whnf) | ((with_reducible refine CallX.all ?_); refine CallW.of_ok (kG _) ?_; conv => whnf) | ((with_reducible refine CallX.all ?_); refine CallW.of_ok (kC1 _) ?_; conv => whnf) | ((with_reducible refine And.intro ?hh ?_); (case hh => exact condA); conv => whnf) | fail))
        all_goals first | exact absurd he hc | (refine ⟨[], ?_, rfl, rfl, trivial, trivs⟩; simp only [renV, renL]; (first | done | rfl | (simp; done) | (simp; omega) | grind))
      · rw [decide_eq_false he]
        refine CallOk.run0 Try.func47 rfl rfl rfl rfl rfl (WpR.of_vc ?_)
        (conv => whnf); (repeat' (first | ((with_reducible refine ifb_mk (fun hc => ?_) (fun hc => ?_)) <;> ((try simp only [decide_eq_true_eq, decide_eq_false_iff_not, Bool.not_eq_true', Bool.not_eq_false', Int.not_lt, Int.not_le, ne_eq, Decidable.not_not, beq_iff_eq, List.cons.injEq, and_true] at hc); (first | (exfalso; omega) | exact absurd True.intro hc | conv => whnf))) | ((with_reducible refine And.intro True.intro ?_); conv => whnf) | ((with_reducible refine CallX.all ?_); refine CallW.of_ok (kL _) ?_; conv => whnf) | ((with_reducible refine CallX.all ?_); refine CallW.of_ok (kG _) ?_; conv => whnf) | ((with_reducible refine CallX.all ?_); refine CallW.of_ok (kC1 _) ?_; conv => whnf) | ((with_reducible refine And.intro ?hh ?_); (case hh => exact condA); conv => whnf) | fail))
        all_goals first | exact absurd hc he | (refine ⟨[], ?_, rfl, rfl, trivial, trivs⟩; simp only [renV, renL]; (first | done | rfl | (simp; done) | (simp; omega) | grind))
  · rw [decide_eq_false hL, Bool.false_and]
    rw [decide_eq_true (show (20 : Int) < T.length by omega)] at kL
    clear kC
    refine CallOk.run0 Try.func47 rfl rfl rfl rfl rfl (WpR.of_vc ?_)
    (conv => whnf); (repeat' (first | ((with_reducible refine ifb_mk (fun hc => ?_) (fun hc => ?_)) <;> ((try simp only [decide_eq_true_eq, decide_eq_false_iff_not, Bool.not_eq_true', Bool.not_eq_false', Int.not_lt, Int.not_le, ne_eq, Decidable.not_not, beq_iff_eq, List.cons.injEq, and_true] at hc); (first | (exfalso; omega) | exact absurd True.intro hc | conv => whnf))) | ((with_reducible refine And.intro True.intro ?_); conv => whnf) | ((with_reducible refine CallX.all ?_); refine CallW.of_ok (kL _) ?_; conv => whnf) | ((with_reducible refine And.intro ?hh ?_); (case hh => exact condA); conv => whnf) | fail))
    (refine ⟨[], ?_, rfl, rfl, trivial, trivs⟩; simp only [renV, renL]; (first | done | rfl | (simp; done) | (simp; omega) | grind))
theorem fine_n {T : List UInt8} {n : Nat} {s : Nat → Int} {k : Nat} {A : Nat → List UInt8} (h : fineB T n s k A = true) : ckM T.length n s k A = 0 := by
  unfold fineB at h
  rw [Bool.and_eq_true, Bool.and_eq_true] at h
  exact of_decide_eq_true h.2.2
theorem fine_of {T : List UInt8} {n : Nat} {s : Nat → Int} {k : Nat} {A : Nat → List UInt8} (h : ckM T.length n s k A = 0) : fineB T n s k A = true := by
  obtain ⟨h1, h2, h3, h4⟩ := ckM_n h
  have h5 := st_le h4
  unfold fineB grtB
  rw [decide_eq_true (show T.length ≤ 20 by omega), decide_eq_true h, decide_eq_false (show ¬ (25 < n ∨ 25 < k) by omega), allF_t (p := fun i => decide ((A i).length ≤ 20)) (fun i hi => decide_eq_true (by have := of_decide_eq_true (allF_iff.1 h3 i hi); omega))]
  rfl
set_option maxHeartbeats 2000000 in
theorem proofBack_ok (hW : ∀ h, CallOk Try.prog 19 [] h (.bool true) h) (h : H) (T : List UInt8) (n : Nat) (s : Nat → Int) (k : Nat) (A : Nat → List UInt8) (hn : n ≤ 9223372036854775807) (hk : k ≤ 9223372036854775807) :
    CallOk Try.prog 11 [tx T, marksV n s k A false false] h (.bool true) h := by
  have kF := fun h' => fine_ok h' T n s k A false false hn hk
  cases hf : fineB T n s k A with
  | false =>
    rw [hf] at kF
    refine CallOk.run0 Try.func11 rfl rfl rfl rfl rfl (WpR.of_vc ?_)
    (conv => whnf); (repeat' (first | ((with_reducible refine ifb_mk (fun hc => ?_) (fun hc => ?_)) <;> ((try simp only [decide_eq_true_eq, decide_eq_false_iff_not, Bool.not_eq_true', Bool.not_eq_false', Int.not_lt, Int.not_le, ne_eq, Decidable.not_not, beq_iff_eq, List.cons.injEq, and_true] at hc); (first | (exfalso; omega) | exact absurd True.intro hc | conv => whnf))) | ((with_reducible refine And.intro True.intro ?_); conv => whnf) | ((with_reducible refine CallX.all ?_); refine CallW.of_ok (kF _) ?_; conv => whnf) | ((with_reducible refine CallX.all ?_); refine CallW.of_ok (hW _) ?_; conv => whnf) | ((with_reducible refine And.intro ?hh ?_); (case hh => exact condA); conv => whnf) | fail))
    (refine ⟨[], ?_, rfl, rfl, trivial, trivs⟩; simp only [renV, renL]; (first | done | rfl | (simp; done) | (simp; omega) | grind))
  | true =>
    rw [hf] at kF
    have hc := fine_n hf
    obtain ⟨h1, h2, h3, h4⟩ := ckM_n hc
    have kR := fun h' => readOf_ok h' T n s k A false false hc
    have kT := fun h' => checkTextR_ok h' (rdA T n s A)
    have eR : rdF T (stF n s) A T.length = rdA T n s A := rfl
    rw [eR] at kR
    by_cases hN : (rdA T n s A).length ≤ 12
    · obtain ⟨b1, b2, b3, b4⟩ := back_all hc hN
      rw [if_pos hN] at kT
      have q1 := (ckM_n b1)
      have q2 := st_le q1.2.2.2
      have kB := fun h' => backP_ok h' T n s k A false false hn hc hN
      have kF2 := fun h' => fine_ok h' (rdA T n s A) (bkA T n s A).1.length (iOf (bkA T n s A).1) (bkA T n s A).2.length (tOf (bkA T n s A).2) false false (by omega) (by omega)
      rw [fine_of b1] at kF2
      have kR2 := fun h' => read_ok h' (rdA T n s A) (bkA T n s A).1.length (iOf (bkA T n s A).1) (bkA T n s A).2.length (tOf (bkA T n s A).2) false false b1
      rw [b2, b3] at kR2
      have kB2 := fun h' => backP_ok h' (rdA T n s A) (bkA T n s A).1.length (iOf (bkA T n s A).1) (bkA T n s A).2.length (tOf (bkA T n s A).2) false false (by omega) b1 (by rw [b2]; exact h1)
      rw [b4] at kB2
      obtain ⟨s1, s2⟩ := selR_st h4
      have kS := fun h' => same_ok h' (selR (stF n s) T.length).length (iOf (selR (stF n s) T.length)) (revR A k).length (tOf (revR A k)) false false n s k A false false (by omega) (by rw [revR_len]; omega)
      have e1 : eqF (selR (stF n s) T.length).length (iOf (selR (stF n s) T.length)) n s = true := by
        unfold eqF
        rw [s1, decide_eq_true rfl, Bool.true_and]
        exact allF_t fun i hi => decide_eq_true (s2 i hi)
      have e2 : eqT (revR A k).length (tOf (revR A k)) k A = true := by
        rw [revR_len]
        exact eqT_of fun i hi => tOf_rev A hi
      rw [e1, e2] at kS
      generalize n + lnF A T.length = cc at *
      generalize (selR (stF n s) T.length).length = n3 at *
      generalize iOf (selR (stF n s) T.length) = s3 at *
      generalize (revR A k).length = k3 at *
      generalize tOf (revR A k) = A3 at *
      generalize rdA T n s A = R at *
      generalize (bkA T n s A).1.length = n2 at *
      generalize (bkA T n s A).2.length = m2 at *
      generalize iOf (bkA T n s A).1 = s2' at *
      generalize tOf (bkA T n s A).2 = A2 at *
      clear b1 b2 b3 b4 q1 q2 s1 s2 e1 e2 eR hc hf h3 h4
      refine CallOk.run0 Try.func11 rfl rfl rfl rfl rfl (WpR.of_vc ?_)
      (conv => whnf); (repeat' (first | ((with_reducible refine ifb_mk (fun hc => ?_) (fun hc => ?_)) <;> ((try simp only [decide_eq_true_eq, decide_eq_false_iff_not, Bool.not_eq_true', Bool.not_eq_false', Int.not_lt, Int.not_le, ne_eq, Decidable.not_not, beq_iff_eq, List.cons.injEq, and_true] at hc); (first | (exfalso; omega) | exact absurd True.intro hc | conv => whnf))) | ((with_reducible refine And.intro True.intro ?_); conv => whnf) | ((with_reducible refine CallX.all ?_); refine CallW.of_ok (kF _) ?_; conv => whnf) | ((with_reducible refine CallX.all ?_); refine CallW.of_ok (kB _) ?_; conv => whnf) | ((with_reducible refine CallX.all ?_); refine CallW.of_ok (kR _) ?_; conv => whnf) | ((with_reducible refine CallX.all ?_); refine CallW.of_ok (kT _) ?_; conv => whnf) | ((with_reducible refine CallX.all ?_); refine CallW.of_ok (kF2 _) ?_; conv => whnf) | ((with_reducible refine CallX.all ?_); refine CallW.of_ok (kR2 _) ?_; conv => whnf) | ((with_reducible refine CallX.all ?_); refine CallW.of_ok (kB2 _) ?_; conv => whnf) | ((with_reducible refine CallX.all ?_); refine CallW.of_ok (kS _) ?_; conv => whnf) | ((with_reducible refine CallX.all ?_); refine CallW.of_ok (hW _) ?_; conv => whnf) | ((with_reducible refine And.intro ?hh ?_); (case hh => exact condA); conv => whnf) | fail))
      all_goals first | exact absurd rfl hc | (exfalso; omega) | (refine ⟨[], ?_, rfl, rfl, trivial, trivs⟩; simp only [renV, renL]; (first | done | rfl | (simp; done) | (simp; omega) | grind))
    · rw [if_neg hN] at kT
      have h0 : bkE T n s k A = 7 := by unfold bkE; rw [if_pos hc, if_neg hN]
      have kB := fun h' => zero_freeze (backP_err h' T n s k A false false (by omega) hn hk (by rw [h0]; decide))
      rw [h0] at kB
      generalize n + lnF A T.length = cc at *
      generalize rdA T n s A = R at *
      clear hc hf h3 h4 eR
      unfold zeroM at kB
      refine CallOk.run0 Try.func11 rfl rfl rfl rfl rfl (WpR.of_vc ?_)
      (conv => whnf); (repeat' (first | ((with_reducible refine ifb_mk (fun hc => ?_) (fun hc => ?_)) <;> ((try simp only [decide_eq_true_eq, decide_eq_false_iff_not, Bool.not_eq_true', Bool.not_eq_false', Int.not_lt, Int.not_le, ne_eq, Decidable.not_not, beq_iff_eq, List.cons.injEq, and_true] at hc); (first | (exfalso; omega) | exact absurd True.intro hc | conv => whnf))) | ((with_reducible refine And.intro True.intro ?_); conv => whnf) | ((with_reducible refine CallX.all ?_); refine CallW.of_ok (kF _) ?_; conv => whnf) | ((with_reducible refine CallX.all ?_); refine CallW.of_ok (kB _) ?_; conv => whnf) | ((with_reducible refine CallX.all ?_); refine CallW.of_ok (kR _) ?_; conv => whnf) | ((with_reducible refine CallX.all ?_); refine CallW.of_ok (kT _) ?_; conv => whnf) | ((with_reducible refine CallX.all ?_); refine CallW.of_ok (hW _) ?_; conv => whnf) | ((with_reducible refine And.intro ?hh ?_); (case hh => exact condA); conv => whnf) | fail))
      all_goals first | (exfalso; omega) | (refine ⟨[], ?_, rfl, rfl, trivial, trivs⟩; simp only [renV, renL]; (first | done | rfl | (simp; done) | (simp; omega) | grind))
end Go.Proofs.Q
