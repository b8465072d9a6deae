/- What the functions answer that the laws call, one after another (OnlX). -/
import Derived.Test.YtgcnflpgolnjeaaB0
import Derived.Test.YtgcnflpgolnjeaaB7
import Derived.Test.YtgcnflpgolnjeaaTh
import Derived.Test.YtgcnflpgolnjeaaB10
import Derived.Test.YtgcnflpgolnjeaaBst
import Derived.Test.YtgcnflpgolnjeaaMst
import Derived.Test.YtgcnflpgolnjeaaBso
import Derived.Test.YtgcnflpgolnjeaaPth
import Derived.Test.YtgcnflpgolnjeaaKnd
import Derived.Test.YtgcnflpgolnjeaaChk
import Derived.Test.YtgcnflpgolnjeaaThr
import Derived.Test.YtgcnflpgolnjeaaLst
import Derived.Test.YtgcnflpgolnjeaaExa
import Derived.Test.YtgcnflpgolnjeaaWk
import Derived.Test.YtgcnflpgolnjeaaUni
import Derived.Test.YtgcnflpgolnjeaaTwo
import Derived.Test.YtgcnflpgolnjeaaAd0
import Derived.Test.YtgcnflpgolnjeaaSti
import Derived.Test.YtgcnflpgolnjeaaRd2
import Derived.Test.YtgcnflpgolnjeaaRead
import GoSem.Step
import Derived.KernelRfl
import Derived.Laws.World
import Derived.Laws.Sem
import Derived.Laws.Cells
import Derived.Laws.IdiomCopy
import Derived.Maps.RangeRun
import Derived.Laws.NewFold
import Derived.RangeFuncLeaves
import Derived.LoopNIn
import Derived.RangeFuncRecord
import Derived.OrdersIn
import Derived.ChangeSame
import Derived.Deep.Slices
import Derived.ReadAgain
import Derived.OpenShut
import Derived.Below
import Derived.WalkKit
import Derived.ProofKit
import Derived.Carry

set_option linter.unusedVariables false
/- The machine that the proof runs on, part 6 of 6: texts of my own, put together by program. No statement is proved here. -/

set_option linter.unusedVariables false
/- Calls carried out in a memory of their own, which hand back new memory. -/
/- Keys of maps; slices that grow; cells of lists. -/
namespace Go.As
/-! ### Equality of keys -/

theorem putN_one {c : Tr V} {o : Nat} {u v : V} (h : c.get o = some u) : putN [v] c o = some (c.set o v) := by
  show (match c.get o with
    | some _ => strictT (c.set o v) fun c => putN [] c (Nat.add o 1)
    | none => none) = _
  rw [h]; dsimp only; rw [strictT_eq]; rfl

end Go.As
/- Contracts. -/
/- Equality of structs and arrays of 64-bit numbers. -/
/- Memories of rounds: a call or a round goes on from one of them to another one. -/
/- Loops of few rounds, one round after another. -/
/- Regions that draw their order, but for the operations at their end, which come one after another in each order. -/
/- Slices that grow in a loop. -/
/- What nobody writes any more: what is handed back, taken for a value; the arguments of a law. -/
/- Lists that grow by appends, whatever their elements are; arrays that are filled. -/
namespace Go.As
section
variable {α : Type}
theorem gR_at {e : α → List V} {sz : Nat} (he : ∀ x, (e x).length = sz) : ∀ {l : List α} {i k : Nat} {x : α} {v : V}, l.reverse[i]? = some x → (e x)[k]? = some v → (gR e l)[i * sz + k]? = some v
  | [], i, k, x, v, h, _ => by simp at h
  | y :: l, i, k, x, v, h, hk => by
    show (gR e l ++ e y)[i * sz + k]? = _
    have hks : k < sz := by have := (List.getElem?_eq_some_iff.1 hk).1; rwa [he] at this
    have hl : l.reverse.length = l.length := List.length_reverse
    rw [List.reverse_cons] at h
    by_cases hi : i < l.length
    · rw [List.getElem?_append_left (by rw [hl]; exact hi)] at h
      have := gR_at he h hk
      rw [List.getElem?_append_left ((List.getElem?_eq_some_iff.1 this).1)]
      exact this
    · have hlt := (List.getElem?_eq_some_iff.1 h).1
      rw [List.length_append, hl, List.length_singleton] at hlt
      have hi' : i = l.length := by omega
      subst hi'
      rw [List.getElem?_append_right (by rw [hl]; omega), hl, Nat.sub_self] at h
      have hx : y = x := by simpa using h
      subst hx
      have hg := gR_len he l
      rw [List.getElem?_append_right (by omega), hg, show l.length * sz + k - l.length * sz = k from by omega]
      exact hk

/-- The block of a list that was grown; none if it was not. -/
noncomputable def gNew (sz : Nat) (e : α → List V) : List α → List Blk
  | [] => []
  | x :: l => [grB sz (gR e (x :: l)) (l.length + 1)]
theorem gNew_wr {sz : Nat} {e : α → List V} {l : List α} : ∀ b ∈ gNew sz e l, b.wr = true := by
  cases l with
  | nil => intro b h; cases h
  | cons x l => intro b h; rw [List.mem_singleton.1 h]; rfl
theorem grSh (vs : Vw) (n k sz i m : Nat) (e : α → List V) (l : List α) (hm : i + (gNew sz e l).length ≤ m) : ShV vs n k m (grV (n + i) l.length) (grV (k + i) l.length) := by
  cases l with
  | nil => exact .bare rfl
  | cons x l => exact .sl (i := i) (by have : (gNew sz e (x :: l)).length = 1 := rfl; omega) rfl rfl
theorem grBs {vs : Vw} {n k m sz : Nat} {e : α → List V} (hb : ∀ x, ∀ v ∈ e x, bare0 v = true) {l : List α} {i : Nat} {b : Blk} (h : (gNew sz e l)[i]? = some b) : b.wr = true ∧ ShB vs n k m b b := by
  cases l with
  | nil => simp [gNew] at h
  | cons x l =>
    cases i with
    | zero => have e1 : grB sz (gR e (x :: l)) (l.length + 1) = b := Option.some.inj h; subst e1; exact ⟨rfl, .bare (ofL_bare (gR_bare hb))⟩
    | succ i => simp [gNew] at h
/-- What was grown, as a value. -/
theorem grFz {n0 i sz : Nat} {e : α → List V} (he : ∀ x, (e x).length = sz) (hb : ∀ x, ∀ v ∈ e x, bare0 v = true) {l : List α} {news : List Blk} (hn : ∀ b, (gNew sz e l)[0]? = some b → news[i]? = some b) {g : Nat → List V} (hg : ∀ j x, l.reverse[j]? = some x → g j = e x) :
    Fz n0 news (grV (n0 + i) l.length) (.rsl false sz l.length g) := by
  cases l with
  | nil => exact .nil
  | cons x l =>
    have hx : ∀ j, j < (x :: l).length → ∃ y, (x :: l).reverse[j]? = some y := fun j hj => by
      have : j < (x :: l).reverse.length := by rw [List.length_reverse]; exact hj
      exact ⟨_, List.getElem?_eq_getElem this⟩
    refine .sl (i := i) rfl (hn _ rfl) (fun h => by cases h) (Nat.le_refl _) (fun j hj => ?_) (fun j hj k v hk => ?_)
    · obtain ⟨y, hy⟩ := hx j hj
      rw [hg j y hy]; exact he y
    · obtain ⟨y, hy⟩ := hx j hj
      rw [hg j y hy] at hk
      refine ⟨get_ofL0 ?_, hb y v (List.mem_of_getElem? hk)⟩
      rw [Nat.zero_add]
      exact gR_at he hy hk
theorem arrV_len (N : Nat) (f : Nat → V) : (arrV N f).length = N := by unfold arrV; simp
theorem arrV_set {ρ : Nat → Nat} {N p : Nat} {f f' : Nat → V} {o : Nat} {v : V} {gg : Option (Nat × Nat)} (hb : ∀ i, bare0 (f i) = true) (hv : bare0 v = true) (ho : o = p) (hf : ∀ c, c < N → f' c = if c = p then v else f c) : SubQ ρ (.cells (ofL (arrV N f') 0) true gg) (.cells ((ofL (arrV N f) 0).set o v) true gg) := by
  subst ho
  refine SubQ.bare (fun k u hk => ?_) id (.inr rfl)
  rw [get_ofL, if_pos (Nat.zero_le _), Nat.sub_zero] at hk
  have hlt : k < N := by have := (List.getElem?_eq_some_iff.1 hk).1; rwa [arrV_len] at this
  rw [arrV_at hlt] at hk
  have hv2 := (Option.some.inj hk).symm
  subst hv2
  rw [Tr.get_set, hf k hlt]
  by_cases he : k = o
  · rw [if_pos he, if_pos he]; exact ⟨rfl, hv⟩
  · rw [if_neg he, if_neg he]; exact ⟨get_ofL0 (arrV_at hlt), hb k⟩
end
end Go.As
/- A closed run whose answer tells of new blocks, known in every memory. -/
/- Calls that write to some blocks of the memory, where they are: known in a memory of these alone. -/
set_option linter.unusedVariables false
namespace Go.Proofs.K
open Go.As
set_option maxRecDepth 20000
set_option linter.unusedVariables false
set_option linter.unusedSimpArgs false
/-! ### The paths of a log: those on which enough sightings lie -/

end Go.Proofs.K
namespace Go.Proofs.K
open Go.As
set_option maxRecDepth 20000
set_option linter.unusedVariables false
set_option linter.unusedSimpArgs false
/-! ### What is told of paths -/

section
variable {cn : C4 → Nat}
theorem len_one {α : Type} {l : List α} (h0 : l ≠ []) (hn : l.Nodup) (h : ∀ x ∈ l, ∀ y ∈ l, x = y) : l.length = 1 := by
  match l, h0, hn, h with
  | [x], _, _, _ => rfl
  | x :: y :: l, _, hn, h =>
    have e := h x (by simp) y (by simp)
    have := (List.nodup_cons.1 hn).1
    rw [e] at this
    exact absurd (List.mem_cons_self ..) this
/-- Just one best path. -/
theorem bst_one {q : List C4} (hq : q.Nodup) (h0 : q ≠ []) (h : ∀ x ∈ q, ∀ y ∈ q, cn x = mxC cn (prQ q) → cn y = mxC cn (prQ q) → x = y) : (bstL cn (prQ q)).length = 1 := by
  have hb : ∀ e ∈ bstL cn (prQ q), e ∈ prQ q ∧ cn e.1 = mxC cn (prQ q) := fun e he => by
    obtain ⟨h1, h2⟩ := List.mem_filter.1 he
    exact ⟨h1, of_decide_eq_true h2⟩
  refine len_one ?_ (List.Nodup.sublist List.filter_sublist (prQ_nodup _ hq)) fun x hx y hy => ?_
  · obtain ⟨e, he, h2⟩ := mxC_at (cn := cn) (prQ_ne h0)
    intro hc
    have : e ∈ bstL cn (prQ q) := List.mem_filter.2 ⟨he, decide_eq_true h2⟩
    rw [hc] at this; cases this
  · obtain ⟨x1, x2⟩ := hb x hx
    obtain ⟨y1, y2⟩ := hb y hy
    exact prQ_key hq y y1 x x1 (h x.1 (prQ_sub x1) y.1 (prQ_sub y1) x2 y2)
end
end Go.Proofs.K
set_option linter.unusedVariables false
namespace Go.Proofs.K
open Go.As
set_option maxRecDepth 20000
set_option linter.unusedVariables false
set_option linter.unusedSimpArgs false
theorem eS_len (x : Int × Int) : (eS x).length = 2 := rfl
theorem gS_len (l : List (Int × Int)) : (gR eS l).length = l.length * 2 := gR_len eS_len l
theorem gS_one (l : List (Int × Int)) : (gR eS l).all one = true := gR_one eS_bare l
def lsT (a b : Nat → Int) : Nat → List (Int × Int)
  | 0 => []
  | j + 1 => (a j, b j) :: lsT a b j
theorem lsT_len (a b : Nat → Int) : ∀ n, (lsT a b n).length = n
  | 0 => rfl
  | n + 1 => by show (lsT a b n).length + 1 = n + 1; rw [lsT_len a b n]
theorem lsT_rev (a b : Nat → Int) : ∀ (n : Nat) (j : Nat) (x : Int × Int), (lsT a b n).reverse[j]? = some x → x = (a j, b j)
  | 0, j, x, h => by simp [lsT] at h
  | n + 1, j, x, h => by
    have e : (lsT a b (n + 1)).reverse = (lsT a b n).reverse ++ [(a n, b n)] := List.reverse_cons
    rw [e] at h
    by_cases hj : j < n
    · rw [List.getElem?_append_left (by rw [List.length_reverse, lsT_len]; exact hj)] at h
      exact lsT_rev a b n j x h
    · rw [List.getElem?_append_right (by rw [List.length_reverse, lsT_len]; omega), List.length_reverse, lsT_len] at h
      by_cases h2 : j = n
      · subst h2
        rw [Nat.sub_self] at h
        exact (Option.some.inj h).symm
      · rw [List.getElem?_eq_none (by simp; omega)] at h; cases h
theorem ckL_of {D : Int} {n : Nat} {a b : Nat → Int} (hD : 0 ≤ D ∧ D ≤ 3) (l : Lg n a b) : ckL D n a b = 0 := by
  unfold ckL
  rw [if_pos hD, if_pos l.le, if_pos (allF_t fun i hi => by unfold okS; exact decide_eq_true ⟨l.rg i hi, l.at' i hi⟩), if_pos (allF_t fun i hi => by unfold okD; exact decide_eq_true fun h0 => l.up i (i - 1) hi (by omega))]
end Go.Proofs.K
set_option linter.unusedVariables false
namespace Go.Proofs.K
open Go.As
set_option maxRecDepth 20000
set_option linter.unusedVariables false
set_option linter.unusedSimpArgs false
/-! ### Sightings of a path on some days, of which some are changed -/

def bG (b : Nat → Int) (i : Nat) : List V := [.int .u8 (b i)]
theorem grSet {ρ : Nat → Nat} {L L' : List V} {o : Nat} {v : V} {gg : Option (Nat × Nat)} (hb : ∀ u ∈ L', bare0 u = true) (hL : ∀ k, L'[k]? = if k = o then some v else L[k]?) : SubQ ρ (.cells (ofL L' 0) true gg) (.cells ((ofL L 0).set o v) true gg) := by
  refine SubQ.bare (fun k u hk => ?_) id (.inr rfl)
  rw [get_ofL, if_pos (Nat.zero_le _), Nat.sub_zero] at hk
  have hbu := hb u (List.mem_of_getElem? hk)
  rw [hL] at hk
  refine ⟨?_, hbu⟩
  rw [Tr.get_set]
  by_cases h : k = o
  · rw [if_pos h] at hk ⊢; exact hk
  · rw [if_neg h] at hk ⊢
    rw [get_ofL, if_pos (Nat.zero_le _), Nat.sub_zero]; exact hk
/-- Which days are seen, behind some. -/
def inS (dy : Nat → Int) : Nat → Nat → Int
  | 0 => fun _ => 0
  | i + 1 => fun j => if j = (dy i).toNat % 61 then 1 else inS dy i j
/-- The sightings of the first days. -/
def sqL (z : Nat → Int) (m : Nat) (S : Nat → Int) : Nat → List (Int × Int)
  | 0 => []
  | d + 1 => if (sqL z m S d).length < 12 ∧ S d = 1 ∧ -90000 ≤ plc z d m ∧ plc z d m ≤ 90000 then ((d : Int), plc z d m) :: sqL z m S d else sqL z m S d
def aQ (q : List (Int × Int)) (j : Nat) : Int := (q.reverse.getD j (0, 0)).1
def bQ (q : List (Int × Int)) (j : Nat) : Int := (q.reverse.getD j (0, 0)).2
section
variable {z : Nat → Int} {m : Nat} {S : Nat → Int}
theorem sq_len : ∀ d, (sqL z m S d).length ≤ 12
  | 0 => Nat.zero_le _
  | d + 1 => by
    have ih := sq_len d
    unfold sqL
    split
    · rename_i h; rw [List.length_cons]; omega
    · exact ih
theorem sq_stop {d : Nat} (h : ¬ (sqL z m S d).length < 12) : ∀ e, sqL z m S (d + e) = sqL z m S d
  | 0 => rfl
  | e + 1 => by
    have ih := sq_stop h e
    show (if (sqL z m S (d + e)).length < 12 ∧ _ then _ else sqL z m S (d + e)) = _
    rw [if_neg (by rw [ih]; exact fun hc => h hc.1)]
    exact ih
/-- What is known of each. -/
theorem sq_mem : ∀ d, ∀ x ∈ sqL z m S d, (0 ≤ x.1 ∧ x.1 < d) ∧ x.2 = plc z x.1.toNat m ∧ -90000 ≤ x.2 ∧ x.2 ≤ 90000
  | 0, x, h => by cases h
  | d + 1, x, h => by
    have ih := sq_mem d
    unfold sqL at h
    split at h
    · rename_i hc
      rcases List.mem_cons.1 h with rfl | h
      · exact ⟨⟨by show (0 : Int) ≤ d; omega, by show (d : Int) < (d + 1 : Nat); omega⟩, rfl, hc.2.2⟩
      · have := ih x h
        exact ⟨⟨this.1.1, by omega⟩, this.2⟩
    · have := ih x h
      exact ⟨⟨this.1.1, by omega⟩, this.2⟩
theorem sq_up : ∀ d, (sqL z m S d).Pairwise fun x y => y.1 < x.1
  | 0 => List.Pairwise.nil
  | d + 1 => by
    unfold sqL
    split
    · exact List.pairwise_cons.2 ⟨fun y hy => ((sq_mem d) y hy).1.2, sq_up d⟩
    · exact sq_up d
end
theorem q_at {q : List (Int × Int)} {j : Nat} (h : j < q.length) : q.reverse[j]? = some (aQ q j, bQ q j) := by
  unfold aQ bQ
  rw [List.getD_eq_getElem?_getD, List.getElem?_eq_getElem (by rw [List.length_reverse]; exact h)]; rfl
theorem q_mem {q : List (Int × Int)} {j : Nat} (h : j < q.length) : (aQ q j, bQ q j) ∈ q := List.mem_reverse.1 (List.mem_of_getElem? (q_at h))
theorem lsT_congr {a b a' b' : Nat → Int} : ∀ n, (∀ j, j < n → a j = a' j ∧ b j = b' j) → lsT a b n = lsT a' b' n
  | 0, _ => rfl
  | n + 1, h => by
    show (a n, b n) :: lsT a b n = (a' n, b' n) :: lsT a' b' n
    rw [(h n (by omega)).1, (h n (by omega)).2, lsT_congr n fun j hj => h j (by omega)]
theorem lsT_of : ∀ q : List (Int × Int), lsT (aQ q) (bQ q) q.length = q
  | [] => rfl
  | x :: q => by
    have ih := lsT_of q
    have h1 := q_at (q := x :: q) (j := q.length) (by simp)
    have e1 : (x :: q).reverse = q.reverse ++ [x] := List.reverse_cons
    rw [e1, List.getElem?_append_right (by simp), List.length_reverse, Nat.sub_self] at h1
    have h2 : x = (aQ (x :: q) q.length, bQ (x :: q) q.length) := Option.some.inj h1
    show (aQ (x :: q) q.length, bQ (x :: q) q.length) :: lsT (aQ (x :: q)) (bQ (x :: q)) q.length = x :: q
    rw [← h2, lsT_congr (a' := aQ q) (b' := bQ q) q.length fun j hj => ?_, ih]
    have h3 := q_at (q := x :: q) (j := j) (by simp; omega)
    rw [e1, List.getElem?_append_left (by rw [List.length_reverse]; exact hj), q_at hj] at h3
    have h4 := Option.some.inj h3
    exact ⟨(congrArg Prod.fst h4).symm, (congrArg Prod.snd h4).symm⟩
/-- By how much a sighting is changed. -/
def dlF (kw : Nat) (wr : Nat → Int) (i : Nat) : Int := if 4 < (wr (i % kw)).tmod 8 then (wr (i % kw)).tmod 8 - 4 else 0
def b3F (kw : Nat) (wr b : Nat → Int) (i : Nat) : Int := if 0 < kw then b i + dlF kw wr i else b i
def chF (kw : Nat) (wr : Nat → Int) (i : Nat) : Bool := decide (0 < kw ∧ 0 < dlF kw wr i)
/-- The places behind some rounds. -/
def bcF (kw : Nat) (wr b : Nat → Int) (i j : Nat) : Int := if j < i then b3F kw wr b j else b j
theorem dl_bd (kw : Nat) (wr : Nat → Int) (i : Nat) : 0 ≤ dlF kw wr i ∧ dlF kw wr i ≤ 3 := by
  unfold dlF
  have h2 := Int.tmod_lt_of_pos (wr (i % kw)) (b := 8) (by decide)
  split <;> omega
theorem gT_set {a b b' : Nat → Int} {n i : Nat} (hi : i < n) {v : Int} (h : ∀ j, j < n → b' j = if j = i then v else b j) : ∀ k, (gR eS (lsT a b' n))[k]? = if k = i * 2 + 1 then some (.int .i64 v) else (gR eS (lsT a b n))[k]? := fun k => by
  have hl := gS_len (lsT a b n)
  have hl' := gS_len (lsT a b' n)
  rw [lsT_len] at hl hl'
  have hat : ∀ (c : Nat → Int) j, j < n → (lsT a c n).reverse[j]? = some (a j, c j) := fun c j hj => by
    obtain ⟨x, hx⟩ : ∃ x, (lsT a c n).reverse[j]? = some x := ⟨_, List.getElem?_eq_getElem (by rw [List.length_reverse, lsT_len]; exact hj)⟩
    rw [hx, lsT_rev a c n j x hx]
  by_cases hk : k < n * 2
  · have e1 : k = k / 2 * 2 + k % 2 := by omega
    have hj : k / 2 < n := by omega
    have h2 : k % 2 = 0 ∨ k % 2 = 1 := by omega
    rcases h2 with h2 | h2
    · rw [if_neg (by omega), e1, h2, gR_at eS_len (hat b' _ hj) (k := 0) (v := .int .i64 (a (k / 2))) rfl, gR_at eS_len (hat b _ hj) (k := 0) (v := .int .i64 (a (k / 2))) rfl]
    · by_cases e : k / 2 = i
      · rw [if_pos (by omega), e1, h2, gR_at eS_len (hat b' _ hj) (k := 1) (v := .int .i64 (b' (k / 2))) rfl, h _ hj, if_pos e]
      · rw [if_neg (by omega), e1, h2, gR_at eS_len (hat b' _ hj) (k := 1) (v := .int .i64 (b' (k / 2))) rfl, gR_at eS_len (hat b _ hj) (k := 1) (v := .int .i64 (b (k / 2))) rfl, h _ hj, if_neg e]
  · rw [if_neg (by omega), List.getElem?_eq_none (by omega), List.getElem?_eq_none (by omega)]
theorem gT_at {a b : Nat → Int} {n i o : Nat} (hi : i < n) (ho : o = i * 2 + 1) : (ofL (gR eS (lsT a b n)) 0).get o = some (.int .i64 (b i)) := by
  subst ho
  obtain ⟨x, hx⟩ : ∃ x, (lsT a b n).reverse[i]? = some x := ⟨_, List.getElem?_eq_getElem (by rw [List.length_reverse, lsT_len]; exact hi)⟩
  have e := lsT_rev a b n i x hx
  exact get_ofL0 (gR_at eS_len hx (k := 1) (v := .int .i64 (b i)) (by rw [e]; rfl))
theorem cnF_zero {p : Nat → Bool} : ∀ n, (∀ i, i < n → p i = false) → cnF p n = 0
  | 0, _ => rfl
  | n + 1, h => by
    show cnF p n + (if p n = true then 1 else 0) = 0
    rw [h n (by omega), cnF_zero n fun i hi => h i (by omega)]; rfl
end Go.Proofs.K
set_option linter.unusedVariables false
namespace Go.Proofs.K
open Go.As Go.ChangeShapes Go.WideShapes Go.Deep Go.ChangeAt Go.RowKit
set_option maxRecDepth 20000
set_option linter.unusedVariables false
section
variable {H : Type} {enc : TypeId × Value → H} {P : Program} {w : World}
/-- A slice of bytes. -/
theorem slice_readB {t e : TypeId} {fuel : Nat} {v : Value} {d : DataW H} {ps : List MemPlace} {b0 : Nat} (ht : P.underlying t = some (.slice e)) (hu : P.underlying e = some (.int .u8)) (hk : P.cellsOf e = 1)
    (h : DataW.trod enc P w 0 (fun _ => true) true fuel t [v] = some (d, ps)) (hz : w.noneFrozen ps) (hok : Cell.okWide P w .any b0 t v) :
    v = .slice none 0 0 ∨ ∃ (a : Addr) (len cap : Nat) (f : Nat → Int) (c : Array Value) (et : TypeId) (lo hi : Nat), v = .slice (some ⟨a.block, a.off, none⟩) len cap ∧ len ≤ cap ∧ len ≤ 9223372036854775807 ∧ w.heap[a.block]? = some (.cells c et (lo, hi)) ∧
      ∀ i, i < len → c[a.off + i]? = some (.int .u8 (f i)) ∧ (0 ≤ f i ∧ f i ≤ 255) ∧ ¬(lo ≤ a.off + i ∧ a.off + i < hi) := by
  rcases open_slice ht h with ⟨h1, _⟩ | ⟨a, len, cap, m, q, D, Pl, hcs, _, hl, hm, hmm, hx, hel⟩
  · left; cases h1; rfl
  right
  cases hcs
  cases hx
  have hok' : len ≤ cap ∧ (cap : Int) ≤ IntKind.i64.max ∧ w.has P .any b0 a e cap := by
    simp only [Cell.okWide, ht, Cell.ok] at hok
    exact hok
  obtain ⟨_, _, _, hspot, row, cells, hshape, _⟩ := hok'
  obtain ⟨blk, off, spot⟩ := a
  dsimp only at hspot
  subst hspot
  have hm' : m = cap := hmm
  subst hm'
  unfold World.shape? at hshape
  dsimp only at hshape
  split at hshape
  · rename_i c et fz hb
    obtain ⟨lo, hi⟩ := fz
    have key : ∀ i, ∃ x : Int, i < len → c[off + i]? = some (.int .u8 x) ∧ (0 ≤ x ∧ x ≤ 255) ∧ ¬(lo ≤ off + i ∧ off + i < hi) := by
      intro i
      by_cases hi' : i < len
      · obtain ⟨cs', h1, h2⟩ := hel i (by omega)
        obtain ⟨_, hlen, hg⟩ := World.cells?_some h1
        rw [hk] at hlen hg
        have h3 := hg 0 (by omega)
        rw [Go.Deep.add_add, Addr.add_plain, show i * 1 + 0 = i from by omega] at h3
        obtain ⟨x, hcs, hx, hwf⟩ := DataW.trod_int hu h2
        subst hcs
        have h3' : w.cell? ⟨blk, off + i, none⟩ = some (.int .u8 x) := h3
        refine ⟨x, fun _ => ⟨?_, ?_, ?_⟩⟩
        · unfold World.cell? at h3'
          dsimp only at h3'
          rw [hb] at h3'
          exact h3'
        · simp [Lit.wf, IntKind.min, IntKind.max, IntKind.signed, IntKind.bits] at hwf; omega
        · have hmem : MemPlace.cell blk (off + i) ∈ MemPlace.row ⟨blk, off, none⟩ (m * P.cellsOf e) ++ (List.range m).flatMap Pl := by
            refine List.mem_append_left _ (MemPlace.mem_row.2 ⟨i, ?_, rfl⟩)
            rw [hk]
            omega
          have hfz := hz blk (off + i) hmem
          unfold World.frozen? at hfz
          dsimp only at hfz
          rw [hb] at hfz
          dsimp only at hfz
          intro hc
          rw [Bool.and_eq_false_iff] at hfz
          simp only [decide_eq_false_iff_not] at hfz
          omega
      · exact ⟨0, fun h => absurd h hi'⟩
    refine ⟨⟨blk, off, none⟩, len, m, fun i => Classical.choose (key i), c, et, lo, hi, rfl, hl, ?_, hb, fun i hi' => Classical.choose_spec (key i) hi'⟩
    have : m ≤ maxLen := hm
    unfold maxLen at this
    omega
  · cases hshape
end
section
variable {H : Type} {enc : TypeId × Value → H} {W : World}
theorem bG_fr {W : World} {n : Nat} {f : Nat → Int} {blk off cap : Nat} {c : Array Value} {et : TypeId} {lo hi : Nat} (hle : n ≤ cap) (hb : W.heap[blk]? = some (.cells c et (lo, hi)))
    (hc : ∀ i, i < n → c[off + i]? = some (.int .u8 (f i)) ∧ (0 ≤ f i ∧ f i ≤ 255) ∧ ¬(lo ≤ off + i ∧ off + i < hi)) : FR (zW W) (.rsl false 1 n (bG f)) (.slice (some ⟨blk, off, none⟩) n cap) := by
  refine .rsl (zW_at hb) hle (fun h => by cases h) (fun i hi' => rfl) (fun i hi' j v hv => ?_) (fun i hi' j v x hv hx => ?_)
  · obtain ⟨h1, _, h3⟩ := hc i hi'
    match j with
    | 0 =>
      have hv' : V.int .u8 (f i) = v := by simpa [bG] using hv
      subst hv'
      rw [show off + i * 1 + 0 = off + i from by omega]
      exact ⟨rfl, ⟨_, h1⟩, h3⟩
    | j + 1 => simp [bG] at hv
  · obtain ⟨h1, _, h3⟩ := hc i hi'
    match j with
    | 0 =>
      have hv' : V.int .u8 (f i) = v := by simpa [bG] using hv
      subst hv'
      have hx' : c[off + i]? = some x := by rw [show off + i = off + i * 1 + 0 from by omega]; exact hx
      rw [h1] at hx'
      cases hx'
      exact .int _ _
    | j + 1 => simp [bG] at hv
theorem b_read {fuel : Nat} {v : Value} {d : DataW H} {ps : List MemPlace} {b0 : Nat} (h : DataW.trod enc Try.prog W 0 (fun _ => true) true fuel 52 [v] = some (d, ps)) (hz : W.noneFrozen ps) (hok : Cell.okWide Try.prog W .any b0 52 v) :
    ∃ (n : Nat) (a : Nat → Int), n ≤ 9223372036854775807 ∧ (∀ i, i < n → 0 ≤ a i ∧ a i ≤ 255) ∧ FR (zW W) (.rsl false 1 n (bG a)) v := by
  rcases slice_readB Try.underlying52 Try.underlying5 (by kernel_rfl) h hz hok with rfl | ⟨ad, len, cap, f, c, et, flo, fhi, rfl, hlc, hlm, hb, hcs⟩
  · exact ⟨0, fun _ => 0, by simp, fun i hi => absurd hi (Nat.not_lt_zero i), .rsl0⟩
  · exact ⟨len, f, hlm, fun i hi => (hcs i hi).2.1, bG_fr hlc hb hcs⟩
theorem bytes_read {v : Value} {d : DataW H} {ps : List MemPlace} {b0 : Nat} (hok : Value.okWide Try.prog W .any b0 52 v) (hd : DataW.Trod enc Try.prog W 0 (fun _ => true) true 52 v d ps) (hz : W.noneFrozen ps) :
    ∃ (n : Nat) (a : Nat → Int), n ≤ 9223372036854775807 ∧ (∀ i, i < n → 0 ≤ a i ∧ a i ≤ 255) ∧ VR (mW W) (.rsl false 1 n (bG a)) v := by
  obtain ⟨fuel, hf⟩ := hd
  have hc : v.cells.toList = [v] ∧ Cell.okWide Try.prog W .any b0 52 v := by
    simp only [Value.okWide, Try.underlying52] at hok
    cases v <;> first | exact ⟨rfl, hok⟩ | (simp [Cell.okWide, Cell.ok, Try.underlying52] at hok)
  have hf' : DataW.trod enc Try.prog W 0 (fun _ => true) true fuel 52 [v] = some (d, ps) := by rw [← hc.1]; exact hf
  obtain ⟨n, a, h1, h2, h3⟩ := b_read hf' hz hc.2
  exact ⟨n, a, h1, h2, h3.vr⟩
end
end Go.Proofs.K
set_option linter.unusedVariables false
namespace Go.Proofs.K
open Go.As
set_option maxRecDepth 20000
set_option linter.unusedVariables false
set_option linter.unusedSimpArgs false
/-! ### Seen -/

set_option maxHeartbeats 8000000 in
theorem seen_new (h : As.H) (d : Nat) (hd : d ≤ 3) (z : Nat → Int) (hz : ∀ k, -20 ≤ z k ∧ z k ≤ 20) (kd : Nat) (hkd : kd ≤ 1000) (dy : Nat → Int) (hdy : ∀ i, i < kd → 0 ≤ dy i ∧ dy i ≤ 255) (kw : Nat) (hkw : kw ≤ 1000) (wr : Nat → Int) (hwr : ∀ i, i < kw → 0 ≤ wr i ∧ wr i ≤ 255) (q0 : List (Int × Int)) (hq0 : q0 = sqL z (d + 1) (inS dy kd) 61) (l : List (Int × Int)) (hl : l = lsT (aQ q0) (b3F kw wr (bQ q0)) q0.length) (c : Nat) (hc : c = cnF (chF kw wr) q0.length) :
    CallOk Try.prog 44 [.int .i64 d, .rsl false 1 (d + 1) (iG z), .rsl false 1 kd (bG dy), .rsl false 1 kw (bG wr)] h (.tup [.agg [.int .i64 d, grV (h.n + 0) q0.length], .int .i64 c]) (addBs h (gNew 2 eS l)) := by
  have hll0 : q0.length = l.length := by rw [hl, lsT_len]
  have kA : ∀ e : Nat, e ≤ 60 → ∀ h', CallOk Try.prog 45 [.rsl false 1 (d + 1) (iG z), .int .i64 e] h' (.int .i64 (plc z e (d + 1))) h' := fun e he h' => atOf_ok h' false (d + 1) z e (by omega) (by omega) fun k _ => by have := hz k; omega
  have hS0 : inS dy 0 = fun _ => 0 := rfl
  have hSs : ∀ i j, inS dy (i + 1) j = if j = (dy i).toNat % 61 then 1 else inS dy i j := fun i j => rfl
  have hql := sq_len (z := z) (m := d + 1) (S := inS dy kd)
  have hbq0 : ∀ j, j < q0.length → -90000 ≤ bQ q0 j ∧ bQ q0 j ≤ 90000 := fun j hj => by
    have h1 := sq_mem (z := z) (m := d + 1) (S := inS dy kd) 61 _ (by rw [← hq0]; exact q_mem hj)
    exact h1.2.2
  refine CallOk.runN Try.func44 rfl rfl (argsC := [.int .i64 d, .rsl false 1 (d + 1) (iG z), .rsl false 1 kd (bG dy), .rsl false 1 kw (bG wr)]) (fun N => .tup [.agg [.int .i64 d, grV (N + 0) q0.length], .int .i64 c]) (fun _ => gNew 2 eS l) (Nat.le_of_ble_eq_true rfl) [] (.cons (.bare rfl) (.cons (.lt0 rfl) (.cons (.lt0 rfl) (.cons (.lt0 rfl) .nil)))) (viewM0 h)
    (ShV.tup (.cons (ShV.agg (.cons (.bare rfl) (.cons (by rw [hll0]; exact grSh _ _ _ 2 0 _ eS l (by simp)) .nil))) (.cons (.bare rfl) .nil))) rfl (fun i b hi => ⟨b, hi, grBs eS_bare hi⟩) (WpR.of_vc ?_)
  have hMap : ∀ n i, ltB n (.cells (ofL (arrV 61 fun k => .int .i64 (inS dy i k)) 0) true none) := fun n i => ltB_ofLb (arrV_bare fun _ => rfl)
  have hself0 : ∀ ρ : Nat → Nat, SubQ ρ (.cells (ofL (arrV 61 fun k => .int .i64 (inS dy 0 k)) 0) true none) (.cells (ofL (rep 61 [V.int .i64 0]) 0) true none) := fun ρ => SubQ.ofL rfl (arrV_bare fun _ => rfl) (.inl rfl)
  (conv => whnf); (repeat' (first | ((with_reducible refine ifb_mk (fun hc => ?_) (fun hc => ?_)) <;> ((try simp only [decide_eq_true_eq, decide_eq_false_iff_not, Bool.not_eq_true', Bool.not_eq_false', Int.not_lt, Int.not_le, ne_eq, Decidable.not_not, beq_iff_eq, List.cons.injEq, and_true] at hc); (first | (exfalso; omega) | exact absurd True.intro hc | conv => whnf))) | ((with_reducible refine And.intro True.intro ?_); conv => whnf) | ((with_reducible refine And.intro ?hh ?_); (case hh => exact condA); conv => whnf) | fail))
  refine WpR.loopA (ι := Nat) [] [0, 1, 2, 3, 8, 9, 10, 11] [2] [] 3 (fun i => [(12, .int .i64 i)]) (fun i => [(2, .cells (ofL (arrV 61 fun k => .int .i64 (inS dy i k)) 0) true none)]) (fun i => kd - i) (fun i => i ≤ kd) ?_ (0) (Nat.zero_le _) [] ⟨rfl, rfl, (by (repeat' (first | exact True.intro | rfl | exact gr_ren rfl | exact aV_ren rfl | exact aW_ren rfl rfl | refine And.intro ?_ ?_))), (by (repeat' (first | exact True.intro | rfl | exact gr_ren rfl | exact aV_ren rfl | exact aW_ren rfl rfl | refine And.intro ?_ ?_))), (by (repeat' (first | exact True.intro | rfl | exact gr_ren rfl | exact aV_ren rfl | exact aW_ren rfl rfl | refine And.intro ?_ ?_))), ⟨.inr ⟨_, rfl, hself0 _⟩, trivial⟩, rfl, rfl⟩
  intro i j1
  refine WpR.of_vc ?_
  by_cases hi : i < kd
  · have hdi := hdy i hi
    have ew : (IntKind.i64.wrap (dy i)).tmod 61 = (((dy i).toNat % 61 : Nat) : Int) := by
      rw [u8w hdi, Int.tmod_eq_emod_of_nonneg hdi.1]; omega
    have y1 : InR ((IntKind.i64.wrap (dy i)).tmod 61) := by rw [ew]; unfold InR; omega
    have y2 : 0 ≤ (IntKind.i64.wrap (dy i)).tmod 61 := by rw [ew]; omega
    have y3 : (IntKind.i64.wrap (dy i)).tmod 61 < 61 := by rw [ew]; omega
    have hput := fun o (ho : o = (dy i).toNat % 61) => putN_one (v := V.int .i64 1) (arrV_get (N := 61) (f := fun k => V.int .i64 (inS dy i k)) ho (by omega))
    have hgs : ∀ ρ, SubQ ρ (.cells (ofL (arrV 61 fun k => .int .i64 (inS dy (i + 1) k)) 0) true none) (.cells ((ofL (arrV 61 fun k => V.int .i64 (inS dy i k)) 0).set (0 + Int.toNat ((IntKind.i64.wrap (dy i)).tmod 61) * 1) (.int .i64 1)) true none) := fun ρ => arrV_set (p := (dy i).toNat % 61) (fun _ => rfl) rfl (by rw [ew]; omega) fun c _ => by rw [hSs]; split <;> rfl
    (conv => whnf); (repeat' (first | ((with_reducible refine ifb_mk (fun hc => ?_) (fun hc => ?_)) <;> ((try simp only [decide_eq_true_eq, decide_eq_false_iff_not, Bool.not_eq_true', Bool.not_eq_false', Int.not_lt, Int.not_le, ne_eq, Decidable.not_not, beq_iff_eq, List.cons.injEq, and_true] at hc); (first | (exfalso; omega) | exact absurd True.intro hc | conv => whnf))) | ((with_reducible refine And.intro True.intro ?_); conv => whnf) | ((with_reducible refine grd_and ?_); refine And.intro (hi) ?_; conv => whnf) | ((with_reducible refine grd_and ?_); refine And.intro (y1) ?_; conv => whnf) | ((with_reducible refine grd_and ?_); refine And.intro (y2) ?_; conv => whnf) | ((with_reducible refine grd_and ?_); refine And.intro (y3) ?_; conv => whnf) | (((with_reducible refine idxP_mk (k := (dy i).toNat % 61) ?hh ?_); (case hh => exact ew)); conv => whnf) | ((with_reducible refine grd_putN ?_); refine som_mk (a := ?_) ?hh ?_; (case hh => exact hput _ (by show 0 + Int.toNat ((IntKind.i64.wrap (dy i)).tmod 61) * 1 = (dy i).toNat % 61; rw [ew]; omega)); conv => whnf) | ((with_reducible refine And.intro ?hh ?_); (case hh => exact condA); conv => whnf) | fail))
    all_goals first | (exfalso; omega) | exact ⟨i + 1, [], by omega, by omega, Back.auto⟩
  · have ei : i = kd := by omega
    rw [ei]
    generalize inS dy kd = S at *
    have hq00 : sqL z (d + 1) S 0 = [] := rfl
    have hqs : ∀ e, sqL z (d + 1) S (e + 1) = if (sqL z (d + 1) S e).length < 12 ∧ S e = 1 ∧ -90000 ≤ plc z e (d + 1) ∧ plc z e (d + 1) ≤ 90000 then ((e : Int), plc z e (d + 1)) :: sqL z (d + 1) S e else sqL z (d + 1) S e := fun e => rfl
    have hqt := fun e h => sq_stop (z := z) (m := d + 1) (S := S) (d := e) h
    have hgS : ∀ e o, o = e → e < 61 → (ofL (arrV 61 fun k => V.int .i64 (S k)) 0).get o = some (.int .i64 (S e)) := fun e o ho he => arrV_get ho he
    have hMapS : ∀ n, ltB n (.cells (ofL (arrV 61 fun k => .int .i64 (S k)) 0) true none) := fun n => ltB_ofLb (arrV_bare fun _ => rfl)
    clear hMap hself0 hSs hS0
    generalize sqL z (d + 1) S = SQ at *
    (conv => whnf); (repeat' (first | ((with_reducible refine ifb_mk (fun hc => ?_) (fun hc => ?_)) <;> ((try simp only [decide_eq_true_eq, decide_eq_false_iff_not, Bool.not_eq_true', Bool.not_eq_false', Int.not_lt, Int.not_le, ne_eq, Decidable.not_not, beq_iff_eq, List.cons.injEq, and_true] at hc); (first | (exfalso; omega) | exact absurd True.intro hc | conv => whnf))) | ((with_reducible refine And.intro True.intro ?_); conv => whnf) | ((with_reducible refine grd_and ?_); refine And.intro (hi) ?_; conv => whnf) | ((with_reducible refine And.intro ?hh ?_); (case hh => exact condA); conv => whnf) | fail))
    have hMap : ∀ n i, ltB (n + 4) (.cells (ofL [.int .i64 d, grV 3 i] 0) true none) := fun n i => ltB_ofL (by intro v hv; (repeat (rcases List.mem_cons.1 hv with rfl | hv; (first | rfl | exact grV_lt (by rw [Nat.blt_eq]; omega) i))); cases hv)
    have hMap2 : ∀ n (l : List (Int × Int)), ltB n (grB 2 (gR eS l) l.length) := fun n l => grB_lt (gR_bare eS_bare) _
    have hMapA := hMapS
    refine WpR.loopA (ι := Nat × List (Int × Int)) [3] [0, 1, 2, 3, 8, 9, 10, 11] [1, 3] [] 4 (fun p => [(13, .int .i64 p.1)]) (fun p => [(1, .cells (ofL [.int .i64 d, grV 3 p.2.length] 0) true none), (3, grB 2 (gR eS p.2) p.2.length)]) (fun p => 61 - p.1) (fun p => p.1 ≤ 61 ∧ p.2 = SQ p.1) ?_ ((0, [])) (⟨Nat.zero_le _, hq00.symm⟩) [] Back.auto
    rintro ⟨e, q⟩ ⟨j1, j2⟩
    dsimp only at j1 j2
    refine WpR.of_vc ?_
    have hqle := hql e
    have hse := hqs e
    rw [← j2] at hqle hse
    by_cases he : e < 61 ∧ q.length < 12
    · obtain ⟨he1, he2⟩ := he
      have kAe := kA e (by omega)
      have hSe := fun o ho => hgS e o ho he1
      generalize plc z e (d + 1) = pe at *
      generalize S e = se at *
      by_cases hc2 : se = 1 ∧ -90000 ≤ pe ∧ pe ≤ 90000
      · rw [if_pos ⟨he2, hc2⟩] at hse
        obtain ⟨c1, c2, c3⟩ := hc2
        cases q with
        | nil =>
          (conv => whnf); (repeat' (first | ((with_reducible refine ifb_mk (fun hc => ?_) (fun hc => ?_)) <;> ((try simp only [decide_eq_true_eq, decide_eq_false_iff_not, Bool.not_eq_true', Bool.not_eq_false', Int.not_lt, Int.not_le, ne_eq, Decidable.not_not, beq_iff_eq, List.cons.injEq, and_true] at hc); (first | (exfalso; omega) | exact absurd True.intro hc | conv => whnf))) | ((with_reducible refine And.intro True.intro ?_); conv => whnf) | ((with_reducible refine grd_and ?_); refine And.intro (he1) ?_; conv => whnf) | ((with_reducible refine CallX.all ?_); refine CallW.of_ok (kAe _) ?_; conv => whnf) | ((with_reducible refine grd_get ?_); refine som_mk (a := ?_) ?hh ?_; (case hh => exact hSe _ (by show 0 + Int.toNat (e : Int) * 1 = e; omega)); conv => whnf) | (refine AppX.nil (n := 1) Nat.zero_lt_one (Nat.le_of_ble_eq_true rfl) ?_; conv => whnf) | ((with_reducible refine And.intro ?hh ?_); (case hh => exact condA); conv => whnf) | fail))
          all_goals first | (exfalso; omega) | exact ⟨(e + 1, [((e : Int), pe)]), [(3, 5)], by dsimp only; omega, ⟨by dsimp only; omega, hse.symm⟩, Back.auto⟩
        | cons y q' =>
          have hle : (y :: q').length = q'.length + 1 := rfl
          (conv => whnf); (repeat' (first | ((with_reducible refine ifb_mk (fun hc => ?_) (fun hc => ?_)) <;> ((try simp only [decide_eq_true_eq, decide_eq_false_iff_not, Bool.not_eq_true', Bool.not_eq_false', Int.not_lt, Int.not_le, ne_eq, Decidable.not_not, beq_iff_eq, List.cons.injEq, and_true] at hc); (first | (exfalso; omega) | exact absurd True.intro hc | conv => whnf))) | ((with_reducible refine And.intro True.intro ?_); conv => whnf) | ((with_reducible refine grd_and ?_); refine And.intro (he1) ?_; conv => whnf) | ((with_reducible refine CallX.all ?_); refine CallW.of_ok (kAe _) ?_; conv => whnf) | ((with_reducible refine grd_get ?_); refine som_mk (a := ?_) ?hh ?_; (case hh => exact hSe _ (by show 0 + Int.toNat (e : Int) * 1 = e; omega)); conv => whnf) | (refine AppX.own (n := 1) (L := gR eS (y :: q')) (len := q'.length + 1) rfl (gS_len (y :: q')) (gS_one (y :: q')) Nat.zero_lt_one (by omega) ?_; conv => whnf) | ((with_reducible refine And.intro ?hh ?_); (case hh => exact condA); conv => whnf) | fail))
          all_goals first | (exfalso; omega) | exact ⟨(e + 1, ((e : Int), pe) :: y :: q'), [(3, 5)], by dsimp only; omega, ⟨by dsimp only; omega, hse.symm⟩, Back.auto⟩
      · rw [if_neg (fun h => hc2 h.2)] at hse
        cases q with
        | nil =>
          (conv => whnf); (repeat' (first | ((with_reducible refine ifb_mk (fun hc => ?_) (fun hc => ?_)) <;> ((try simp only [decide_eq_true_eq, decide_eq_false_iff_not, Bool.not_eq_true', Bool.not_eq_false', Int.not_lt, Int.not_le, ne_eq, Decidable.not_not, beq_iff_eq, List.cons.injEq, and_true] at hc); (first | (exfalso; omega) | exact absurd True.intro hc | conv => whnf))) | ((with_reducible refine And.intro True.intro ?_); conv => whnf) | ((with_reducible refine grd_and ?_); refine And.intro (he1) ?_; conv => whnf) | ((with_reducible refine CallX.all ?_); refine CallW.of_ok (kAe _) ?_; conv => whnf) | ((with_reducible refine grd_get ?_); refine som_mk (a := ?_) ?hh ?_; (case hh => exact hSe _ (by show 0 + Int.toNat (e : Int) * 1 = e; omega)); conv => whnf) | ((with_reducible refine And.intro ?hh ?_); (case hh => exact condA); conv => whnf) | fail))
          all_goals first | (exfalso; omega) | exact ⟨(e + 1, []), [], by dsimp only; omega, ⟨by dsimp only; omega, hse.symm⟩, Back.auto⟩
        | cons y q' =>
          have hle : (y :: q').length = q'.length + 1 := rfl
          (conv => whnf); (repeat' (first | ((with_reducible refine ifb_mk (fun hc => ?_) (fun hc => ?_)) <;> ((try simp only [decide_eq_true_eq, decide_eq_false_iff_not, Bool.not_eq_true', Bool.not_eq_false', Int.not_lt, Int.not_le, ne_eq, Decidable.not_not, beq_iff_eq, List.cons.injEq, and_true] at hc); (first | (exfalso; omega) | exact absurd True.intro hc | conv => whnf))) | ((with_reducible refine And.intro True.intro ?_); conv => whnf) | ((with_reducible refine grd_and ?_); refine And.intro (he1) ?_; conv => whnf) | ((with_reducible refine CallX.all ?_); refine CallW.of_ok (kAe _) ?_; conv => whnf) | ((with_reducible refine grd_get ?_); refine som_mk (a := ?_) ?hh ?_; (case hh => exact hSe _ (by show 0 + Int.toNat (e : Int) * 1 = e; omega)); conv => whnf) | ((with_reducible refine And.intro ?hh ?_); (case hh => exact condA); conv => whnf) | fail))
          all_goals first | (exfalso; omega) | exact ⟨(e + 1, y :: q'), [], by dsimp only; omega, ⟨by dsimp only; omega, hse.symm⟩, Back.auto⟩
    · have hfin : q = q0 := by
        rw [hq0, j2]
        by_cases e6 : e = 61
        · rw [e6]
        · have h1 := hqt e (by rw [← j2]; omega) (61 - e)
          rw [show e + (61 - e) = 61 by omega] at h1
          exact h1.symm
      have hbb : ∀ j, j < q.length → -90000 ≤ bQ q j ∧ bQ q j ≤ 90000 := fun j hj => by
        have h1 := hbq0 j (by rw [← hfin]; exact hj)
        rw [← hfin] at h1; exact h1
      clear hqs hqt hgS hse j2 hq0 hq00 hql kA hbq0
      subst hfin
      cases q with
      | nil =>
        have el : l = [] := hl
        have ec : c = 0 := hc
        subst el; subst ec
        clear hl hc
        have he' : ¬ e < 61 := fun h => he ⟨h, by decide⟩
        (conv => whnf); (repeat' (first | ((with_reducible refine ifb_mk (fun hc => ?_) (fun hc => ?_)) <;> ((try simp only [decide_eq_true_eq, decide_eq_false_iff_not, Bool.not_eq_true', Bool.not_eq_false', Int.not_lt, Int.not_le, ne_eq, Decidable.not_not, beq_iff_eq, List.cons.injEq, and_true] at hc); (first | (exfalso; omega) | exact absurd True.intro hc | conv => whnf))) | ((with_reducible refine And.intro True.intro ?_); conv => whnf) | ((with_reducible refine WpR.loopU 1 ?_); conv => whnf) | ((with_reducible refine And.intro ?hh ?_); (case hh => exact condA); conv => whnf) | fail))
        all_goals first | (exfalso; omega) | exact ⟨[], rfl, rfl, rfl, trivial, trivs⟩
      | cons y q' =>
        have hlo := lsT_of (y :: q')
        generalize aQ (y :: q') = a at *
        generalize bQ (y :: q') = b at *
        have hM : (y :: q').length = q'.length + 1 := rfl
        rw [hM] at hlo hl hc hbb he
        have hll : l.length = q'.length + 1 := by rw [hl, lsT_len]
        have e0 : lsT a (bcF kw wr b 0) (q'.length + 1) = y :: q' := by rw [← hlo]; exact lsT_congr _ fun j _ => ⟨rfl, if_neg (Nat.not_lt_zero j)⟩
        have hself : ∀ ρ : Nat → Nat, SubQ ρ (.cells (ofL (gR eS (lsT a (bcF kw wr b 0) (q'.length + 1))) 0) true (some (2, (q'.length + 1) * 2))) (.cells (ofL (gR eS (y :: q')) 0) true (some (2, (q'.length + 1) * 2))) := fun ρ => by rw [e0]; exact SubQ.ofL rfl (gP_bare _) (.inr rfl)
        have hfinal : ∀ i, i ≤ q'.length + 1 → (kw = 0 → i = 0) → (i = q'.length + 1 ∨ kw = 0) → lsT a (bcF kw wr b i) (q'.length + 1) = l ∧ cnF (chF kw wr) i = c := fun i h1 h2 h3 => by
          rw [hl, hc]
          by_cases hk0 : kw = 0
          · have := h2 hk0
            subst this
            refine ⟨lsT_congr _ fun j _ => ⟨rfl, ?_⟩, ?_⟩
            · unfold bcF b3F
              rw [if_neg (Nat.not_lt_zero _), if_neg (by omega)]
            · rw [cnF_zero (q'.length + 1) fun j _ => ?_]; rfl
              unfold chF
              exact decide_eq_false fun h => by omega
          · have : i = q'.length + 1 := by omega
            subst this
            exact ⟨lsT_congr _ fun j hj => ⟨rfl, if_pos hj⟩, rfl⟩
        clear hlo hM hl hc
        have hMap3 : ∀ n i, ltB n (.cells (ofL (gR eS (lsT a (bcF kw wr b i) (q'.length + 1))) 0) true (some (2, (q'.length + 1) * 2))) := fun n i => ltB_ofLb (gP_bare _)
        have hMap := hMap3
        by_cases e6 : e < 61
        all_goals
          (conv => whnf); (repeat' (first | ((with_reducible refine ifb_mk (fun hc => ?_) (fun hc => ?_)) <;> ((try simp only [decide_eq_true_eq, decide_eq_false_iff_not, Bool.not_eq_true', Bool.not_eq_false', Int.not_lt, Int.not_le, ne_eq, Decidable.not_not, beq_iff_eq, List.cons.injEq, and_true] at hc); (first | (exfalso; omega) | exact absurd True.intro hc | conv => whnf))) | ((with_reducible refine And.intro True.intro ?_); conv => whnf) | ((with_reducible refine And.intro ?hh ?_); (case hh => exact condA); conv => whnf) | fail))
          all_goals first | (exfalso; omega) | skip
          refine WpR.loopA (ι := Nat × Int) [] [0, 1, 2, 3, 8, 10] [3] [] 4 (fun p => [(15, .int .i64 p.2), (16, .int .i64 p.1)]) (fun p => [(3, .cells (ofL (gR eS (lsT a (bcF kw wr b p.1) (q'.length + 1))) 0) true (some (2, (q'.length + 1) * 2)))]) (fun p => q'.length + 1 - p.1) (fun p => p.1 ≤ q'.length + 1 ∧ (kw = 0 → p.1 = 0) ∧ p.2 = (cnF (chF kw wr) p.1 : Nat)) ?_ ((0, 0)) (⟨Nat.zero_le _, fun _ => rfl, rfl⟩) [] ⟨rfl, rfl, (by (repeat' (first | exact True.intro | rfl | exact gr_ren rfl | exact aV_ren rfl | exact aW_ren rfl rfl | refine And.intro ?_ ?_))), (by (repeat' (first | exact True.intro | rfl | exact gr_ren rfl | exact aV_ren rfl | exact aW_ren rfl rfl | refine And.intro ?_ ?_))), (by (repeat' (first | exact True.intro | rfl | exact gr_ren rfl | exact aV_ren rfl | exact aW_ren rfl rfl | refine And.intro ?_ ?_))), ⟨.inr ⟨_, rfl, hself _⟩, trivial⟩, rfl, rfl⟩
          rintro ⟨i, ch⟩ ⟨j1, j2, j3⟩
          dsimp only at j1 j2 j3
          refine WpR.of_vc ?_
          by_cases hi : i < q'.length + 1 ∧ 0 < kw
          · obtain ⟨hi1, hi2⟩ := hi
            have hm := Nat.mod_lt i hi2
            have ej : (i : Int).tmod kw = ((i % kw : Nat) : Int) := by rw [Int.tmod_eq_emod_of_nonneg (by omega)]; omega
            have w0 : (kw : Int) ≠ 0 := by omega
            have w1 : InR ((i : Int).tmod kw) := by rw [ej]; unfold InR; omega
            have hwv := hwr _ hm
            have hdl : dlF kw wr i = if 4 < (wr (i % kw)).tmod 8 then (wr (i % kw)).tmod 8 - 4 else 0 := rfl
            have en := u8w hwv
            have hm8 := Int.tmod_lt_of_pos (wr (i % kw)) (b := 8) (by decide)
            have hm9 := Int.tmod_nonneg 8 hwv.1
            have hbi := hbb i hi1
            have hce : cnF (chF kw wr) (i + 1) = cnF (chF kw wr) i + (if chF kw wr i = true then 1 else 0) := rfl
            have hcl := cnF_le (chF kw wr) i
            have hbi0 : bcF kw wr b i i = b i := if_neg (Nat.lt_irrefl i)
            have hbs : ∀ j, j < q'.length + 1 → bcF kw wr b (i + 1) j = if j = i then b3F kw wr b i else bcF kw wr b i j := fun j _ => by
              unfold bcF
              by_cases h : j = i
              · rw [if_pos (by omega), if_pos h, h]
              · rw [if_neg h]
                by_cases h2 : j < i
                · rw [if_pos h2, if_pos (by omega)]
                · rw [if_neg h2, if_neg (by omega)]
            have hb3 : b3F kw wr b i = b i + dlF kw wr i := if_pos hi2
            have hch : chF kw wr i = decide (0 < kw ∧ 0 < dlF kw wr i) := rfl
            have y1 : InR ((IntKind.i64.wrap (wr (i % kw))).tmod 8) := by rw [en]; unfold InR; omega
            by_cases h4 : 4 < (wr (i % kw)).tmod 8
            · rw [if_pos h4] at hdl
              rw [hch, decide_eq_true ⟨hi2, by omega⟩, if_pos rfl] at hce
              have y2 : InR ((IntKind.i64.wrap (wr (i % kw))).tmod 8 - 4) := by rw [en]; unfold InR; omega
              have y3 : InR (b i + ((IntKind.i64.wrap (wr (i % kw))).tmod 8 - 4)) := by rw [en]; unfold InR; omega
              have y4 : 4 < (IntKind.i64.wrap (wr (i % kw))).tmod 8 := by rw [en]; exact h4
              have hget := fun o (ho : o = i * 2 + 1) => gT_at (a := a) (b := bcF kw wr b i) hi1 ho
              rw [hbi0] at hget
              have hput := fun o (ho : o = i * 2 + 1) v => putN_one (v := v) (hget o ho)
              have hgs : ∀ ρ, SubQ ρ (.cells (ofL (gR eS (lsT a (bcF kw wr b (i + 1)) (q'.length + 1))) 0) true (some (2, (q'.length + 1) * 2))) (.cells ((ofL (gR eS (lsT a (bcF kw wr b i) (q'.length + 1))) 0).set (0 + Int.toNat (i : Int) * 2 + 1) (.int .i64 (b i + ((IntKind.i64.wrap (wr (i % kw))).tmod 8 - 4)))) true (some (2, (q'.length + 1) * 2))) := fun ρ => grSet (gP_bare _) (by
                have := gT_set (a := a) (b := bcF kw wr b i) (b' := bcF kw wr b (i + 1)) hi1 (v := b i + ((IntKind.i64.wrap (wr (i % kw))).tmod 8 - 4)) fun j hj => by rw [hbs j hj, hb3, hdl, en]
                rw [show 0 + Int.toNat (i : Int) * 2 + 1 = i * 2 + 1 by omega]
                exact this)
              generalize lsT a (bcF kw wr b i) (q'.length + 1) = LL at *
              (conv => whnf); (repeat' (first | ((with_reducible refine ifb_mk (fun hc => ?_) (fun hc => ?_)) <;> ((try simp only [decide_eq_true_eq, decide_eq_false_iff_not, Bool.not_eq_true', Bool.not_eq_false', Int.not_lt, Int.not_le, ne_eq, Decidable.not_not, beq_iff_eq, List.cons.injEq, and_true] at hc); (first | (exfalso; omega) | exact absurd True.intro hc | conv => whnf))) | ((with_reducible refine And.intro True.intro ?_); conv => whnf) | ((with_reducible refine grd_and ?_); refine And.intro (hi1) ?_; conv => whnf) | ((with_reducible refine grd_and ?_); refine And.intro (hi2) ?_; conv => whnf) | ((with_reducible refine grd_and ?_); refine And.intro (w0) ?_; conv => whnf) | ((with_reducible refine grd_and ?_); refine And.intro (w1) ?_; conv => whnf) | ((with_reducible refine grd_and ?_); refine And.intro (hm) ?_; conv => whnf) | ((with_reducible refine grd_and ?_); refine And.intro (y1) ?_; conv => whnf) | ((with_reducible refine grd_and ?_); refine And.intro (y2) ?_; conv => whnf) | ((with_reducible refine grd_and ?_); refine And.intro (y3) ?_; conv => whnf) | ((with_reducible refine grd_and ?_); refine And.intro (y4) ?_; conv => whnf) | (((with_reducible refine idxP_mk (k := i % kw) ?hh ?_); (case hh => exact ej)); conv => whnf) | ((with_reducible refine grd_get ?_); refine som_mk (a := ?_) ?hh ?_; (case hh => exact hget _ (by show 0 + Int.toNat (i : Int) * 2 + 1 = i * 2 + 1; omega)); conv => whnf) | ((with_reducible refine grd_putN ?_); refine som_mk (a := ?_) ?hh ?_; (case hh => exact hput _ (by show 0 + Int.toNat (i : Int) * 2 + 1 = i * 2 + 1; omega) _); conv => whnf) | ((with_reducible refine And.intro ?hh ?_); (case hh => exact condA); conv => whnf) | fail))
              all_goals first | (exfalso; omega) | exact ⟨(i + 1, ch + 1), [], by dsimp only; omega, ⟨by dsimp only; omega, fun h => by omega, by dsimp only; omega⟩, Back.auto⟩
            · rw [if_neg h4] at hdl
              rw [hch, decide_eq_false (fun h => by omega), if_neg Bool.false_ne_true] at hce
              have y4 : ¬ 4 < (IntKind.i64.wrap (wr (i % kw))).tmod 8 := by rw [en]; exact h4
              have hnc : lsT a (bcF kw wr b (i + 1)) (q'.length + 1) = lsT a (bcF kw wr b i) (q'.length + 1) := lsT_congr _ fun j hj => ⟨rfl, by
                rw [hbs j hj]
                by_cases h : j = i
                · rw [if_pos h, h, hb3, hdl, hbi0]; omega
                · rw [if_neg h]⟩
              have hgs : ∀ ρ, SubQ ρ (.cells (ofL (gR eS (lsT a (bcF kw wr b (i + 1)) (q'.length + 1))) 0) true (some (2, (q'.length + 1) * 2))) (.cells (ofL (gR eS (lsT a (bcF kw wr b i) (q'.length + 1))) 0) true (some (2, (q'.length + 1) * 2))) := fun ρ => by rw [hnc]; exact SubQ.ofL rfl (gP_bare _) (.inr rfl)
              (conv => whnf); (repeat' (first | ((with_reducible refine ifb_mk (fun hc => ?_) (fun hc => ?_)) <;> ((try simp only [decide_eq_true_eq, decide_eq_false_iff_not, Bool.not_eq_true', Bool.not_eq_false', Int.not_lt, Int.not_le, ne_eq, Decidable.not_not, beq_iff_eq, List.cons.injEq, and_true] at hc); (first | (exfalso; omega) | exact absurd True.intro hc | conv => whnf))) | ((with_reducible refine And.intro True.intro ?_); conv => whnf) | ((with_reducible refine grd_and ?_); refine And.intro (hi1) ?_; conv => whnf) | ((with_reducible refine grd_and ?_); refine And.intro (hi2) ?_; conv => whnf) | ((with_reducible refine grd_and ?_); refine And.intro (w0) ?_; conv => whnf) | ((with_reducible refine grd_and ?_); refine And.intro (w1) ?_; conv => whnf) | ((with_reducible refine grd_and ?_); refine And.intro (hm) ?_; conv => whnf) | ((with_reducible refine grd_and ?_); refine And.intro (y1) ?_; conv => whnf) | ((with_reducible refine grd_and ?_); refine And.intro (y4) ?_; conv => whnf) | (((with_reducible refine idxP_mk (k := i % kw) ?hh ?_); (case hh => exact ej)); conv => whnf) | ((with_reducible refine And.intro ?hh ?_); (case hh => exact condA); conv => whnf) | fail))
              all_goals first | (exfalso; omega) | exact ⟨(i + 1, ch), [], by dsimp only; omega, ⟨by dsimp only; omega, fun h => by omega, by dsimp only; omega⟩, Back.auto⟩
          · obtain ⟨f1, f2⟩ := hfinal i j1 j2 (by omega)
            subst f2
            subst j3
            have hfs : ∀ ρ, SubQ ρ (grB 2 (gR eS l) l.length) (.cells (ofL (gR eS (lsT a (bcF kw wr b i) (q'.length + 1))) 0) true (some (2, (q'.length + 1) * 2))) := fun ρ => by rw [f1, hll]; exact SubQ.ofL rfl (gP_bare _) (.inr rfl)
            obtain ⟨x, l', rfl⟩ : ∃ x l', l = x :: l' := by
              cases l with
              | nil => simp at hll
              | cons x l' => exact ⟨x, l', rfl⟩
            by_cases hi1 : i < q'.length + 1
            · have hk0 : kw = 0 := by omega
              (conv => whnf); (repeat' (first | ((with_reducible refine ifb_mk (fun hc => ?_) (fun hc => ?_)) <;> ((try simp only [decide_eq_true_eq, decide_eq_false_iff_not, Bool.not_eq_true', Bool.not_eq_false', Int.not_lt, Int.not_le, ne_eq, Decidable.not_not, beq_iff_eq, List.cons.injEq, and_true] at hc); (first | (exfalso; omega) | exact absurd True.intro hc | conv => whnf))) | ((with_reducible refine And.intro True.intro ?_); conv => whnf) | ((with_reducible refine grd_and ?_); refine And.intro (hi1) ?_; conv => whnf) | ((with_reducible refine grd_and ?_); refine And.intro (hk0) ?_; conv => whnf) | ((with_reducible refine And.intro ?hh ?_); (case hh => exact condA); conv => whnf) | fail))
              all_goals first | (exfalso; omega) | exact ⟨[3], rfl, rfl, rfl, ⟨⟨_, rfl, rfl, hfs _⟩, ltB_ofLb (gP_bare _), rfl, trivial⟩, trivs⟩
            · (conv => whnf); (repeat' (first | ((with_reducible refine ifb_mk (fun hc => ?_) (fun hc => ?_)) <;> ((try simp only [decide_eq_true_eq, decide_eq_false_iff_not, Bool.not_eq_true', Bool.not_eq_false', Int.not_lt, Int.not_le, ne_eq, Decidable.not_not, beq_iff_eq, List.cons.injEq, and_true] at hc); (first | (exfalso; omega) | exact absurd True.intro hc | conv => whnf))) | ((with_reducible refine And.intro True.intro ?_); conv => whnf) | ((with_reducible refine grd_and ?_); refine And.intro (hi1) ?_; conv => whnf) | ((with_reducible refine And.intro ?hh ?_); (case hh => exact condA); conv => whnf) | fail))
              all_goals first | (exfalso; omega) | exact ⟨[3], rfl, rfl, rfl, ⟨⟨_, rfl, rfl, hfs _⟩, ltB_ofLb (gP_bare _), rfl, trivial⟩, trivs⟩
end Go.Proofs.K
namespace Go.Proofs.K
open Go.As
set_option maxRecDepth 20000
set_option linter.unusedVariables false
set_option linter.unusedSimpArgs false
/-! ### Seen, as a value; what is told of such a log -/

theorem seen_ok (h : As.H) (d : Nat) (hd : d ≤ 3) (z : Nat → Int) (hz : ∀ k, -20 ≤ z k ∧ z k ≤ 20) (kd : Nat) (hkd : kd ≤ 1000) (dy : Nat → Int) (hdy : ∀ i, i < kd → 0 ≤ dy i ∧ dy i ≤ 255) (kw : Nat) (hkw : kw ≤ 1000) (wr : Nat → Int) (hwr : ∀ i, i < kw → 0 ≤ wr i ∧ wr i ≤ 255) (q0 : List (Int × Int)) (hq0 : q0 = sqL z (d + 1) (inS dy kd) 61) :
    CallOk Try.prog 44 [.int .i64 d, .rsl false 1 (d + 1) (iG z), .rsl false 1 kd (bG dy), .rsl false 1 kw (bG wr)] h (.tup [lgV d false q0.length (aQ q0) (b3F kw wr (bQ q0)), .int .i64 ((cnF (chF kw wr) q0.length : Nat) : Int)]) h := by
  have hc := seen_new h d hd z hz kd hkd dy hdy kw hkw wr hwr q0 hq0 _ rfl _ rfl
  have hll := lsT_len (aQ q0) (b3F kw wr (bQ q0)) q0.length
  exact CallOk.freeze hc (FzL.tup (.cons (FzL.agg (.cons (.same rfl) (.cons (by
    have hg := grFz (i := 0) (n0 := h.n) (sz := 2) eS_len eS_bare (l := lsT (aQ q0) (b3F kw wr (bQ q0)) q0.length) (fun b hb => hb) (g := lkG (aQ q0) (b3F kw wr (bQ q0))) fun j x hx => by rw [lsT_rev _ _ _ _ _ hx]; rfl
    rw [hll] at hg
    exact hg) .nil))) (.cons (.same rfl) .nil))) gNew_wr
section
variable {z : Nat → Int} {d : Nat} {S : Nat → Int} {q : List (Int × Int)}
theorem seen_lg (hq : q = sqL z (d + 1) S 61) (kw : Nat) (wr : Nat → Int) : Lg q.length (aQ q) (b3F kw wr (bQ q)) := by
  have hm := fun j (hj : j < q.length) => sq_mem (z := z) (m := d + 1) (S := S) 61 _ (by rw [← hq]; exact q_mem hj)
  have hu := sq_up (z := z) (m := d + 1) (S := S) 61
  rw [← hq, ← List.pairwise_reverse] at hu
  refine ⟨by rw [hq]; exact sq_len 61, fun i hi => ?_, fun i j hi hj => ?_, fun i hi => ?_⟩
  · have h1 : 0 ≤ aQ q i ∧ aQ q i < (61 : Nat) := (hm i hi).1
    omega
  · have h1 := List.pairwise_iff_getElem.1 hu j i (by rw [List.length_reverse]; omega) (by rw [List.length_reverse]; exact hi) hj
    have e1 := q_at (q := q) (j := j) (by omega)
    have e2 := q_at hi
    rw [List.getElem?_eq_getElem (by rw [List.length_reverse]; omega)] at e1
    rw [List.getElem?_eq_getElem (by rw [List.length_reverse]; omega)] at e2
    rw [Option.some.inj e1, Option.some.inj e2] at h1
    exact h1
  · have h1 : -90000 ≤ bQ q i ∧ bQ q i ≤ 90000 := (hm i hi).2.2
    have h2 := dl_bd kw wr i
    unfold b3F
    split <;> omega
theorem seen_ps (hd : d ≤ 3) (hq : q = sqL z (d + 1) S 61) (kw : Nat) (wr : Nat → Int) {i : Nat} (hi : i < q.length) : psF (cut (d + 1) z) (aQ q) (b3F kw wr (bQ q)) i = !chF kw wr i := by
  have h1 : bQ q i = plc z (aQ q i).toNat (d + 1) := (sq_mem (z := z) (m := d + 1) (S := S) 61 _ (by rw [← hq]; exact q_mem hi)).2.1
  have h2 := dl_bd kw wr i
  unfold psF
  rw [plc_cut 4 (by omega), ← h1]
  unfold chF b3F
  by_cases h : 0 < kw ∧ 0 < dlF kw wr i
  · rw [if_pos h.1, decide_eq_true h, decide_eq_false (by omega)]; rfl
  · rw [decide_eq_false h]
    by_cases h3 : 0 < kw
    · rw [if_pos h3, decide_eq_true (by have : ¬ 0 < dlF kw wr i := fun hc => h ⟨h3, hc⟩; omega)]; rfl
    · rw [if_neg h3, decide_eq_true rfl]; rfl
end
theorem cnF_not (p : Nat → Bool) : ∀ n, cnF (fun i => !p i) n + cnF p n = n
  | 0 => rfl
  | n + 1 => by
    have ih := cnF_not p n
    show cnF (fun i => !p i) n + (if (!p n) = true then 1 else 0) + (cnF p n + (if p n = true then 1 else 0)) = n + 1
    cases p n with
    | true => rw [if_neg (by decide), if_pos rfl]; omega
    | false => rw [if_pos (by decide), if_neg (by decide)]; omega
theorem cnF_and (p r : Nat → Bool) : ∀ n, cnF p n + cnF r n ≤ cnF (fun i => p i && r i) n + n
  | 0 => Nat.le_refl _
  | n + 1 => by
    have ih := cnF_and p r n
    show cnF p n + (if p n = true then 1 else 0) + (cnF r n + (if r n = true then 1 else 0)) ≤ cnF (fun i => p i && r i) n + (if (p n && r n) = true then 1 else 0) + (n + 1)
    cases p n <;> cases r n <;> simp <;> omega
/-- The path is the only best one, and Only's. -/
theorem only_facts (d : Nat) (hd : d ≤ 3) (n : Nat) (a b : Nat → Int) (l : Lg n a b) (z : Nat → Int) (hz : ∀ k, -20 ≤ z k ∧ z k ≤ 20) (c : Nat) (hc5 : c ≤ 5) (hn : d + 1 + 2 * c ≤ n) (hp : cnF (psF (cut (d + 1) z) a b) n + c = n) :
    (∀ h, CallOk Try.prog 29 [lgV d false n a b] h (.tup [.int .i64 (((n - c : Nat)) : Int), .int .i64 0]) h) ∧ (∀ h, CallOk Try.prog 31 [lgV d false n a b] h (.tup [.int .i64 1, .int .i64 0]) h) ∧
    (∃ y : Nat → Int, (∀ i, i < d + 1 → y i = z i) ∧ ∀ h, CallOk Try.prog 36 [lgV d false n a b, .int .i64 c] h (.tup [.rsl false 1 (d + 1) (iG y), .int .i64 0]) h) ∧
    (∃ y : Nat → Int, (∀ i, i < d + 1 → y i = z i) ∧ ∀ h, CallOk Try.prog 35 [lgV d false n a b] h (.tup [.rsl false 1 (d + 1) (iG y), .int .i64 0]) h) ∧
    ∀ x, x < n → ∀ h, CallOk Try.prog 33 [lgV d false n a b, .int .i64 x] h (.tup [.int .i64 (if psF (cut (d + 1) z) a b x = true then 0 else 2), .int .i64 0]) h := by
  have hv : ckL d n a b = 0 := ckL_of (by omega) l
  have hcz : ∀ k, d < k → k < 4 → cut (d + 1) z k = 0 := fun k h1 _ => by unfold cut; rw [if_neg (by omega)]
  -- a course on which as many lie is the path
  have huni : ∀ p : Nat → Int, (∀ k, d < k → k < 4 → p k = 0) → n ≤ cnF (psF p a b) n + c → ∀ k, k < 4 → p k = cut (d + 1) z k := fun p hpz hpc => by
    have h1 := cnF_and (psF p a b) (psF (cut (d + 1) z) a b) n
    exact ps_one hd l hpz hcz (by omega)
  have hmem : c4 (cut (d + 1) z) ∈ mpS d n a b (2 ^ n) := (mpS_iff hd l).2 ⟨fun k h1 h2 => by rw [f4_at h2]; exact hcz k h1 h2, by rw [cnC_eq]; omega⟩
  have huc : ∀ x, x ∈ mpS d n a b (2 ^ n) → n ≤ cnC n a b x + c → x = c4 (cut (d + 1) z) := fun x hx hxc => by
    have h1 := huni (f4 x) ((mpS_iff hd l).1 hx).1 hxc
    exact (c4_f4 fun k hk => (h1 k hk).symm).symm
  have hcn : cnC n a b (c4 (cut (d + 1) z)) = n - c := by rw [cnC_eq]; omega
  have kM := fun h => mostP_ok h d hd false n a b hv
  have kC := fun h => countP_ok h d hd false n a b hv
  have hnd := mpS_nodup d n a b (2 ^ n)
  obtain ⟨c0, q, hF⟩ := List.exists_cons_of_ne_nil (l := mpS d n a b (2 ^ n)) (fun e => by rw [e] at hmem; cases hmem)
  obtain ⟨x, hx, hxm⟩ := mx_at (cn := cnC n a b) (q := c0 :: q) (by simp)
  have hge := mx_ge (cn := cnC n a b) (q := c0 :: q) (c := c4 (cut (d + 1) z)) (by rw [← hF]; exact hmem)
  have hxe := huc x (by rw [hF]; exact hx) (by omega)
  have hM : mxC (cnC n a b) (prQ (c0 :: q)) = n - c := by rw [← hxm, hxe, hcn]
  have hb1 := bst_one (cn := cnC n a b) (q := c0 :: q) (by rw [← hF]; exact hnd) (by simp) fun u hu w hw e1 e2 => (huc u (by rw [hF]; exact hu) (by rw [e1, hM]; omega)).trans (huc w (by rw [hF]; exact hw) (by rw [e2, hM]; omega)).symm
  obtain ⟨e, he⟩ := List.length_eq_one_iff.1 hb1
  have hee : e.1 = c4 (cut (d + 1) z) := by
    have h1 : e ∈ bstL (cnC n a b) (prQ (c0 :: q)) := by rw [he]; exact List.mem_singleton.2 rfl
    obtain ⟨h2, h3⟩ := List.mem_filter.1 h1
    have h3 := of_decide_eq_true h3
    exact huc e.1 (by rw [hF]; exact prQ_sub h2) (by omega)
  have kK := fun x hx h => kindP_ok h d hd false n a b hv x hx hF
  rw [hF] at kM kC
  dsimp only at kM kC
  rw [hM] at kM
  rw [hb1] at kC
  have hcut : ∀ i, i < d + 1 → cut (d + 1) z i = z i := fun i hi => by unfold cut; rw [if_pos hi]
  obtain ⟨g, g1, g2, g3, g4, g5, kP⟩ := path_facts d hd false n a b hv hF
  have hgz := huni g (fun k h1 _ => g2 k h1) (by omega)
  obtain ⟨g0, hg0, hgc, hgw, hge2⟩ := mpS_mem _ hmem
  have hcr : ∀ k, k < 4 → crG n a b g0 k = cut (d + 1) z k := fun k hk => by
    rw [← f4_at (p := crG n a b g0) hk, ← hge2, f4_at hk]
  have hlv0 : lvG d n a b c g0 = true := by
    unfold lvG
    rw [decide_eq_true hgc, hgw, Bool.true_and, Bool.true_and, psF_congr hcr]
    exact decide_eq_true (by omega)
  rcases first_of (p := lvG d n a b c) (2 ^ n) with hno | ⟨gg, h1, h2, h3⟩
  · rw [hno g0 hg0] at hlv0; cases hlv0
  have hO : ckO d n a b c = 0 := by
    unfold ckO
    rw [if_pos hv]
    split
    · split
      · omega
      · rfl
    · omega
  have kO := fun h => onlyP_yes h d false n a b c hO gg h1 h2 h3
  have hgg : ∀ k, k < 4 → crG n a b gg k = cut (d + 1) z k := by
    unfold lvG at h2
    rw [Bool.and_eq_true, Bool.and_eq_true, decide_eq_true_eq, decide_eq_true_eq] at h2
    exact huni _ (fun k h1 _ => th_z (by omega)) (by omega)
  refine ⟨kM, kC, ⟨_, fun i hi => by rw [hgg i (by omega), hcut i hi], kO⟩, ⟨g, fun i hi => by rw [hgz i (by omega), hcut i hi], kP⟩, fun x hx h => ?_⟩
  have k := kK x hx h
  rw [he] at k
  have hw : wrN a b x [e] = if psF (cut (d + 1) z) a b x = true then 0 else 1 := by
    unfold wrN
    have e1 : psF (f4 e.1) a b = psF (cut (d + 1) z) a b := psF_congr fun k hk => by rw [hee, f4_at hk]
    cases hps : psF (cut (d + 1) z) a b x with
    | true => rw [List.filter_cons_of_neg (by rw [e1, hps]; decide)]; rfl
    | false => rw [List.filter_cons_of_pos (by rw [e1, hps]; rfl)]; rfl
  rw [hw] at k
  cases hps : psF (cut (d + 1) z) a b x with
  | true => rw [hps] at k; exact k
  | false => rw [hps] at k; exact k
end Go.Proofs.K
namespace Go.Proofs.K
open Go.As
set_option maxRecDepth 20000
set_option linter.unusedVariables false
set_option linter.unusedSimpArgs false
/-! ### The law about the only path that few wrong sightings leave -/

set_option maxHeartbeats 16000000 in
theorem lawOnly (h : As.H) (x : Int) (hx : 0 ≤ x ∧ x ≤ 255) (p : Nat → Int) (kd : Nat) (dy : Nat → Int) (hkd9 : kd ≤ 9223372036854775807) (hdy : ∀ i, i < kd → 0 ≤ dy i ∧ dy i ≤ 255) (kw : Nat) (wr : Nat → Int) (hkw9 : kw ≤ 9223372036854775807) (hwr : ∀ i, i < kw → 0 ≤ wr i ∧ wr i ≤ 255) :
    CallOk Try.prog 8 [.int .u8 x, byV p, .rsl false 1 kd (bG dy), .rsl false 1 kw (bG wr)] h (.bool true) h := by
  have kWk := fun h : As.H => wwhole.everywhere rfl h
  by_cases hg : 30 < kd ∨ 30 < kw
  · refine CallOk.run0 Try.func8 rfl rfl rfl rfl rfl (WpR.of_vc ?_)
    (conv => whnf); (repeat' (first | ((with_reducible refine ifb_mk (fun hc => ?_) (fun hc => ?_)) <;> ((try simp only [decide_eq_true_eq, decide_eq_false_iff_not, Bool.not_eq_true', Bool.not_eq_false', Int.not_lt, Int.not_le, ne_eq, Decidable.not_not, beq_iff_eq, List.cons.injEq, and_true] at hc); (first | (exfalso; omega) | exact absurd True.intro hc | conv => whnf))) | ((with_reducible refine And.intro True.intro ?_); conv => whnf) | ((with_reducible refine CallX.all ?_); refine CallW.of_ok (kWk _) ?_; conv => whnf) | ((with_reducible refine WpR.draw (id := 19) mixed [0, 1, 2, 3, 4, 5, 6, 8, 9, 10, 11, 12, 13, 7, 14] [0, 0, 2, 0, 14, 30, 62, 127, 0, 256, 0, 1792, 3840, 7936, 16383] ?hh ?_); (case hh => kernel_rfl); conv => whnf) | ((with_reducible refine And.intro ?hh ?_); (case hh => exact condA); conv => whnf) | fail))
    all_goals first | (refine ⟨[], ?_, rfl, rfl, trivial, trivs⟩; simp only [renV, renL]; (first | done | rfl | (simp; done) | (simp; omega) | grind)) | (exfalso; omega)
  obtain ⟨d, ed, hd3⟩ : ∃ d : Nat, (IntKind.i64.wrap x).tmod 4 = d ∧ d ≤ 3 := by
    rw [u8w hx, Int.tmod_eq_emod_of_nonneg hx.1]
    exact ⟨(x % 4).toNat, by omega, by omega⟩
  have y1 : InR ((IntKind.i64.wrap x).tmod 4) := by rw [ed]; unfold InR; omega
  have kG := fun h' => given_ok h' p d hd3
  have hz := gvF_bd p
  generalize gvF p = z at *
  obtain ⟨q0, hq0⟩ : ∃ q0, q0 = sqL z (d + 1) (inS dy kd) 61 := ⟨_, rfl⟩
  have kS := fun h' => seen_ok h' d hd3 z hz kd (by omega) dy hdy kw (by omega) wr hwr q0 hq0
  have l := seen_lg hq0 kw wr
  have hps := fun i (hi : i < q0.length) => seen_ps hd3 hq0 kw wr hi
  have hsum := cnF_not (chF kw wr) q0.length
  rw [← cnF_congr (p := psF (cut (d + 1) z) (aQ q0) (b3F kw wr (bQ q0))) q0.length hps] at hsum
  clear hps hq0
  generalize cnF (chF kw wr) q0.length = c at *
  generalize aQ q0 = a at *
  generalize b3F kw wr (bQ q0) = b at *
  generalize q0.length = n at *
  have hn12 := l.le
  rw [← ed] at kG
  have kS' : ∀ h' : As.H, CallOk Try.prog 44 [.int .i64 ((IntKind.i64.wrap x).tmod 4), .rsl false 1 (d + 1) (iG z), .rsl false 1 kd (bG dy), .rsl false 1 kw (bG wr)] h' (.tup [lgV d false n a b, .int .i64 c]) h' := by rw [ed]; exact kS
  clear kS
  have hMapL : ∀ k : Nat, ltB k (.cells (ofL (lgV d false n a b).cells 0) true none) := fun k => ltB_ofL (by intro v hv; (repeat (rcases List.mem_cons.1 hv with rfl | hv; exact rfl)); cases hv)
  by_cases hg2 : 5 < c ∨ n < d + 1 + 2 * c
  · refine CallOk.run0 Try.func8 rfl rfl rfl rfl rfl (WpR.of_vc ?_)
    (conv => whnf); (repeat' (first | ((with_reducible refine ifb_mk (fun hc => ?_) (fun hc => ?_)) <;> ((try simp only [decide_eq_true_eq, decide_eq_false_iff_not, Bool.not_eq_true', Bool.not_eq_false', Int.not_lt, Int.not_le, ne_eq, Decidable.not_not, beq_iff_eq, List.cons.injEq, and_true] at hc); (first | (exfalso; omega) | exact absurd True.intro hc | conv => whnf))) | ((with_reducible refine And.intro True.intro ?_); conv => whnf) | ((with_reducible refine grd_and ?_); refine And.intro (y1) ?_; conv => whnf) | ((with_reducible refine CallX.all ?_); refine CallW.of_ok (kWk _) ?_; conv => whnf) | ((with_reducible refine CallX.all ?_); refine CallW.of_ok (kG _) ?_; conv => whnf) | ((with_reducible refine CallX.all ?_); refine CallW.of_ok (kS' _) ?_; conv => whnf) | ((with_reducible refine WpR.draw (id := 19) mixed [0, 1, 2, 3, 4, 5, 6, 8, 9, 10, 11, 12, 13, 7, 14] [0, 0, 2, 0, 14, 30, 62, 127, 0, 256, 0, 1792, 3840, 7936, 16383] ?hh ?_); (case hh => kernel_rfl); conv => whnf) | ((with_reducible refine And.intro ?hh ?_); (case hh => exact condA); conv => whnf) | fail))
    all_goals first | (refine ⟨[], ?_, rfl, rfl, trivial, trivs⟩; simp only [renV, renL]; (first | done | rfl | (simp; done) | (simp; omega) | grind)) | (exfalso; omega)
  obtain ⟨kM, kC, ⟨t1, ht1, kO⟩, ⟨t2, ht2, kP⟩, kK⟩ := only_facts d hd3 n a b l z hz c (by omega) (by omega) hsum
  have kL1 : ∀ h' : As.H, CallOk Try.prog 21 [.rsl false 1 (d + 1) (iG t1), .rsl false 1 (d + 1) (iG z)] h' (.bool true) h' := fun h' => by
    have k := longs_ok h' false false (d + 1) (d + 1) t1 z (by omega) (by omega)
    rw [eqB_t rfl ht1] at k
    exact k
  have kL2 : ∀ h' : As.H, CallOk Try.prog 21 [.rsl false 1 (d + 1) (iG t2), .rsl false 1 (d + 1) (iG z)] h' (.bool true) h' := fun h' => by
    have k := longs_ok h' false false (d + 1) (d + 1) t2 z (by omega) (by omega)
    rw [eqB_t rfl ht2] at k
    exact k
  have kA : ∀ j, j < n → ∀ h', CallOk Try.prog 45 [.rsl false 1 (d + 1) (iG z), .int .i64 (a j)] h' (.int .i64 (plc z (a j).toNat (d + 1))) h' := fun j hj h' => by
    have := l.rg j hj
    have k := atOf_ok h' false (d + 1) z (a j).toNat (by omega) (by omega) fun k _ => by have := hz k; omega
    rwa [show (((a j).toNat : Nat) : Int) = a j by omega] at k
  have hpj : ∀ j, psF (cut (d + 1) z) a b j = decide (plc z (a j).toNat (d + 1) = b j) := fun j => by
    unfold psF
    rw [plc_cut 4 (by omega)]
  have y2 : InR ((n : Int) - c) := by unfold InR; omega
  have ecn : ((n - c : Nat) : Int) = (n : Int) - c := by omega
  rw [ecn] at kM
  clear hsum ht1 ht2 hz l
  refine CallOk.run0 Try.func8 rfl rfl rfl rfl rfl (WpR.of_vc ?_)
  (conv => whnf); (repeat' (first | ((with_reducible refine ifb_mk (fun hc => ?_) (fun hc => ?_)) <;> ((try simp only [decide_eq_true_eq, decide_eq_false_iff_not, Bool.not_eq_true', Bool.not_eq_false', Int.not_lt, Int.not_le, ne_eq, Decidable.not_not, beq_iff_eq, List.cons.injEq, and_true] at hc); (first | (exfalso; omega) | exact absurd True.intro hc | conv => whnf))) | ((with_reducible refine And.intro True.intro ?_); conv => whnf) | ((with_reducible refine grd_and ?_); refine And.intro (y1) ?_; conv => whnf) | ((with_reducible refine grd_and ?_); refine And.intro (y2) ?_; conv => whnf) | ((with_reducible refine CallX.all ?_); refine CallW.of_ok (kG _) ?_; conv => whnf) | ((with_reducible refine CallX.all ?_); refine CallW.of_ok (kS' _) ?_; conv => whnf) | ((with_reducible refine CallX.all ?_); refine CallW.of_ok (kO _) ?_; conv => whnf) | ((with_reducible refine CallX.all ?_); refine CallW.of_ok (kP _) ?_; conv => whnf) | ((with_reducible refine CallX.all ?_); refine CallW.of_ok (kC _) ?_; conv => whnf) | ((with_reducible refine CallX.all ?_); refine CallW.of_ok (kM _) ?_; conv => whnf) | ((with_reducible refine CallX.all ?_); refine CallW.of_ok (kL1 _) ?_; conv => whnf) | ((with_reducible refine grd_ex ?_); refine ex_ok (kL1 _) ?_; conv => whnf) | ((with_reducible refine CallX.all ?_); refine CallW.of_ok (kL2 _) ?_; conv => whnf) | ((with_reducible refine grd_ex ?_); refine ex_ok (kL2 _) ?_; conv => whnf) | ((with_reducible refine WpR.draw (id := 19) mixed [0, 1, 2, 3, 4, 5, 6, 8, 9, 10, 11, 12, 13, 7, 14] [0, 0, 2, 0, 14, 30, 62, 127, 0, 256, 0, 1792, 3840, 7936, 16383] ?hh ?_); (case hh => kernel_rfl); conv => whnf) | ((with_reducible refine And.intro ?hh ?_); (case hh => exact condA); conv => whnf) | fail))
  all_goals first | (exfalso; omega) | skip
  refine WpR.loopA (ι := Nat) [] [5, 8, 10, 11] [] [] 2 (fun i => [(21, .int .i64 i)]) (fun i => []) (fun i => n - i) (fun i => i ≤ n) ?_ (0) (Nat.zero_le _) [] Back.auto
  intro j j1
  refine WpR.of_vc ?_
  by_cases hj : j < n
  · have kAj := kA j hj
    have kKj := kK j hj
    rw [hpj j] at kKj
    generalize plc z (a j).toNat (d + 1) = pj at *
    by_cases he : pj = b j
    · rw [decide_eq_true he, if_pos rfl] at kKj
      (conv => whnf); (repeat' (first | ((with_reducible refine ifb_mk (fun hc => ?_) (fun hc => ?_)) <;> ((try simp only [decide_eq_true_eq, decide_eq_false_iff_not, Bool.not_eq_true', Bool.not_eq_false', Int.not_lt, Int.not_le, ne_eq, Decidable.not_not, beq_iff_eq, List.cons.injEq, and_true] at hc); (first | (exfalso; omega) | exact absurd True.intro hc | conv => whnf))) | ((with_reducible refine And.intro True.intro ?_); conv => whnf) | ((with_reducible refine grd_and ?_); refine And.intro (hj) ?_; conv => whnf) | ((with_reducible refine grd_and ?_); refine And.intro (he) ?_; conv => whnf) | ((with_reducible refine CallX.all ?_); refine CallW.of_ok (kKj _) ?_; conv => whnf) | ((with_reducible refine CallX.all ?_); refine CallW.of_ok (kAj _) ?_; conv => whnf) | ((with_reducible refine grd_ex ?_); refine ex_ok (kAj _) ?_; conv => whnf) | ((with_reducible refine WpR.draw (id := 19) mixed [0, 1, 2, 3, 4, 5, 6, 8, 9, 10, 11, 12, 13, 7, 14] [0, 0, 2, 0, 14, 30, 62, 127, 0, 256, 0, 1792, 3840, 7936, 16383] ?hh ?_); (case hh => kernel_rfl); conv => whnf) | ((with_reducible refine And.intro ?hh ?_); (case hh => exact condA); conv => whnf) | fail))
      all_goals first | (exfalso; omega) | exact ⟨j + 1, [], by omega, by omega, Back.auto⟩
    · rw [decide_eq_false he, if_neg Bool.false_ne_true] at kKj
      (conv => whnf); (repeat' (first | ((with_reducible refine ifb_mk (fun hc => ?_) (fun hc => ?_)) <;> ((try simp only [decide_eq_true_eq, decide_eq_false_iff_not, Bool.not_eq_true', Bool.not_eq_false', Int.not_lt, Int.not_le, ne_eq, Decidable.not_not, beq_iff_eq, List.cons.injEq, and_true] at hc); (first | (exfalso; omega) | exact absurd True.intro hc | conv => whnf))) | ((with_reducible refine And.intro True.intro ?_); conv => whnf) | ((with_reducible refine grd_and ?_); refine And.intro (hj) ?_; conv => whnf) | ((with_reducible refine grd_and ?_); refine And.intro (he) ?_; conv => whnf) | ((with_reducible refine CallX.all ?_); refine CallW.of_ok (kKj _) ?_; conv => whnf) | ((with_reducible refine CallX.all ?_); refine CallW.of_ok (kAj _) ?_; conv => whnf) | ((with_reducible refine grd_ex ?_); refine ex_ok (kAj _) ?_; conv => whnf) | ((with_reducible refine WpR.draw (id := 19) mixed [0, 1, 2, 3, 4, 5, 6, 8, 9, 10, 11, 12, 13, 7, 14] [0, 0, 2, 0, 14, 30, 62, 127, 0, 256, 0, 1792, 3840, 7936, 16383] ?hh ?_); (case hh => kernel_rfl); conv => whnf) | ((with_reducible refine And.intro ?hh ?_); (case hh => exact condA); conv => whnf) | fail))
      all_goals first | (exfalso; omega) | exact ⟨j + 1, [], by omega, by omega, Back.auto⟩
  · (conv => whnf); (repeat' (first | ((with_reducible refine ifb_mk (fun hc => ?_) (fun hc => ?_)) <;> ((try simp only [decide_eq_true_eq, decide_eq_false_iff_not, Bool.not_eq_true', Bool.not_eq_false', Int.not_lt, Int.not_le, ne_eq, Decidable.not_not, beq_iff_eq, List.cons.injEq, and_true] at hc); (first | (exfalso; omega) | exact absurd True.intro hc | conv => whnf))) | ((with_reducible refine And.intro True.intro ?_); conv => whnf) | ((with_reducible refine grd_and ?_); refine And.intro (hj) ?_; conv => whnf) | ((with_reducible refine CallX.all ?_); refine CallW.of_ok (kWk _) ?_; conv => whnf) | ((with_reducible refine grd_ex ?_); refine ex_ok (kWk _) ?_; conv => whnf) | ((with_reducible refine WpR.draw (id := 19) mixed [0, 1, 2, 3, 4, 5, 6, 8, 9, 10, 11, 12, 13, 7, 14] [0, 0, 2, 0, 14, 30, 62, 127, 0, 256, 0, 1792, 3840, 7936, 16383] ?hh ?_); (case hh => kernel_rfl); conv => whnf) | ((with_reducible refine And.intro ?hh ?_); (case hh => exact condA); conv => whnf) | fail))
    all_goals first | (exfalso; omega) | (refine ⟨[], ?_, rfl, rfl, trivial, trivs⟩; simp only [renV, renL]; (first | done | rfl | (simp; done) | (simp; omega) | grind))
end Go.Proofs.K
